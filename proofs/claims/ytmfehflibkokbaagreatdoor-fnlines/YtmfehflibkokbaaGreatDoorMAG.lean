import Derived.Test.YtmfehflibkokbaaGreatDoorMAD
import Derived.Test.YtmfehflibkokbaaGreatDoorMAF
set_option maxHeartbeats 16000000
set_option maxRecDepth 100000
namespace Go.Proofs.YtmfehflibkokbaaGreatDoor
open Go.Proofs.Tryz
open Go.RowKit
attribute [-go_sem] Builtin.append_
theorem aDi {F:Nat} {v:Value} {zs:List Int} (hz:Zs zs) (Γ:Gm) (w:World) (hs:StD F v zs Γ w) :
  Calls prog 31 #[.pointer (some ⟨F,0,none⟩)] w fun e w'=>Tds F v zs Γ w e w':=by
 have HZ:=aB hz;have D0:Dn F v zs Γ w (upd Γ w.heap.size (.tr,1,0)) (w.alloc (Obj.cells #[.slice none 0 0,.slice none 0 0] 26)):=(Dn.refl hs).new .tr 1 _ rfl (aFV (HW.nil _ _ _) (HW.nil _ _ _));have hR:=bG Γ w.heap.size (.tr,1,0);generalize upd Γ w.heap.size (.tr,1,0)=Γ1 at *;have HN:=aB (D0.st.next hz);have m9:=aB D0;clear hs hz D0
 go_enter func31,ntmps31
 go_wp2_with fail
 refine HN.out.mono ?_;rintro e w1 ⟨k1,rfl,p3,p5,s1,g1⟩;have k7:=aB (m9.out.next s1 g1);have k8:=aB (s1.next HZ.out);clear HN m9 s1 g1;generalize w.heap.size=R at *;obtain ⟨qa,p8⟩:∃ qa,(k1%3==0)=qa:=⟨_,rfl⟩;cases qa
 ·go_wp2_with fail
  refine k8.out.mono ?_;rintro e w2 ⟨k2,rfl,n2,n0,s2,g2⟩;have f4:=aB (k7.out.next s2 g2);clear k8 k7 s2 g2;obtain ⟨qb,n9⟩:∃ qb,(k2%3==1)=qb:=⟨_,rfl⟩;cases qb
  ·have h2:=aB (dV HZ.out 30 (by omega) (by omega) 4 (by omega) Γ1 w2 f4.out.st)
   go_wp2_with fail
   refine h2.out.mono ?_;rintro e w3 ⟨x,rfl,Γ3,nxD,d7,i8,d9⟩;have D3:=f4.out.trans d9;have k9:nB 4=341:=(by decide);have D4:=D3.new (.ts nxD) 1 #[x,.slice none 0 0] rfl (aA2 d7 (HW.nil _ _ _));have f6:=bG Γ3 w3.heap.size (.ts nxD,1,0);have h6:=(d9.le.trans (cQ D3.st.wt (.ts nxD,1,0))).full hR;have h4:Γ w3.heap.size=none:=D3.le.none_of (D3.st.wt.gone (Nat.le_refl _));obtain ⟨xa,xc,j3,_⟩:=d7.sl;subst j3;generalize upd Γ3 w3.heap.size (.ts nxD,1,0)=Γ4 at *;obtain ⟨W4,d6⟩:∃ W4,W4=w3.alloc (Obj.cells #[.slice xa nxD xc,.slice none 0 0] 26):=⟨_,rfl⟩;have h1:Hid (Dn F v zs Γ w Γ4 W4):=(by unfold Hid;rw [d6];exact D4);clear h2 f4 D3 d9 D4 d7;go_wp2;rw [<- d6];clear d6;generalize w3.heap.size=Tb at *;have i2:=aB h4;clear h4
   go_loopw [5] (fun i W=>∃ (j:Nat) (Γ5:Gm) (q:Nat),j<=4/\i=.int .i64 j/\1<=q/\q<=3200/\Γ5 R=some (.tr,1,0)/\Γ5 Tb=some (.ts q,1,0)/\Dn F v zs Γ w Γ5 W) (fun i _=>4 - (intOf i).toNat)
   case atStart=>exact ⟨0,Γ4,nxD,by omega,rfl,i8.1,by omega,h6,f6,h1.out⟩
   case round=>
    obtain ⟨j,Γ5,q,hj,rfl,d3,c8,a5,N,a8⟩:=hrel;obtain ⟨p0,d0,p1,m1,d1,t0,t1,f3,A,j7,j5⟩:=a8.st.wt.trees N;have b9:=aB a8;clear h1 h6 f6
    by_cases m6:(j:Int)<4
    ·by_cases m5:(q:Int)<6
     ·have g0:=aB (a8.st.left HZ.out);clear a8 f3 A
      go_wp2_with fail
      refine g0.out.mono ?_;rintro e wc ⟨nl,rfl,l4,sL,gL⟩;have J:=aB (b9.out.K gL);clear g0 b9 sL gL t0 t1 j7 j5
      by_cases j8:(4:Int)<(nl:Int)
      ·have c5:4<nl:=(by omega);have g6:=aB (dV HZ.out 30 (by omega) (by omega) 3 (by omega) Γ5 wc J.out.st)
       go_wp2_with fail
       refine g6.out.mono ?_;rintro e Z ⟨mo,rfl,Γ6,nm,d8,l6,D⟩;have m4:nB 3=85:=(by decide);have n8:Nd8 64 Γ6 (.int .i64 5) (.slice none 0 0) (.bool false) (.slice none 0 0) (.slice none 0 0) (.slice none 0 0) (.int .i64 2) (.slice none 0 0):=⟨⟨5,rfl,by omega,by omega⟩,HW.nil _ _ _,⟨false,rfl⟩,HW.nil _ _ _,HW.nil _ _ _,HW.nil _ _ _,⟨2,rfl,by omega,by omega⟩,HW.nil _ _ _⟩;have D6:=J.out.trans D;have D7:Dn F v zs Γ w (upd Γ6 Z.heap.size (.nd,1,0)) (Z.alloc (Obj.cells #[.int .i64 5,.slice none 0 0,.bool false,.slice none 0 0,.slice none 0 0,.slice none 0 0,.int .i64 2,.slice none 0 0] 35)):=D6.new .nd 1 _ rfl n8.hc;have l7:=cQ D6.st.wt (.nd,1,0)
       have D8:Dn F v zs Γ w (upd (upd Γ6 Z.heap.size (.nd,1,0)) (Z.heap.size+1) (.nd,1,0)) ((Z.alloc (Obj.cells #[.int .i64 5,.slice none 0 0,.bool false,.slice none 0 0,.slice none 0 0,.slice none 0 0,.int .i64 2,.slice none 0 0] 35)).alloc (Obj.cells #[.int .i64 5,.slice none 0 0,.bool false,.slice none 0 0,.slice none 0 0,.slice none 0 0,.int .i64 2,.slice none 0 0] 35)):=by
        have h:=D7.new .nd 1 _ rfl (n8.mono l7).hc;simp only [World.size_alloc] at h;exact h
       have l8:Gle (upd Γ6 Z.heap.size (.nd,1,0)) (upd (upd Γ6 Z.heap.size (.nd,1,0)) (Z.heap.size+1) (.nd,1,0)):=by
        have h:=cQ D7.st.wt (.nd,1,0);simp only [World.size_alloc] at h;exact h
       have g4:HV (upd (upd Γ6 Z.heap.size (.nd,1,0)) (Z.heap.size+1) (.nd,1,0)) .nd (.slice (some ⟨Z.heap.size+1,0,none⟩) 1 1) 1:=.inr ⟨_,1,0,rfl,bG _ _ _,by omega,by unfold maxLen;omega⟩;have c6:=(D.le.trans (l7.trans l8)).full N;have g9:=(D.le.trans (l7.trans l8)).full a5;obtain ⟨E,G,c4,c7,d5,c9,d4,y,_,b0,_⟩:=D8.st.wt.trees c6;obtain ⟨v9,w9,Γ9,b3,c3,b8,D9⟩:=D8.apps (k:=.nd) g4 y (by omega);obtain ⟨m0,j6,Γ10,a7,b1,b6,d2⟩:=D9.apps (k:=.nd) c3 (d8.mono (l7.trans (l8.trans b8))) (by omega);have b2:=(b8.trans b6).full c6;have c1:=(b8.trans b6).full g9;obtain ⟨_,_,_,_,_,k5,_,_,_,j4,_⟩:=d2.st.wt.trees b2;have h8:=d2.re b2 i2.out b1;have j2:Tb≠R:=fun e=>by rw [e] at N;rw [N] at a5;cases a5
       have f7:upd Γ10 Tb (.ts (1+q+nm),1,0) R=some (.tr,1,0):=(by unfold upd;rw [if_neg (Ne.symm j2)];exact c1);obtain ⟨ma,mc,j1,_⟩:=d8.sl;obtain ⟨pa,pc,i4,_⟩:=c3.sl;obtain ⟨i5,i3,i9,_⟩:=b1.sl;subst j1 i4 i9;replace b3:(Builtin.append_ #[23,23] 23 #[.slice (some ⟨Z.heap.size+1,0,none⟩) 1 1,.slice E q G]).run prog ((Z.alloc (Obj.cells #[.int .i64 5,.slice none 0 0,.bool false,.slice none 0 0,.slice none 0 0,.slice none 0 0,.int .i64 2,.slice none 0 0] 35)).alloc (Obj.cells #[.int .i64 5,.slice none 0 0,.bool false,.slice none 0 0,.slice none 0 0,.slice none 0 0,.int .i64 2,.slice none 0 0] 35))=.ok (.slice pa (1+q) pc) w9:=b3;replace a7:(Builtin.append_ #[23,23] 23 #[.slice pa (1+q) pc,.slice ma nm mc]).run prog w9=.ok (.slice i5 (1+q+nm) i3) j6:=a7;have h9:=aB h8;clear D6 D D7 D8 D9 d2 h8 c3 b1 d8 y g4 n8 l7 l8 b8 b6 g6 c6 g9 b2 c1 N a5 J;go_wp2
       go_roundw
       case rel=>exact ⟨j+1,upd Γ10 Tb (.ts (1+q+nm),1,0),1+q+nm,by omega,by go_num,by omega,by omega,f7,bG _ _ _,h9.out⟩
       case measure=>simp [intOf];omega
      ·have c5:¬ 4<nl:=(by omega);have S:=aB (aX J.out.st HZ.out 30 (by omega) (by omega))
       go_wp2_with fail
       refine S.out.mono ?_;rintro e Z ⟨tl,rfl,Γ6,A,D⟩;have X:=D.le.full N;have M:=D.le.full a5;have D6:=J.out.trans D;have D7:=D6.set X 1 (u:=tl) A;obtain ⟨E,G,c4,c7,d5,c9,d4,y,U,b0,c2⟩:=D6.st.wt.trees X;obtain ⟨_,_,_,_,_,_,r0,r1,h5,g3⟩:=D7.st.wt.tree M;obtain ⟨ta,tn,tc,b5⟩:=A.form;have D8:=D7.set M 0 (u:=.slice E q G) (⟨q,by omega,y⟩:HW Γ6 .nd (64*50) (.slice E q G));have D9:=D8.set M 1 (u:=tl) A;have b7:=aB D9;have O:=aB y;have Y:=aB A;subst b5;clear S D6 D D7 D8 D9 y A U;go_wp2;refine bodyPost_ret (v:=.agg #[.slice E q G,.slice ta tn tc]) (by simp [results,Tryz.results31,go_sem,r0,r1]) rfl ?_;exact ⟨_,_,rfl,Γ6,q,O.out,⟨d3,c8⟩,Y.out,b7.out⟩
     ·have J:=b9;clear a8 f3 A;have S:=aB (aX J.out.st HZ.out 30 (by omega) (by omega))
      go_wp2_with fail
      refine S.out.mono ?_;rintro e Z ⟨tl,rfl,Γ6,A,D⟩;have X:=D.le.full N;have M:=D.le.full a5;have D6:=J.out.trans D;have D7:=D6.set X 1 (u:=tl) A;obtain ⟨E,G,c4,c7,d5,c9,d4,y,U,b0,c2⟩:=D6.st.wt.trees X;obtain ⟨_,_,_,_,_,_,r0,r1,h5,g3⟩:=D7.st.wt.tree M;obtain ⟨ta,tn,tc,b5⟩:=A.form;have D8:=D7.set M 0 (u:=.slice E q G) (⟨q,by omega,y⟩:HW Γ6 .nd (64*50) (.slice E q G));have D9:=D8.set M 1 (u:=tl) A;have b7:=aB D9;have O:=aB y;have Y:=aB A;subst b5;clear S D6 D D7 D8 D9 y A U;go_wp2;refine bodyPost_ret (v:=.agg #[.slice E q G,.slice ta tn tc]) (by simp [results,Tryz.results31,go_sem,r0,r1]) rfl ?_;exact ⟨_,_,rfl,Γ6,q,O.out,⟨d3,c8⟩,Y.out,b7.out⟩
    ·have J:=b9;clear a8 f3 A;have S:=aB (aX J.out.st HZ.out 30 (by omega) (by omega))
     go_wp2_with fail
     refine S.out.mono ?_;rintro e Z ⟨tl,rfl,Γ6,A,D⟩;have X:=D.le.full N;have M:=D.le.full a5;have D6:=J.out.trans D;have D7:=D6.set X 1 (u:=tl) A;obtain ⟨E,G,c4,c7,d5,c9,d4,y,U,b0,c2⟩:=D6.st.wt.trees X;obtain ⟨_,_,_,_,_,_,r0,r1,h5,g3⟩:=D7.st.wt.tree M;obtain ⟨ta,tn,tc,b5⟩:=A.form;have D8:=D7.set M 0 (u:=.slice E q G) (⟨q,by omega,y⟩:HW Γ6 .nd (64*50) (.slice E q G));have D9:=D8.set M 1 (u:=tl) A;have b7:=aB D9;have O:=aB y;have Y:=aB A;subst b5;clear S D6 D D7 D8 D9 y A U;go_wp2;refine bodyPost_ret (v:=.agg #[.slice E q G,.slice ta tn tc]) (by simp [results,Tryz.results31,go_sem,r0,r1]) rfl ?_;exact ⟨_,_,rfl,Γ6,q,O.out,⟨d3,c8⟩,Y.out,b7.out⟩
  ·have h2:=aB (dV HZ.out 100000 (by omega) (by omega) 4 (by omega) Γ1 w2 f4.out.st)
   go_wp2_with fail
   refine h2.out.mono ?_;rintro e w3 ⟨x,rfl,Γ3,nxD,d7,i8,d9⟩;have D3:=f4.out.trans d9;have k9:nB 4=341:=(by decide);have D4:=D3.new (.ts nxD) 1 #[x,.slice none 0 0] rfl (aA2 d7 (HW.nil _ _ _));have f6:=bG Γ3 w3.heap.size (.ts nxD,1,0);have h6:=(d9.le.trans (cQ D3.st.wt (.ts nxD,1,0))).full hR;have h4:Γ w3.heap.size=none:=D3.le.none_of (D3.st.wt.gone (Nat.le_refl _));obtain ⟨xa,xc,j3,_⟩:=d7.sl;subst j3;generalize upd Γ3 w3.heap.size (.ts nxD,1,0)=Γ4 at *;obtain ⟨W4,d6⟩:∃ W4,W4=w3.alloc (Obj.cells #[.slice xa nxD xc,.slice none 0 0] 26):=⟨_,rfl⟩;have h1:Hid (Dn F v zs Γ w Γ4 W4):=(by unfold Hid;rw [d6];exact D4);clear h2 f4 D3 d9 D4 d7;go_wp2;rw [<- d6];clear d6;generalize w3.heap.size=Tb at *;have i2:=aB h4;clear h4
   go_loopw [5] (fun i W=>∃ (j:Nat) (Γ5:Gm) (q:Nat),j<=4/\i=.int .i64 j/\1<=q/\q<=3200/\Γ5 R=some (.tr,1,0)/\Γ5 Tb=some (.ts q,1,0)/\Dn F v zs Γ w Γ5 W) (fun i _=>4 - (intOf i).toNat)
   case atStart=>exact ⟨0,Γ4,nxD,by omega,rfl,i8.1,by omega,h6,f6,h1.out⟩
   case round=>
    obtain ⟨j,Γ5,q,hj,rfl,d3,c8,a5,N,a8⟩:=hrel;obtain ⟨p0,d0,p1,m1,d1,t0,t1,f3,A,j7,j5⟩:=a8.st.wt.trees N;have b9:=aB a8;clear h1 h6 f6
    by_cases m6:(j:Int)<4
    ·by_cases m5:(q:Int)<6
     ·have g0:=aB (a8.st.left HZ.out);clear a8 f3 A
      go_wp2_with fail
      refine g0.out.mono ?_;rintro e wc ⟨nl,rfl,l4,sL,gL⟩;have J:=aB (b9.out.K gL);clear g0 b9 sL gL t0 t1 j7 j5
      by_cases j8:(4:Int)<(nl:Int)
      ·have c5:4<nl:=(by omega);have g6:=aB (dV HZ.out 100000 (by omega) (by omega) 3 (by omega) Γ5 wc J.out.st)
       go_wp2_with fail
       refine g6.out.mono ?_;rintro e Z ⟨mo,rfl,Γ6,nm,d8,l6,D⟩;have m4:nB 3=85:=(by decide);have n8:Nd8 64 Γ6 (.int .i64 5) (.slice none 0 0) (.bool false) (.slice none 0 0) (.slice none 0 0) (.slice none 0 0) (.int .i64 2) (.slice none 0 0):=⟨⟨5,rfl,by omega,by omega⟩,HW.nil _ _ _,⟨false,rfl⟩,HW.nil _ _ _,HW.nil _ _ _,HW.nil _ _ _,⟨2,rfl,by omega,by omega⟩,HW.nil _ _ _⟩;have D6:=J.out.trans D;have D7:Dn F v zs Γ w (upd Γ6 Z.heap.size (.nd,1,0)) (Z.alloc (Obj.cells #[.int .i64 5,.slice none 0 0,.bool false,.slice none 0 0,.slice none 0 0,.slice none 0 0,.int .i64 2,.slice none 0 0] 35)):=D6.new .nd 1 _ rfl n8.hc;have l7:=cQ D6.st.wt (.nd,1,0)
       have D8:Dn F v zs Γ w (upd (upd Γ6 Z.heap.size (.nd,1,0)) (Z.heap.size+1) (.nd,1,0)) ((Z.alloc (Obj.cells #[.int .i64 5,.slice none 0 0,.bool false,.slice none 0 0,.slice none 0 0,.slice none 0 0,.int .i64 2,.slice none 0 0] 35)).alloc (Obj.cells #[.int .i64 5,.slice none 0 0,.bool false,.slice none 0 0,.slice none 0 0,.slice none 0 0,.int .i64 2,.slice none 0 0] 35)):=by
        have h:=D7.new .nd 1 _ rfl (n8.mono l7).hc;simp only [World.size_alloc] at h;exact h
       have l8:Gle (upd Γ6 Z.heap.size (.nd,1,0)) (upd (upd Γ6 Z.heap.size (.nd,1,0)) (Z.heap.size+1) (.nd,1,0)):=by
        have h:=cQ D7.st.wt (.nd,1,0);simp only [World.size_alloc] at h;exact h
       have g4:HV (upd (upd Γ6 Z.heap.size (.nd,1,0)) (Z.heap.size+1) (.nd,1,0)) .nd (.slice (some ⟨Z.heap.size+1,0,none⟩) 1 1) 1:=.inr ⟨_,1,0,rfl,bG _ _ _,by omega,by unfold maxLen;omega⟩;have c6:=(D.le.trans (l7.trans l8)).full N;have g9:=(D.le.trans (l7.trans l8)).full a5;obtain ⟨E,G,c4,c7,d5,c9,d4,y,_,b0,_⟩:=D8.st.wt.trees c6;obtain ⟨v9,w9,Γ9,b3,c3,b8,D9⟩:=D8.apps (k:=.nd) g4 y (by omega);obtain ⟨m0,j6,Γ10,a7,b1,b6,d2⟩:=D9.apps (k:=.nd) c3 (d8.mono (l7.trans (l8.trans b8))) (by omega);have b2:=(b8.trans b6).full c6;have c1:=(b8.trans b6).full g9;obtain ⟨_,_,_,_,_,k5,_,_,_,j4,_⟩:=d2.st.wt.trees b2;have h8:=d2.re b2 i2.out b1;have j2:Tb≠R:=fun e=>by rw [e] at N;rw [N] at a5;cases a5
       have f7:upd Γ10 Tb (.ts (1+q+nm),1,0) R=some (.tr,1,0):=(by unfold upd;rw [if_neg (Ne.symm j2)];exact c1);obtain ⟨ma,mc,j1,_⟩:=d8.sl;obtain ⟨pa,pc,i4,_⟩:=c3.sl;obtain ⟨i5,i3,i9,_⟩:=b1.sl;subst j1 i4 i9;replace b3:(Builtin.append_ #[23,23] 23 #[.slice (some ⟨Z.heap.size+1,0,none⟩) 1 1,.slice E q G]).run prog ((Z.alloc (Obj.cells #[.int .i64 5,.slice none 0 0,.bool false,.slice none 0 0,.slice none 0 0,.slice none 0 0,.int .i64 2,.slice none 0 0] 35)).alloc (Obj.cells #[.int .i64 5,.slice none 0 0,.bool false,.slice none 0 0,.slice none 0 0,.slice none 0 0,.int .i64 2,.slice none 0 0] 35))=.ok (.slice pa (1+q) pc) w9:=b3;replace a7:(Builtin.append_ #[23,23] 23 #[.slice pa (1+q) pc,.slice ma nm mc]).run prog w9=.ok (.slice i5 (1+q+nm) i3) j6:=a7;have h9:=aB h8;clear D6 D D7 D8 D9 d2 h8 c3 b1 d8 y g4 n8 l7 l8 b8 b6 g6 c6 g9 b2 c1 N a5 J;go_wp2
       go_roundw
       case rel=>exact ⟨j+1,upd Γ10 Tb (.ts (1+q+nm),1,0),1+q+nm,by omega,by go_num,by omega,by omega,f7,bG _ _ _,h9.out⟩
       case measure=>simp [intOf];omega
      ·have c5:¬ 4<nl:=(by omega);have S:=aB (aX J.out.st HZ.out 100000 (by omega) (by omega))
       go_wp2_with fail
       refine S.out.mono ?_;rintro e Z ⟨tl,rfl,Γ6,A,D⟩;have X:=D.le.full N;have M:=D.le.full a5;have D6:=J.out.trans D;have D7:=D6.set X 1 (u:=tl) A;obtain ⟨E,G,c4,c7,d5,c9,d4,y,U,b0,c2⟩:=D6.st.wt.trees X;obtain ⟨_,_,_,_,_,_,r0,r1,h5,g3⟩:=D7.st.wt.tree M;obtain ⟨ta,tn,tc,b5⟩:=A.form;have D8:=D7.set M 0 (u:=.slice E q G) (⟨q,by omega,y⟩:HW Γ6 .nd (64*50) (.slice E q G));have D9:=D8.set M 1 (u:=tl) A;have b7:=aB D9;have O:=aB y;have Y:=aB A;subst b5;clear S D6 D D7 D8 D9 y A U;go_wp2;refine bodyPost_ret (v:=.agg #[.slice E q G,.slice ta tn tc]) (by simp [results,Tryz.results31,go_sem,r0,r1]) rfl ?_;exact ⟨_,_,rfl,Γ6,q,O.out,⟨d3,c8⟩,Y.out,b7.out⟩
     ·have J:=b9;clear a8 f3 A;have S:=aB (aX J.out.st HZ.out 100000 (by omega) (by omega))
      go_wp2_with fail
      refine S.out.mono ?_;rintro e Z ⟨tl,rfl,Γ6,A,D⟩;have X:=D.le.full N;have M:=D.le.full a5;have D6:=J.out.trans D;have D7:=D6.set X 1 (u:=tl) A;obtain ⟨E,G,c4,c7,d5,c9,d4,y,U,b0,c2⟩:=D6.st.wt.trees X;obtain ⟨_,_,_,_,_,_,r0,r1,h5,g3⟩:=D7.st.wt.tree M;obtain ⟨ta,tn,tc,b5⟩:=A.form;have D8:=D7.set M 0 (u:=.slice E q G) (⟨q,by omega,y⟩:HW Γ6 .nd (64*50) (.slice E q G));have D9:=D8.set M 1 (u:=tl) A;have b7:=aB D9;have O:=aB y;have Y:=aB A;subst b5;clear S D6 D D7 D8 D9 y A U;go_wp2;refine bodyPost_ret (v:=.agg #[.slice E q G,.slice ta tn tc]) (by simp [results,Tryz.results31,go_sem,r0,r1]) rfl ?_;exact ⟨_,_,rfl,Γ6,q,O.out,⟨d3,c8⟩,Y.out,b7.out⟩
    ·have J:=b9;clear a8 f3 A;have S:=aB (aX J.out.st HZ.out 100000 (by omega) (by omega))
     go_wp2_with fail
     refine S.out.mono ?_;rintro e Z ⟨tl,rfl,Γ6,A,D⟩;have X:=D.le.full N;have M:=D.le.full a5;have D6:=J.out.trans D;have D7:=D6.set X 1 (u:=tl) A;obtain ⟨E,G,c4,c7,d5,c9,d4,y,U,b0,c2⟩:=D6.st.wt.trees X;obtain ⟨_,_,_,_,_,_,r0,r1,h5,g3⟩:=D7.st.wt.tree M;obtain ⟨ta,tn,tc,b5⟩:=A.form;have D8:=D7.set M 0 (u:=.slice E q G) (⟨q,by omega,y⟩:HW Γ6 .nd (64*50) (.slice E q G));have D9:=D8.set M 1 (u:=tl) A;have b7:=aB D9;have O:=aB y;have Y:=aB A;subst b5;clear S D6 D D7 D8 D9 y A U;go_wp2;refine bodyPost_ret (v:=.agg #[.slice E q G,.slice ta tn tc]) (by simp [results,Tryz.results31,go_sem,r0,r1]) rfl ?_;exact ⟨_,_,rfl,Γ6,q,O.out,⟨d3,c8⟩,Y.out,b7.out⟩
 ·go_wp2_with fail
  refine k8.out.mono ?_;rintro e w2 ⟨k2,rfl,n2,n0,s2,g2⟩;have f4:=aB (k7.out.next s2 g2);clear k8 k7 s2 g2;obtain ⟨qb,n9⟩:∃ qb,(k2%3==1)=qb:=⟨_,rfl⟩;cases qb
  ·have h2:=aB (dV HZ.out 3 (by omega) (by omega) 4 (by omega) Γ1 w2 f4.out.st)
   go_wp2_with fail
   refine h2.out.mono ?_;rintro e w3 ⟨x,rfl,Γ3,nxD,d7,i8,d9⟩;have D3:=f4.out.trans d9;have k9:nB 4=341:=(by decide);have D4:=D3.new (.ts nxD) 1 #[x,.slice none 0 0] rfl (aA2 d7 (HW.nil _ _ _));have f6:=bG Γ3 w3.heap.size (.ts nxD,1,0);have h6:=(d9.le.trans (cQ D3.st.wt (.ts nxD,1,0))).full hR;have h4:Γ w3.heap.size=none:=D3.le.none_of (D3.st.wt.gone (Nat.le_refl _));obtain ⟨xa,xc,j3,_⟩:=d7.sl;subst j3;generalize upd Γ3 w3.heap.size (.ts nxD,1,0)=Γ4 at *;obtain ⟨W4,d6⟩:∃ W4,W4=w3.alloc (Obj.cells #[.slice xa nxD xc,.slice none 0 0] 26):=⟨_,rfl⟩;have h1:Hid (Dn F v zs Γ w Γ4 W4):=(by unfold Hid;rw [d6];exact D4);clear h2 f4 D3 d9 D4 d7;go_wp2;rw [<- d6];clear d6;generalize w3.heap.size=Tb at *;have i2:=aB h4;clear h4
   go_loopw [5] (fun i W=>∃ (j:Nat) (Γ5:Gm) (q:Nat),j<=4/\i=.int .i64 j/\1<=q/\q<=3200/\Γ5 R=some (.tr,1,0)/\Γ5 Tb=some (.ts q,1,0)/\Dn F v zs Γ w Γ5 W) (fun i _=>4 - (intOf i).toNat)
   case atStart=>exact ⟨0,Γ4,nxD,by omega,rfl,i8.1,by omega,h6,f6,h1.out⟩
   case round=>
    obtain ⟨j,Γ5,q,hj,rfl,d3,c8,a5,N,a8⟩:=hrel;obtain ⟨p0,d0,p1,m1,d1,t0,t1,f3,A,j7,j5⟩:=a8.st.wt.trees N;have b9:=aB a8;clear h1 h6 f6
    by_cases m6:(j:Int)<4
    ·by_cases m5:(q:Int)<6
     ·have g0:=aB (a8.st.left HZ.out);clear a8 f3 A
      go_wp2_with fail
      refine g0.out.mono ?_;rintro e wc ⟨nl,rfl,l4,sL,gL⟩;have J:=aB (b9.out.K gL);clear g0 b9 sL gL t0 t1 j7 j5
      by_cases j8:(4:Int)<(nl:Int)
      ·have c5:4<nl:=(by omega);have g6:=aB (dV HZ.out 3 (by omega) (by omega) 3 (by omega) Γ5 wc J.out.st)
       go_wp2_with fail
       refine g6.out.mono ?_;rintro e Z ⟨mo,rfl,Γ6,nm,d8,l6,D⟩;have m4:nB 3=85:=(by decide);have n8:Nd8 64 Γ6 (.int .i64 5) (.slice none 0 0) (.bool false) (.slice none 0 0) (.slice none 0 0) (.slice none 0 0) (.int .i64 2) (.slice none 0 0):=⟨⟨5,rfl,by omega,by omega⟩,HW.nil _ _ _,⟨false,rfl⟩,HW.nil _ _ _,HW.nil _ _ _,HW.nil _ _ _,⟨2,rfl,by omega,by omega⟩,HW.nil _ _ _⟩;have D6:=J.out.trans D;have D7:Dn F v zs Γ w (upd Γ6 Z.heap.size (.nd,1,0)) (Z.alloc (Obj.cells #[.int .i64 5,.slice none 0 0,.bool false,.slice none 0 0,.slice none 0 0,.slice none 0 0,.int .i64 2,.slice none 0 0] 35)):=D6.new .nd 1 _ rfl n8.hc;have l7:=cQ D6.st.wt (.nd,1,0)
       have D8:Dn F v zs Γ w (upd (upd Γ6 Z.heap.size (.nd,1,0)) (Z.heap.size+1) (.nd,1,0)) ((Z.alloc (Obj.cells #[.int .i64 5,.slice none 0 0,.bool false,.slice none 0 0,.slice none 0 0,.slice none 0 0,.int .i64 2,.slice none 0 0] 35)).alloc (Obj.cells #[.int .i64 5,.slice none 0 0,.bool false,.slice none 0 0,.slice none 0 0,.slice none 0 0,.int .i64 2,.slice none 0 0] 35)):=by
        have h:=D7.new .nd 1 _ rfl (n8.mono l7).hc;simp only [World.size_alloc] at h;exact h
       have l8:Gle (upd Γ6 Z.heap.size (.nd,1,0)) (upd (upd Γ6 Z.heap.size (.nd,1,0)) (Z.heap.size+1) (.nd,1,0)):=by
        have h:=cQ D7.st.wt (.nd,1,0);simp only [World.size_alloc] at h;exact h
       have g4:HV (upd (upd Γ6 Z.heap.size (.nd,1,0)) (Z.heap.size+1) (.nd,1,0)) .nd (.slice (some ⟨Z.heap.size+1,0,none⟩) 1 1) 1:=.inr ⟨_,1,0,rfl,bG _ _ _,by omega,by unfold maxLen;omega⟩;have c6:=(D.le.trans (l7.trans l8)).full N;have g9:=(D.le.trans (l7.trans l8)).full a5;obtain ⟨E,G,c4,c7,d5,c9,d4,y,_,b0,_⟩:=D8.st.wt.trees c6;obtain ⟨v9,w9,Γ9,b3,c3,b8,D9⟩:=D8.apps (k:=.nd) g4 y (by omega);obtain ⟨m0,j6,Γ10,a7,b1,b6,d2⟩:=D9.apps (k:=.nd) c3 (d8.mono (l7.trans (l8.trans b8))) (by omega);have b2:=(b8.trans b6).full c6;have c1:=(b8.trans b6).full g9;obtain ⟨_,_,_,_,_,k5,_,_,_,j4,_⟩:=d2.st.wt.trees b2;have h8:=d2.re b2 i2.out b1;have j2:Tb≠R:=fun e=>by rw [e] at N;rw [N] at a5;cases a5
       have f7:upd Γ10 Tb (.ts (1+q+nm),1,0) R=some (.tr,1,0):=(by unfold upd;rw [if_neg (Ne.symm j2)];exact c1);obtain ⟨ma,mc,j1,_⟩:=d8.sl;obtain ⟨pa,pc,i4,_⟩:=c3.sl;obtain ⟨i5,i3,i9,_⟩:=b1.sl;subst j1 i4 i9;replace b3:(Builtin.append_ #[23,23] 23 #[.slice (some ⟨Z.heap.size+1,0,none⟩) 1 1,.slice E q G]).run prog ((Z.alloc (Obj.cells #[.int .i64 5,.slice none 0 0,.bool false,.slice none 0 0,.slice none 0 0,.slice none 0 0,.int .i64 2,.slice none 0 0] 35)).alloc (Obj.cells #[.int .i64 5,.slice none 0 0,.bool false,.slice none 0 0,.slice none 0 0,.slice none 0 0,.int .i64 2,.slice none 0 0] 35))=.ok (.slice pa (1+q) pc) w9:=b3;replace a7:(Builtin.append_ #[23,23] 23 #[.slice pa (1+q) pc,.slice ma nm mc]).run prog w9=.ok (.slice i5 (1+q+nm) i3) j6:=a7;have h9:=aB h8;clear D6 D D7 D8 D9 d2 h8 c3 b1 d8 y g4 n8 l7 l8 b8 b6 g6 c6 g9 b2 c1 N a5 J;go_wp2
       go_roundw
       case rel=>exact ⟨j+1,upd Γ10 Tb (.ts (1+q+nm),1,0),1+q+nm,by omega,by go_num,by omega,by omega,f7,bG _ _ _,h9.out⟩
       case measure=>simp [intOf];omega
      ·have c5:¬ 4<nl:=(by omega);have S:=aB (aX J.out.st HZ.out 3 (by omega) (by omega))
       go_wp2_with fail
       refine S.out.mono ?_;rintro e Z ⟨tl,rfl,Γ6,A,D⟩;have X:=D.le.full N;have M:=D.le.full a5;have D6:=J.out.trans D;have D7:=D6.set X 1 (u:=tl) A;obtain ⟨E,G,c4,c7,d5,c9,d4,y,U,b0,c2⟩:=D6.st.wt.trees X;obtain ⟨_,_,_,_,_,_,r0,r1,h5,g3⟩:=D7.st.wt.tree M;obtain ⟨ta,tn,tc,b5⟩:=A.form;have D8:=D7.set M 0 (u:=.slice E q G) (⟨q,by omega,y⟩:HW Γ6 .nd (64*50) (.slice E q G));have D9:=D8.set M 1 (u:=tl) A;have b7:=aB D9;have O:=aB y;have Y:=aB A;subst b5;clear S D6 D D7 D8 D9 y A U;go_wp2;refine bodyPost_ret (v:=.agg #[.slice E q G,.slice ta tn tc]) (by simp [results,Tryz.results31,go_sem,r0,r1]) rfl ?_;exact ⟨_,_,rfl,Γ6,q,O.out,⟨d3,c8⟩,Y.out,b7.out⟩
     ·have J:=b9;clear a8 f3 A;have S:=aB (aX J.out.st HZ.out 3 (by omega) (by omega))
      go_wp2_with fail
      refine S.out.mono ?_;rintro e Z ⟨tl,rfl,Γ6,A,D⟩;have X:=D.le.full N;have M:=D.le.full a5;have D6:=J.out.trans D;have D7:=D6.set X 1 (u:=tl) A;obtain ⟨E,G,c4,c7,d5,c9,d4,y,U,b0,c2⟩:=D6.st.wt.trees X;obtain ⟨_,_,_,_,_,_,r0,r1,h5,g3⟩:=D7.st.wt.tree M;obtain ⟨ta,tn,tc,b5⟩:=A.form;have D8:=D7.set M 0 (u:=.slice E q G) (⟨q,by omega,y⟩:HW Γ6 .nd (64*50) (.slice E q G));have D9:=D8.set M 1 (u:=tl) A;have b7:=aB D9;have O:=aB y;have Y:=aB A;subst b5;clear S D6 D D7 D8 D9 y A U;go_wp2;refine bodyPost_ret (v:=.agg #[.slice E q G,.slice ta tn tc]) (by simp [results,Tryz.results31,go_sem,r0,r1]) rfl ?_;exact ⟨_,_,rfl,Γ6,q,O.out,⟨d3,c8⟩,Y.out,b7.out⟩
    ·have J:=b9;clear a8 f3 A;have S:=aB (aX J.out.st HZ.out 3 (by omega) (by omega))
     go_wp2_with fail
     refine S.out.mono ?_;rintro e Z ⟨tl,rfl,Γ6,A,D⟩;have X:=D.le.full N;have M:=D.le.full a5;have D6:=J.out.trans D;have D7:=D6.set X 1 (u:=tl) A;obtain ⟨E,G,c4,c7,d5,c9,d4,y,U,b0,c2⟩:=D6.st.wt.trees X;obtain ⟨_,_,_,_,_,_,r0,r1,h5,g3⟩:=D7.st.wt.tree M;obtain ⟨ta,tn,tc,b5⟩:=A.form;have D8:=D7.set M 0 (u:=.slice E q G) (⟨q,by omega,y⟩:HW Γ6 .nd (64*50) (.slice E q G));have D9:=D8.set M 1 (u:=tl) A;have b7:=aB D9;have O:=aB y;have Y:=aB A;subst b5;clear S D6 D D7 D8 D9 y A U;go_wp2;refine bodyPost_ret (v:=.agg #[.slice E q G,.slice ta tn tc]) (by simp [results,Tryz.results31,go_sem,r0,r1]) rfl ?_;exact ⟨_,_,rfl,Γ6,q,O.out,⟨d3,c8⟩,Y.out,b7.out⟩
  ·have h2:=aB (dV HZ.out 100000 (by omega) (by omega) 4 (by omega) Γ1 w2 f4.out.st)
   go_wp2_with fail
   refine h2.out.mono ?_;rintro e w3 ⟨x,rfl,Γ3,nxD,d7,i8,d9⟩;have D3:=f4.out.trans d9;have k9:nB 4=341:=(by decide);have D4:=D3.new (.ts nxD) 1 #[x,.slice none 0 0] rfl (aA2 d7 (HW.nil _ _ _));have f6:=bG Γ3 w3.heap.size (.ts nxD,1,0);have h6:=(d9.le.trans (cQ D3.st.wt (.ts nxD,1,0))).full hR;have h4:Γ w3.heap.size=none:=D3.le.none_of (D3.st.wt.gone (Nat.le_refl _));obtain ⟨xa,xc,j3,_⟩:=d7.sl;subst j3;generalize upd Γ3 w3.heap.size (.ts nxD,1,0)=Γ4 at *;obtain ⟨W4,d6⟩:∃ W4,W4=w3.alloc (Obj.cells #[.slice xa nxD xc,.slice none 0 0] 26):=⟨_,rfl⟩;have h1:Hid (Dn F v zs Γ w Γ4 W4):=(by unfold Hid;rw [d6];exact D4);clear h2 f4 D3 d9 D4 d7;go_wp2;rw [<- d6];clear d6;generalize w3.heap.size=Tb at *;have i2:=aB h4;clear h4
   go_loopw [5] (fun i W=>∃ (j:Nat) (Γ5:Gm) (q:Nat),j<=4/\i=.int .i64 j/\1<=q/\q<=3200/\Γ5 R=some (.tr,1,0)/\Γ5 Tb=some (.ts q,1,0)/\Dn F v zs Γ w Γ5 W) (fun i _=>4 - (intOf i).toNat)
   case atStart=>exact ⟨0,Γ4,nxD,by omega,rfl,i8.1,by omega,h6,f6,h1.out⟩
   case round=>
    obtain ⟨j,Γ5,q,hj,rfl,d3,c8,a5,N,a8⟩:=hrel;obtain ⟨p0,d0,p1,m1,d1,t0,t1,f3,A,j7,j5⟩:=a8.st.wt.trees N;have b9:=aB a8;clear h1 h6 f6
    by_cases m6:(j:Int)<4
    ·by_cases m5:(q:Int)<6
     ·have g0:=aB (a8.st.left HZ.out);clear a8 f3 A
      go_wp2_with fail
      refine g0.out.mono ?_;rintro e wc ⟨nl,rfl,l4,sL,gL⟩;have J:=aB (b9.out.K gL);clear g0 b9 sL gL t0 t1 j7 j5
      by_cases j8:(4:Int)<(nl:Int)
      ·have c5:4<nl:=(by omega);have g6:=aB (dV HZ.out 100000 (by omega) (by omega) 3 (by omega) Γ5 wc J.out.st)
       go_wp2_with fail
       refine g6.out.mono ?_;rintro e Z ⟨mo,rfl,Γ6,nm,d8,l6,D⟩;have m4:nB 3=85:=(by decide);have n8:Nd8 64 Γ6 (.int .i64 5) (.slice none 0 0) (.bool false) (.slice none 0 0) (.slice none 0 0) (.slice none 0 0) (.int .i64 2) (.slice none 0 0):=⟨⟨5,rfl,by omega,by omega⟩,HW.nil _ _ _,⟨false,rfl⟩,HW.nil _ _ _,HW.nil _ _ _,HW.nil _ _ _,⟨2,rfl,by omega,by omega⟩,HW.nil _ _ _⟩;have D6:=J.out.trans D;have D7:Dn F v zs Γ w (upd Γ6 Z.heap.size (.nd,1,0)) (Z.alloc (Obj.cells #[.int .i64 5,.slice none 0 0,.bool false,.slice none 0 0,.slice none 0 0,.slice none 0 0,.int .i64 2,.slice none 0 0] 35)):=D6.new .nd 1 _ rfl n8.hc;have l7:=cQ D6.st.wt (.nd,1,0)
       have D8:Dn F v zs Γ w (upd (upd Γ6 Z.heap.size (.nd,1,0)) (Z.heap.size+1) (.nd,1,0)) ((Z.alloc (Obj.cells #[.int .i64 5,.slice none 0 0,.bool false,.slice none 0 0,.slice none 0 0,.slice none 0 0,.int .i64 2,.slice none 0 0] 35)).alloc (Obj.cells #[.int .i64 5,.slice none 0 0,.bool false,.slice none 0 0,.slice none 0 0,.slice none 0 0,.int .i64 2,.slice none 0 0] 35)):=by
        have h:=D7.new .nd 1 _ rfl (n8.mono l7).hc;simp only [World.size_alloc] at h;exact h
       have l8:Gle (upd Γ6 Z.heap.size (.nd,1,0)) (upd (upd Γ6 Z.heap.size (.nd,1,0)) (Z.heap.size+1) (.nd,1,0)):=by
        have h:=cQ D7.st.wt (.nd,1,0);simp only [World.size_alloc] at h;exact h
       have g4:HV (upd (upd Γ6 Z.heap.size (.nd,1,0)) (Z.heap.size+1) (.nd,1,0)) .nd (.slice (some ⟨Z.heap.size+1,0,none⟩) 1 1) 1:=.inr ⟨_,1,0,rfl,bG _ _ _,by omega,by unfold maxLen;omega⟩;have c6:=(D.le.trans (l7.trans l8)).full N;have g9:=(D.le.trans (l7.trans l8)).full a5;obtain ⟨E,G,c4,c7,d5,c9,d4,y,_,b0,_⟩:=D8.st.wt.trees c6;obtain ⟨v9,w9,Γ9,b3,c3,b8,D9⟩:=D8.apps (k:=.nd) g4 y (by omega);obtain ⟨m0,j6,Γ10,a7,b1,b6,d2⟩:=D9.apps (k:=.nd) c3 (d8.mono (l7.trans (l8.trans b8))) (by omega);have b2:=(b8.trans b6).full c6;have c1:=(b8.trans b6).full g9;obtain ⟨_,_,_,_,_,k5,_,_,_,j4,_⟩:=d2.st.wt.trees b2;have h8:=d2.re b2 i2.out b1;have j2:Tb≠R:=fun e=>by rw [e] at N;rw [N] at a5;cases a5
       have f7:upd Γ10 Tb (.ts (1+q+nm),1,0) R=some (.tr,1,0):=(by unfold upd;rw [if_neg (Ne.symm j2)];exact c1);obtain ⟨ma,mc,j1,_⟩:=d8.sl;obtain ⟨pa,pc,i4,_⟩:=c3.sl;obtain ⟨i5,i3,i9,_⟩:=b1.sl;subst j1 i4 i9;replace b3:(Builtin.append_ #[23,23] 23 #[.slice (some ⟨Z.heap.size+1,0,none⟩) 1 1,.slice E q G]).run prog ((Z.alloc (Obj.cells #[.int .i64 5,.slice none 0 0,.bool false,.slice none 0 0,.slice none 0 0,.slice none 0 0,.int .i64 2,.slice none 0 0] 35)).alloc (Obj.cells #[.int .i64 5,.slice none 0 0,.bool false,.slice none 0 0,.slice none 0 0,.slice none 0 0,.int .i64 2,.slice none 0 0] 35))=.ok (.slice pa (1+q) pc) w9:=b3;replace a7:(Builtin.append_ #[23,23] 23 #[.slice pa (1+q) pc,.slice ma nm mc]).run prog w9=.ok (.slice i5 (1+q+nm) i3) j6:=a7;have h9:=aB h8;clear D6 D D7 D8 D9 d2 h8 c3 b1 d8 y g4 n8 l7 l8 b8 b6 g6 c6 g9 b2 c1 N a5 J;go_wp2
       go_roundw
       case rel=>exact ⟨j+1,upd Γ10 Tb (.ts (1+q+nm),1,0),1+q+nm,by omega,by go_num,by omega,by omega,f7,bG _ _ _,h9.out⟩
       case measure=>simp [intOf];omega
      ·have c5:¬ 4<nl:=(by omega);have S:=aB (aX J.out.st HZ.out 100000 (by omega) (by omega))
       go_wp2_with fail
       refine S.out.mono ?_;rintro e Z ⟨tl,rfl,Γ6,A,D⟩;have X:=D.le.full N;have M:=D.le.full a5;have D6:=J.out.trans D;have D7:=D6.set X 1 (u:=tl) A;obtain ⟨E,G,c4,c7,d5,c9,d4,y,U,b0,c2⟩:=D6.st.wt.trees X;obtain ⟨_,_,_,_,_,_,r0,r1,h5,g3⟩:=D7.st.wt.tree M;obtain ⟨ta,tn,tc,b5⟩:=A.form;have D8:=D7.set M 0 (u:=.slice E q G) (⟨q,by omega,y⟩:HW Γ6 .nd (64*50) (.slice E q G));have D9:=D8.set M 1 (u:=tl) A;have b7:=aB D9;have O:=aB y;have Y:=aB A;subst b5;clear S D6 D D7 D8 D9 y A U;go_wp2;refine bodyPost_ret (v:=.agg #[.slice E q G,.slice ta tn tc]) (by simp [results,Tryz.results31,go_sem,r0,r1]) rfl ?_;exact ⟨_,_,rfl,Γ6,q,O.out,⟨d3,c8⟩,Y.out,b7.out⟩
     ·have J:=b9;clear a8 f3 A;have S:=aB (aX J.out.st HZ.out 100000 (by omega) (by omega))
      go_wp2_with fail
      refine S.out.mono ?_;rintro e Z ⟨tl,rfl,Γ6,A,D⟩;have X:=D.le.full N;have M:=D.le.full a5;have D6:=J.out.trans D;have D7:=D6.set X 1 (u:=tl) A;obtain ⟨E,G,c4,c7,d5,c9,d4,y,U,b0,c2⟩:=D6.st.wt.trees X;obtain ⟨_,_,_,_,_,_,r0,r1,h5,g3⟩:=D7.st.wt.tree M;obtain ⟨ta,tn,tc,b5⟩:=A.form;have D8:=D7.set M 0 (u:=.slice E q G) (⟨q,by omega,y⟩:HW Γ6 .nd (64*50) (.slice E q G));have D9:=D8.set M 1 (u:=tl) A;have b7:=aB D9;have O:=aB y;have Y:=aB A;subst b5;clear S D6 D D7 D8 D9 y A U;go_wp2;refine bodyPost_ret (v:=.agg #[.slice E q G,.slice ta tn tc]) (by simp [results,Tryz.results31,go_sem,r0,r1]) rfl ?_;exact ⟨_,_,rfl,Γ6,q,O.out,⟨d3,c8⟩,Y.out,b7.out⟩
    ·have J:=b9;clear a8 f3 A;have S:=aB (aX J.out.st HZ.out 100000 (by omega) (by omega))
     go_wp2_with fail
     refine S.out.mono ?_;rintro e Z ⟨tl,rfl,Γ6,A,D⟩;have X:=D.le.full N;have M:=D.le.full a5;have D6:=J.out.trans D;have D7:=D6.set X 1 (u:=tl) A;obtain ⟨E,G,c4,c7,d5,c9,d4,y,U,b0,c2⟩:=D6.st.wt.trees X;obtain ⟨_,_,_,_,_,_,r0,r1,h5,g3⟩:=D7.st.wt.tree M;obtain ⟨ta,tn,tc,b5⟩:=A.form;have D8:=D7.set M 0 (u:=.slice E q G) (⟨q,by omega,y⟩:HW Γ6 .nd (64*50) (.slice E q G));have D9:=D8.set M 1 (u:=tl) A;have b7:=aB D9;have O:=aB y;have Y:=aB A;subst b5;clear S D6 D D7 D8 D9 y A U;go_wp2;refine bodyPost_ret (v:=.agg #[.slice E q G,.slice ta tn tc]) (by simp [results,Tryz.results31,go_sem,r0,r1]) rfl ?_;exact ⟨_,_,rfl,Γ6,q,O.out,⟨d3,c8⟩,Y.out,b7.out⟩
end Go.Proofs.YtmfehflibkokbaaGreatDoor
