import Derived.Deep.LoopGhost
import Derived.Test.YtckcaefnokeodaaGreatDoorMAZ
set_option maxHeartbeats 16000000
set_option maxRecDepth 100000
namespace Go.Proofs.YtckcaefnokeodaaGreatDoor
open Go.Proofs.Tryz Go.RowKit List World
theorem aJf (B G F w l a0 O Z I J tv hv Y tx A S) (h:Pr G F w a0 O Z I J tv hv Y tx A S) (v) (p:Pc) (n D fl bw be) (H:cH B F l v (.leaf p) n) (hk:p.k=0\/p.k=3) :
  Calls prog 71 #[.pointer (some ⟨G,0,none⟩),oA v D fl bw be] w fun e w'=>e=.returned (.tuple #[])/\Pr G F w' a0 O Z I J tv hv Y tx A S:=by
 have M:=H.rep;simp only [Rep] at M;have N:=bL h;have b0:=h.lt;unfold oA;clear h H;rcases M with h | h | h | h | h | ⟨h1,b,b3,h,_⟩
 .obtain ⟨e1,e2,e3,e4,e5,e6,e7,e8,e9,E⟩:=pL;rw [h.2];clear h
  go_enter func71,ntmps71
  go_wp2
  go_returns
  exact ⟨rfl,N.out.K gWA⟩
 .omega
 .obtain ⟨e1,e2,e3,e4,e5,e6,e7,e8,e9,E⟩:=rY;rw [h.2];clear h
  go_enter func71,ntmps71
  go_wp2
  go_returns
  exact ⟨rfl,N.out.K gWA⟩
 .omega
 .omega
 .omega
theorem aJF (B) (pb:Nat) (F:World) (w) (c1:pb=F.heap.size) (l a0 a1 a2 a3 wv tv hv ts tx E ch) (h:Pr pb F w a0 a1 a2 a3 wv tv hv ts tx E ch) (v) (p:Pc) (n Z fl bw be) (hn:cH B F l v (.leaf p) n) (hk:p.k=1) (hB:B<=pb) (f8 : -1000000<=E/\E<=1000000) (hl:tx.length+p.t.length<=700000000) :
  Calls prog 71 #[.pointer (some ⟨pb,0,none⟩),oA v Z fl bw be] w fun e w'=>e=.returned (.tuple #[])/\∃ Y,Pr pb F w' a0 a1 a2 a3 wv Y hv ts (tx++p.t) (E+aF p.t) ch:=by
 subst c1;have hr:=hn.rep;simp only [Rep] at hr;rcases hr with h | h | h | h | h | ⟨h1,b,sv,c3,_,b9,S,a4,b6⟩
 .omega
 .omega
 .omega
 .omega
 .omega
 subst c3;obtain ⟨e1,e2,e3,e4,e5,e6,e7,e8,e9,f2⟩:=rX (.pointer (some ⟨b,0,none⟩));have G:=aC h.bel;have a7:F.cell? ⟨b,0,none⟩=some sv:=(by simp [cell?,S]);have J:F.cell? ⟨b,1,none⟩=some (.int .i64 (aF p.t)):=(by simp [cell?,S]);have g3:=jN (G.cell a7 (by simp));have b4:=jN (G.cell J (by simp));have g2:=h.lt;have HP:=bL h;have f4:=gH p.t;have gA:w.grownBy (w.alloc (.cells #[.iface 169 (.pointer (some ⟨b,0,none⟩)),.int .i64 Z,.bool fl,.int .i64 bw,.bool be] 127)).drew none:=bO gWA;have A:=h.K gA;obtain ⟨Y,w2,a5,O,D,M⟩:=yU (F.heap.size+1) B (w.alloc (.cells #[.iface 169 (.pointer (some ⟨b,0,none⟩)),.int .i64 Z,.bool fl,.int .i64 bw,.bool be] 127)).drew tv sv tx p.t A.trow (a4.K (aA G gA)) (by have:=A.lt;omega) (by omega);have a6:=ownsRow.lt A.trow;have I:some F.heap.size≠tv.ownBlock:=fun e=>by have:=a6 _ e.symm;omega
 have a9:tv.ownBlock≠some b:=fun e=>by have:=a6 _ e;omega
 have x5:=D.cell A.c5 I;have y5:w2.frozen? ⟨F.heap.size,5,none⟩=false:=(frozen?_of_block (D.block F.heap.size A.lt I)).trans (A.fz 5);have H:=Pr.X A D O (M.imp id fun e=>⟨_,e,Nat.le_refl _⟩);have c7:=bL H;have g0:b≠F.heap.size:=(by omega);have g5:IntKind.i64.wrap (E+aF p.t)=E+aF p.t:=by simp [IntKind.wrap,IntKind.bits,IntKind.signed];omega
 have g4:(w2.setCell ⟨F.heap.size,5,none⟩ Y).cell? ⟨b,1,none⟩=some (.int .i64 (aF p.t)):=by
  exact (H.bel.cell (p:=⟨b,1,none⟩) b9).trans J
 have f9:=D.cell ((aA G gA).cell J (by simp)) (fun e=>a9 e.symm);have d6:=H.c6;have z6:=H.fz 6;have f5:=D.cell A.c6 I;have g1:w2.frozen? ⟨F.heap.size,6,none⟩=false:=(frozen?_of_block (D.block F.heap.size A.lt I)).trans (A.fz 6);obtain ⟨f6,c0,N,_,_⟩:=aZ O;rw [length_append] at N;obtain ⟨ta,d7,b7,_,_⟩:=aZ h.trow;obtain ⟨sa,f1,b8,_,_⟩:=b6;have f7:=jN h.c5;unfold oA;subst N b7 b8;generalize aF p.t=wd at *;clear h hn A H D O M gA a4 S a7 J G b4
 go_enter func71,ntmps71
 go_wp2_with fail
 go_region_law (refine rD rfl (.tmp 19) (.tmp 23) 22 rfl _ _ _ _ (by simp [Act.eval]) (by simp [Act.eval]) a5 ?_)
 all_goals
  go_simp
  go_wp2
  go_region
  all_goals
   go_wp2
   go_returns
   exact ⟨rfl,_,(c7.out.column (E+wd)).K (bO (grownBy.refl _ _))⟩
theorem aIR (B) (pb:Nat) (D:World) (w) (c1:pb=D.heap.size) (l a0 a1 a2 a3 wv tv hv ts tx H ch) (h:Pr pb D w a0 a1 a2 a3 wv tv hv ts tx H ch) (v) (p:Pc) (n G N Y O) (hn:cH B D l v (.leaf p) n) (hk:p.k=2) (g4 : -1000000<=H/\H<=1000000) (hl:tx.length<=700000000) :
  Calls prog 71 #[.pointer (some ⟨pb,0,none⟩),oA v G N Y O] w fun e w'=>e=.returned (.tuple #[])/\∃ S,Pr pb D w' a0 a1 a2 a3 wv S hv ts (tx++[32]) (H+1) ch:=by
 subst c1;have hr:=hn.rep;simp only [Rep] at hr
 have c4:v=.iface 165 (.agg #[]):=by
  rcases hr with h | h | h | h | h | ⟨h1,b,S,h,_⟩
  .omega
  .exact h.2
  .omega
  .omega
  .omega
  .omega
 subst c4;obtain ⟨e1,e2,e3,e4,e5,e6,e7,e8,e9,f2⟩:=rI;have g8:=h.lt;have HP:=bL h;obtain ⟨i0,hi,b1,b4,b3⟩:=info_parts mA;have gA:w.grownBy ((w.alloc (.cells #[.iface 165 (.agg #[]),.int .i64 G,.bool N,.int .i64 Y,.bool O] 127)).alloc (.cells #[] 165)) none:=aA gWA gWA;have E:=h.K gA;have b7:=bL E;have c3:=ownsRow.lt E.trow;have a8:tv.ownBlock≠some D.heap.size:=fun e=>by have:=c3 D.heap.size e;omega
 have a7:=bL a8;have M:((w.alloc (.cells #[.iface 165 (.agg #[]),.int .i64 G,.bool N,.int .i64 Y,.bool O] 127)).alloc (.cells #[] 165)).ownsRow (D.heap.size+1) 5 1 tv tx.length (tx.map (Value.int .u8)):=E.trow;have a5:=bL M;have c5:=E.c5;have g3:=h.c5;have f5:=E.fz 5;have g0:¬ D.heap.size=w.heap.size:=(by omega);have g5:¬ D.heap.size=w.heap.size+1:=(by omega);have f7:¬ w.heap.size=D.heap.size:=(by omega);have g1:¬ w.heap.size+1=D.heap.size:=(by omega);have a6:=E.lt;have gI:((w.alloc (.cells #[.iface 165 (.agg #[]),.int .i64 G,.bool N,.int .i64 Y,.bool O] 127)).alloc (.cells #[] 165)).grownBy (((w.alloc (.cells #[.iface 165 (.agg #[]),.int .i64 G,.bool N,.int .i64 Y,.bool O] 127)).alloc (.cells #[] 165)).alloc (.cells #[.int .u8 32] 5)) none:=gWA;have b5:=gI.cell c5 (by simp);have b8:(((w.alloc (.cells #[.iface 165 (.agg #[]),.int .i64 G,.bool N,.int .i64 Y,.bool O] 127)).alloc (.cells #[] 165)).alloc (.cells #[.int .u8 32] 5)).frozen? ⟨D.heap.size,5,none⟩=false:=(frozen?_of_block (gI.block D.heap.size a6 (by simp))).trans f5;have GI:=bL gI;have Z:=qS ((w.alloc (.cells #[.iface 165 (.agg #[]),.int .i64 G,.bool N,.int .i64 Y,.bool O] 127)).alloc (.cells #[] 165)) (.int .u8 32) 5;simp only [size_alloc] at Z;have c0:=bL Z;obtain ⟨ta,d9,b6,_,_⟩:=aZ h.trow;subst b6;unfold oA;clear h hn hr E M a8 gA gI Z
 go_enter func71,ntmps71
 go_wp2_with (at_builtin;refine wpList_append_own_at _ rfl _ _ 22 rfl (D.heap.size+1) 5 i0 (.int .u8 0) 1 1 underlying22 hi b1 b4 b3 rfl (by decide) _ _ _ rfl (ownsRow.alloc a5.out _) ⟨w.heap.size+1+1,0,none⟩ 1 1 [.int .u8 32] rfl rfl c0.out (by intro u hu;simp at hu;subst hu;rfl) (by unfold maxLen;omega) (by omega) (by simp;omega) ?_)
 intro v1 w1 F A _ J;have x5:=A.cell b5 (fun e=>a7.out e.symm);have y5:w1.frozen? ⟨D.heap.size,5,none⟩=false:=(frozen?_of_block (A.block D.heap.size (by simp;omega) (fun e=>a7.out e.symm))).trans b8;have I:=Pr.X (b7.out.K GI.out) (tv':=v1) (tx':=tx++[32]) A (by unfold OwB Ow;rw [map_append,length_append];exact F) (J.imp id fun e=>⟨_,e,by simp⟩);have d6:=I.c6;have z6:=I.fz 6;have c7:=bL I;obtain ⟨va,d7,c2,_,_⟩:=aZ F;subst c2;clear I F A J;go_wp2
 go_returns
 exact ⟨rfl,_,c7.out.column (H+1)⟩
theorem aHD (B) (pb:Nat) (E:World) (w) (f6:pb=E.heap.size) (l fb lb nb) (f0 f1 f2:Value->Option Value) (hC:Ctx B E l fb lb nb f0 f1 f2) (cf:Nat) (a6:Value) (wv tv) (g O lc:Nat) (ts tx D ch) (h:Pr pb E w (.map (some fb)) (.map (some lb)) (.map (some nb)) (.func (.func cf) #[] #[a6]) wv tv (.slice (some ⟨g,0,none⟩) lc O) ts tx D ch) (hE:∀ (args:Array Value) (W:World),(callFunc cf args).run prog W=.ok (.enter cf args) W) (v) (p:Pc) (x:Tr) (n F fl) (G:Int) (be) (hn:cH B E l v (.un p x) n) (hk:p.k=8) (hl:ts.length<=1000000) (d7:lc=ch.length) (hj:n+aP x<ch.length) (c4:ch.length<=1000000) (d:Int->Bool) (b0:∀ W,E.grownBy W none->Calls prog cf #[.int .i64 ((n+aP x:Nat):Int),.int .i64 (D+flatW x+G),a6] W fun e w'=>e=.returned (.bool (d (D+flatW x+G)))/\W=w') (f9 : -1<=flatW x/\flatW x<=1000000) (f5 : -1000000<=D/\D<=1000000) (g4 : -1000000<=G/\G<=1000000) :
  Calls prog 71 #[.pointer (some ⟨pb,0,none⟩),oA v F fl G be] w fun e w'=>e=.returned (.tuple #[])/\∃ u f8,cH B E l u x n/\
   Pr pb E w' (.map (some fb)) (.map (some lb)) (.map (some nb)) (.func (.func cf) #[] #[a6]) f8 tv (.slice (some ⟨g,0,none⟩) lc O) (ts++[⟨u,x,n,F,fl||kN (flatW x) D G d,G,be⟩]) tx D (ch.set (n+aP x) (if (fl||kN (flatW x) D G d)=true then 1 else 2)):=by
 subst f6;subst d7;obtain ⟨b,u,c0,hu,d5⟩:=hn.un;rcases d5 with ⟨_,c6,f4⟩ | ⟨h1,_⟩
 rotate_left
 .omega
 have b6:=f4 f2 hC.t2;have g5:uO b∈l:=(by rw [<- c6];exact hn.mem);have a4:=aC h.bel;have H:∀ W,E.grownBy W none->_:=fun W S=>hC.num (W:=W) g5 b6 S;have J:∀ W,E.grownBy W none->_:=fun W S=>hC.flat (W:=W) hn S;have j4:=jN (a4.cell c0 (by simp));have a7:b<E.heap.size:=block_lt_of_cell? E _ c0;obtain ⟨tu,yu,a8⟩:=hu.rep.form;subst a8;subst c6;obtain ⟨e1,e2,e3,e4,e5,e6,e7,e8,e9,i4⟩:=pN (.pointer (some ⟨b,0,none⟩));have j3:=h.lt;have g1:=ownsRow.lt h.wrow;have g3:=ownsRow.lt h.trow;have c1:=ownsRow.lt h.hrow;have j2:=c1 g rfl;have HP:=bL h;have HU:=bL hu;have c2:∀ o,w.grownBy (w.alloc o) none:=fun o=>gWA;have HO:=bL (fun d8=>yG 177 tu (.pointer (some ⟨b,0,none⟩)) yu F d8 G be);unfold oA uO at *;cases fl
 .have b7:Hid (∀ W,w.grownBy W none->_):=fun W S=>aEd E.heap.size E W fb nb cf (.map (some lb)) a6 wv tv _ ts tx D ch (h.K S) b G be (flatW x) (fun W' a0=>J W' (aA a4 (aA S a0))) (n+aP x) (fun W' a0=>H W' (aA a4 (aA S a0))) d (fun W' a0=>b0 W' (aA a4 (aA S a0))) hE f9 f5 g4;generalize kN (flatW x) D G d=cr at *;have a1:=bL H;clear h hn hu J b0 H c2
  go_enter func71,ntmps71
  go_wp2_with fail
  refine (b7.out _ gWA).mono ?_;rintro e w2 ⟨rfl,g2⟩;have t0:=g2.cell (a:=⟨w.heap.size,0,none⟩) (v:=.iface 177 (.pointer (some ⟨b,0,none⟩))) (by simp [go_sem]) (by simp);have t1:=g2.cell (a:=⟨w.heap.size,1,none⟩) (v:=.int .i64 F) (by simp [go_sem]) (by simp);have t2:=g2.cell (a:=⟨w.heap.size,2,none⟩) (v:=.bool false) (by simp [go_sem]) (by simp);have t3:=g2.cell (a:=⟨w.heap.size,3,none⟩) (v:=.int .i64 G) (by simp [go_sem]) (by simp);have t4:=g2.cell (a:=⟨w.heap.size,4,none⟩) (v:=.bool be) (by simp [go_sem]) (by simp);have z2:w2.frozen? ⟨w.heap.size,2,none⟩=false:=(frozen?_of_block (g2.block w.heap.size (by simp) (by simp))).trans (by simp [go_sem]);have Z:w.grownBy w2 none:=aA gWA g2;have f7:=g2.size;simp only [size_alloc] at f7;have N:=(HP.out.K Z).aside w.heap.size 2 (.bool cr) (by omega) (fun e=>by have:=g1 _ e;omega) (fun e=>by have:=g3 _ e;omega) (fun e=>by have:=c1 _ e;omega);have hN:=aEr E.heap.size E _ _ _ nb _ _ _ g O ch.length ts tx D ch N b cr (n+aP x) (fun W S=>a1.out W (aA (aC N.bel) S)) rfl hj c4;clear g2 Z N
  go_wp2_with fail
  refine hN.mono ?_;rintro e w4 ⟨rfl,M,a9,Y⟩;have A:=Y w.heap.size (by omega);simp only [size_setCell] at a9;have s0:=(cell?_of_block (a:=⟨w.heap.size,0,none⟩) A).trans (show _=some (Value.iface 177 (.pointer (some ⟨b,0,none⟩))) by simp [go_sem,t0]);have s1:=(cell?_of_block (a:=⟨w.heap.size,1,none⟩) A).trans (show _=some (Value.int .i64 F) by simp [go_sem,t1]);have s2:=(cell?_of_block (a:=⟨w.heap.size,2,none⟩) A).trans (show _=some (Value.bool cr) by simp [go_sem,t2]);have s3:=(cell?_of_block (a:=⟨w.heap.size,3,none⟩) A).trans (show _=some (Value.int .i64 G) by simp [go_sem,t3]);have s4:=(cell?_of_block (a:=⟨w.heap.size,4,none⟩) A).trans (show _=some (Value.bool be) by simp [go_sem,t4]);have n0:=(M.bel.cell (p:=⟨b,0,none⟩) a7).trans c0;have b1:=bL M;clear M Y A hN t0 t1 t2 t3 t4 z2
  go_wp2_with fail
  go_region_with (first | (go_at_call 111;refine (HO.out cr _).mono ?_;rintro e w6 ⟨rfl,g6⟩) | (go_at_call 67;refine (kG _ E w6 _ _ _ _ _ _ _ _ _ _ _ (b1.out.K (aA (bO (grownBy.refl _ _)) g6)) ⟨.iface tu yu,x,n,F,cr,G,be⟩ ⟨_,_,rfl⟩ hl).mono ?_;rintro e w7 ⟨rfl,⟨b2,I,_⟩,_,_⟩))
  all_goals
   go_wp2
   all_goals
    go_returns
    refine ⟨rfl,.iface tu yu,HU.out,b2,?_⟩
    first
     | (have e:cr=true:=by assumption
        rw [e] at I;exact I)
     | (have e:cr=false:=by assumption
        rw [e] at I;exact I)
     | (have e:¬ cr=true:=by assumption
        rw [Bool.not_eq_true] at e;rw [e] at I;exact I)
 .have a1:=bL H;clear h hn hu J b0 H c2;generalize kN (flatW x) D G d=cr at *;have Z:w.grownBy (w.alloc (.cells #[.iface 177 (.pointer (some ⟨b,0,none⟩)),.int .i64 F,.bool true,.int .i64 G,.bool be] 127)) none:=gWA;have N:=HP.out.K Z;have hN:=aEr E.heap.size E _ _ _ nb _ _ _ g O ch.length ts tx D ch N b true (n+aP x) (fun W S=>a1.out W (aA (aC N.bel) S)) rfl hj c4;clear Z N
  go_enter func71,ntmps71
  go_wp2_with fail
  refine hN.mono ?_;rintro e w4 ⟨rfl,M,a9,Y⟩;have A:=Y w.heap.size (by omega);simp only [size_alloc] at a9;have s0:=(cell?_of_block (a:=⟨w.heap.size,0,none⟩) A).trans (show _=some (Value.iface 177 (.pointer (some ⟨b,0,none⟩))) by simp [go_sem]);have s1:=(cell?_of_block (a:=⟨w.heap.size,1,none⟩) A).trans (show _=some (Value.int .i64 F) by simp [go_sem]);have s2:=(cell?_of_block (a:=⟨w.heap.size,2,none⟩) A).trans (show _=some (Value.bool true) by simp [go_sem]);have s3:=(cell?_of_block (a:=⟨w.heap.size,3,none⟩) A).trans (show _=some (Value.int .i64 G) by simp [go_sem]);have s4:=(cell?_of_block (a:=⟨w.heap.size,4,none⟩) A).trans (show _=some (Value.bool be) by simp [go_sem]);have n0:=(M.bel.cell (p:=⟨b,0,none⟩) a7).trans c0;have b1:=bL M;clear M Y A hN
  go_wp2_with fail
  go_region_with (first | (go_at_call 111;refine (HO.out true _).mono ?_;rintro e w6 ⟨rfl,g6⟩) | (go_at_call 67;refine (kG _ E w6 _ _ _ _ _ _ _ _ _ _ _ (b1.out.K (aA (bO (grownBy.refl _ _)) g6)) ⟨.iface tu yu,x,n,F,true,G,be⟩ ⟨_,_,rfl⟩ hl).mono ?_;rintro e w7 ⟨rfl,⟨b2,I,_⟩,_,_⟩))
  all_goals
   go_wp2
   go_returns
   exact ⟨rfl,.iface tu yu,HU.out,b2,I⟩
theorem cH.iface {B D l v T n} (h:cH B D l v T n):∃ E u,v=.iface E u:=by
 have A:=h.rep;cases T with
 | leaf p=>
   simp only [Rep] at A;rcases A with h | h | h | h | h | ⟨_,b,F,h,_⟩
   .exact ⟨_,_,h.2⟩
   .exact ⟨_,_,h.2⟩
   .exact ⟨_,_,h.2⟩
   .exact ⟨_,_,h.2⟩
   .exact ⟨_,_,h.2⟩
   .exact ⟨_,_,h⟩
 | un p x=>
   obtain ⟨b,u,_,_,h⟩:=h.un;rcases h with ⟨_,h,_⟩ | ⟨_,h,_⟩
   .exact ⟨_,_,h⟩
   .exact ⟨_,_,h⟩
 | bin p x y=>
   obtain ⟨b,u,G,_,_,_,_,h⟩:=h.bin;rcases h with ⟨_,h⟩ | ⟨_,h⟩
   .exact ⟨_,_,h⟩
   .exact ⟨_,_,h⟩
theorem cH.leafK {B D l v} {p:Pc} {n} (h:cH B D l v (.leaf p) n):0<=p.k/\p.k<=5:=by
 have A:=h.rep;simp only [Rep] at A;rcases A with h | h | h | h | h | ⟨h,_⟩
 all_goals first | omega | (have:=h.1;omega)
theorem aKT (B pb:Nat) (Z:World) (w) (a4:pb=Z.heap.size) (hB:B<=pb) (l fb lb nb) (f0 f1 f2:Value->Option Value) (hC:Ctx B Z l fb lb nb f0 f1 f2) (cf) (b4:Value) (wv tv hv) (G:Nat) (hG:G<=1000000) (hE:∀ (args:Array Value) (W:World),(callFunc cf args).run prog W=.ok (.enter cf args) W) (d:Nat->Int->Bool) (d8:∀ (j:Nat) (b6:Int) (W:World),j<G->Z.grownBy W none->Calls prog cf #[.int .i64 (j:Int),.int .i64 b6,b4] W fun e w'=>e=.returned (.bool (d j b6))/\W=w') (t:Tk) (r:List Tk) (tx F ch) (h:Pr pb Z w (.map (some fb)) (.map (some lb)) (.map (some nb)) (.func (.func cf) #[] #[b4]) wv tv hv r.reverse tx F ch) (O:qX B Z l G (t::r) tx F ch) (hb:(brk t.T t.ind t.fl).2=false) :
  Calls prog 71 #[.pointer (some ⟨pb,0,none⟩),t.val] w fun e w'=>e=.returned (.tuple #[])/\∃ b2 c3 a7 c2 J a9,
   Pr pb Z w' (.map (some fb)) (.map (some lb)) (.map (some nb)) (.func (.func cf) #[] #[b4]) J a9 hv b2.reverse c3 a7 c2/\qX B Z l G b2 c3 a7 c2/\szS b2<szS (t::r)/\
   ∀ f,pm d (f+1) ((t::r).map Tk.pt) tx F ch=pm d f (b2.map Tk.pt) c3 a7 c2:=by
 have A:=O.tok t (by simp);have g2:=aCY r;have a1:=O.tot;rw [aY] at a1;have i9:r.reverse.length<=999999:=(by rw [length_reverse];omega);have f8:=O.lo;have d9:=O.hi;have c0 : -1000000<=F/\F<=1000000:=(by rw [aY] at f8 d9;omega);have d0:=O.bw.1;have c1 : -1000000<=t.bw/\t.bw<=1000000:=(by omega);have c7:=O.tl;rw [aY] at c7;obtain ⟨v,T,n,D,I,S,Y⟩:=t;simp only at hb c1 d0;have f5:(Tk.mk v T n D I S Y).val=oA v D I S Y:=rfl;rw [f5];cases T with
 | leaf p=>
   have hk:=A.node.leafK;simp only [sz] at c7 a1
   by_cases h1:p.k=1
   .have hw:=gH p.t;refine (aJF B pb Z w a4 l _ _ _ _ wv tv hv _ tx F ch h v p n D I S Y A.node h1 hB c0 (by omega)).mono ?_;rintro e w' ⟨rfl,a9,h'⟩;refine ⟨rfl,r,_,_,_,wv,a9,h',O.put p.t (aF p.t) (by simp [sz]) (by simp only [sz];omega) (by simp only [sz];omega),by rw [aY];have:=uB (.leaf p);simp only [sz] at this ⊢;omega,fun f=>?_⟩;simp only [map_cons,Tk.pt,pm,hb,h1];simp
   .by_cases h2:p.k=2
    .refine (aIR B pb Z w a4 l _ _ _ _ wv tv hv _ tx F ch h v p n D I S Y A.node h2 c0 (by omega)).mono ?_;rintro e w' ⟨rfl,a9,h'⟩;refine ⟨rfl,r,_,_,_,wv,a9,h',O.put [32] 1 (by simp [sz]) (by simp only [sz];omega) (by simp only [sz];omega),by rw [aY];have:=uB (.leaf p);simp only [sz] at this ⊢;omega,fun f=>?_⟩;simp only [map_cons,Tk.pt,pm,hb,h2];simp
    .have d6:p.k=0\/p.k=3:=by
      simp only [brk] at hb
      by_cases h3:p.k=3
      .exact .inr h3
      .by_cases h4:p.k=4
       .simp [h4] at hb
       .by_cases h5:p.k=5
        .simp [h5] at hb
        .omega
     refine (aJf B pb Z w l _ _ _ _ wv tv hv _ tx F ch h v p n D I S Y A.node d6).mono ?_;rintro e w' ⟨rfl,h'⟩;have hp:=O.put [] 0 (by simp) (by omega) (by omega);rw [append_nil,Int.add_zero] at hp;refine ⟨rfl,r,_,_,_,wv,tv,h',hp,by rw [aY];have:=uB (.leaf p);simp only [sz] at this ⊢;omega,fun f=>?_⟩;simp only [map_cons,Tk.pt,pm,hb,h1,h2];simp
 | un p x=>
   have b9:p.k=8\/p.k=7:=by
    obtain ⟨b,u,_,_,h⟩:=A.node.un;rcases h with ⟨h,_⟩ | ⟨h,_⟩
    .exact .inl h
    .exact .inr h
   have H:=A.ok;simp only [okN] at H;have M:=A.hi;simp only [dO] at M;have a0:=A.gb;simp only [aP] at a0;have i4:=pB x H.2;have E:=A.lo;simp only at M E a0;rcases b9 with h8 | h7
   .rw [if_pos h8] at a0;have g1:0<ch.length:=by rw [O.clen];omega
    have b7:∃ g lc N,hv=.slice (some ⟨g,0,none⟩) lc N/\lc=ch.length:=by
     rcases h.hrow.2 with ⟨_,hn⟩ | ⟨g,N,i7,d3,_⟩
     .omega
     .exact ⟨g,_,N,d3,rfl⟩
    obtain ⟨g,lc,N,rfl,d1⟩:=b7;have i6:=mE gH x;have h0:sz x<=140000:=by simp only [sz] at a1;omega
    refine (aHD B pb Z w a4 l fb lb nb f0 f1 f2 hC cf b4 wv tv g N lc _ tx F ch h hE v p x n D I S Y A.node h8 (by omega) d1 (by rw [O.clen];omega) (by rw [O.clen];omega) (d (n+aP x))
     (fun W hW=>d8 _ _ W (by omega) hW) (by omega) c0 c1).mono ?_
    rintro e w' ⟨rfl,u,J,hu,h'⟩;have g9:=H.1;refine ⟨rfl,(⟨u,x,n,D,I||kN (flatW x) F S (d (n+aP x)),S,Y⟩:Tk)::r,_,_,_,J,tv,by rw [reverse_cons];exact h',O.one ⟨hu,H.2,E,by simp only;omega,by simp only;omega⟩ rfl (by simp only [sz];omega) (by simp),by rw [aY,aY];simp only [sz];omega,fun f=>?_⟩;simp only [map_cons,Tk.pt,pm];rw [if_neg (by omega)]
   .rw [if_neg (by omega)] at a0;refine (aIf B pb Z w a4 l _ _ _ _ wv tv hv _ tx F ch h v p x n D I S Y A.node h7 ⟨E,by omega⟩ ⟨H.1,by omega⟩ (by omega)).mono ?_;rintro e w' ⟨rfl,u,J,hu,h'⟩;refine ⟨rfl,(⟨u,x,n,D+p.n,I,S,Y⟩:Tk)::r,_,_,_,J,tv,by rw [reverse_cons];exact h',O.one ⟨hu,H.2,by simp only;omega,by simp only;omega,by simp only;omega⟩ rfl (by simp only [sz];omega) rfl,by rw [aY,aY];simp only [sz];omega,fun f=>?_⟩;simp only [map_cons,Tk.pt,pm];rw [if_pos h7]
 | bin p x y=>
   have b9:p.k=6\/p.k=9:=by
    obtain ⟨b,u,u',_,_,_,_,h⟩:=A.node.bin;rcases h with ⟨h,_⟩ | ⟨h,_⟩
    .exact .inl h
    .exact .inr h
   have H:=A.ok;simp only [okN] at H;have M:=A.hi;simp only [dO] at M;have a0:=A.gb;simp only [aP] at a0;have E:=A.lo;simp only at M E a0;rcases b9 with h6 | h9
   .have i3:=mI gH y;have i8:sz y<=140000:=(by simp only [sz] at a1;omega);refine (aKQ B pb Z w a4 l fb lb nb f0 f1 f2 hC _ wv tv hv _ tx F ch h v p x y n D I S Y A.node h6 (by omega) (by omega) c1).mono ?_;rintro e w' ⟨rfl,u,u',J,hu,f3,h'⟩;refine ⟨rfl,(⟨u,x,n,D,I,if (leadT y).2=true then (leadT y).1 else (leadT y).1+S,if (leadT y).2=true then (leadT y).2 else Y⟩:Tk)::(⟨u',y,n+aP x,D,I,S,Y⟩:Tk)::r,_,_,_,J,tv,by rw [reverse_cons,reverse_cons];exact h',O.two ⟨hu,H.1,E,by simp only;omega,by simp only;omega⟩ ⟨f3,H.2,E,by simp only;omega,by simp only;omega⟩ rfl rfl (by simp only [sz];omega),by rw [aY,aY,aY];simp only [sz];omega,fun f=>?_⟩;simp only [map_cons,Tk.pt,pm];rw [if_pos h6]
   .refine (aKX B pb Z w a4 l _ _ _ _ wv tv hv _ tx F ch h v p x y n D I S Y A.node h9 (by omega)).mono ?_;rintro e w' ⟨rfl,u,J,hu,h'⟩
    have f4:aIs B Z l G ⟨u,if I then y else x,if I then n+aP x else n,D,I,S,Y⟩:=by
     cases I
     .exact ⟨hu,H.1,E,by simp only [Bool.false_eq_true,if_false];omega,by simp only [Bool.false_eq_true,if_false];omega⟩
     .exact ⟨hu,H.2,E,by simp only [if_true];omega,by simp only [if_true];omega⟩
    have f6:sz (if I then y else x)<sz (.bin p x y):=by
     cases I<;>simp [sz]<;>omega
    refine ⟨rfl,(⟨u,if I then y else x,if I then n+aP x else n,D,I,S,Y⟩:Tk)::r,_,_,_,J,tv,by rw [reverse_cons];exact h',O.one f4 rfl f6 rfl,by rw [aY,aY];simp only;omega,fun f=>?_⟩;simp only [map_cons,Tk.pt,pm];rw [if_neg (by omega)]
theorem aB2 (B N:Nat) (wm:World) (w) (g7:N=wm.heap.size) (hB:B<=N) (l fb lb nb) (f0 f1 f2:Value->Option Value) (hC:Ctx B wm l fb lb nb f0 f1 f2) (cf) (a7:Value) (Z M hv) (G:Nat) (hG:G<=1000000) (hE:∀ (args:Array Value) (W:World),(callFunc cf args).run prog W=.ok (.enter cf args) W) (d:Nat->Int->Bool) (g2:∀ (j:Nat) (c4:Int) (W:World),j<G->wm.grownBy W none->Calls prog cf #[.int .i64 (j:Int),.int .i64 c4,a7] W fun e w'=>e=.returned (.bool (d j c4))/\W=w') (A:List Tk) (E D H) (h:Pr N wm w (.map (some fb)) (.map (some lb)) (.map (some nb)) (.func (.func cf) #[] #[a7]) Z M hv A.reverse E D H) (hi:qX B wm l G A E 0 H) :
  Calls prog 28 #[.pointer (some ⟨N,0,none⟩)] w fun e w'=>e=.returned (.tuple #[])/\∃ k0 g9 f3,
   Pr N wm w' (.map (some fb)) (.map (some lb)) (.map (some nb)) (.func (.func cf) #[] #[a7]) k0 g9 hv [] (pm d (szS A+1) (A.map Tk.pt) E 0 H).1 f3 (pm d (szS A+1) (A.map Tk.pt) E 0 H).2:=by
 obtain ⟨i0,l0,i5,j1,i6⟩:=info_parts mA;have m2:∀ (x:Bool) (w:World),(Op.unary .not (.bool x)).run prog w=.ok (.bool (!x)) w:=fun _ _=>rfl;have HL:=aB (fun (t:Tk) (r:List Tk) (E:List Int) (D:Int) (H:List Int) (W:World) (Z M:Value)=>aKT B N wm W g7 hB l fb lb nb f0 f1 f2 hC cf a7 Z M hv G hG hE d g2 t r E D H);obtain ⟨R,hR⟩:∃ R,R=pm d (szS A+1) (A.map Tk.pt) E 0 H:=⟨_,rfl⟩;rw [<- hR];have H0:=aB h;have i1:=aB hi;have HR:=aB hR;clear g7 hB hC hG hE g2 h hi hR
 go_enter func28,ntmps28
 go_wp2
 go_step3
 go_wp2
 go_step3
 go_wp2
 go_loopg [2] (szS A) (fun k v wr=>∃ (A:List Tk) (E:List Int) (D:Int) (H:List Int) (Z M:Value) (i:Int) (f:Nat),v=.int .i64 i/\0<=i/\i<=4000/\
  Pr N wm wr (.map (some fb)) (.map (some lb)) (.map (some nb)) (.func (.func cf) #[] #[a7]) Z M hv A.reverse E D H/\qX B wm l G A (E++replicate i.toNat 32) i H/\
  szS A<f/\R=pm d f (A.map Tk.pt) (E++replicate i.toNat 32) i H/\k=szS A)
 case atStart=>exact ⟨A,E,D,H,Z,M,0,szS A+1,rfl,by omega,by omega,H0.out,by simpa using i1.out,by omega,by simpa using HR.out,rfl⟩
 case round=>
  clear H0 i1 HR;obtain ⟨A,E,D,H,Z,M,i,f,rfl,k3,j7,S,hI,hf,hR,rfl⟩:=hrel;have a2:=hI.tl;have HB:=aB (aB1 N wm wr _ _ _ _ Z M hv A.reverse E D H S i k3 j7 (by rw [length_append] at a2;omega));have HI:=aB hI;have HR:=aB hR;have Hf:=aB hf;clear S hI hR hf a2
  go_wp2_with fail
  refine HB.out.mono ?_;rintro e w1 ⟨rfl,n7,f7⟩;have g8:=aB f7;clear f7 HB;go_wp2
  go_loopg [] (szS A) (fun k wr=>∃ (F:List Tk) (E:List Int) (D:Int) (H:List Int) (Z M:Value) (f:Nat),
   Pr N wm wr (.map (some fb)) (.map (some lb)) (.map (some nb)) (.func (.func cf) #[] #[a7]) Z M hv F.reverse E D H/\qX B wm l G F E D H/\
   szS F<f/\R=pm d f (F.map Tk.pt) E D H/\k=szS F/\szS F<=szS A)
  case atStart=>exact ⟨A,_,_,_,_,_,f,g8.out,HI.out,Hf.out,HR.out,rfl,Nat.le_refl _⟩
  case round=>
   clear g8 HI HR Hf;obtain ⟨F,E,D,H,Z,M,f,S,hI,hf,hR,rfl,d4⟩:=hrel;cases F with
   | nil=>
     have j9:=aB (aHQ N wm wr _ _ _ _ Z M hv E D H S);have h5:=S.lt
     have HR:Hid (R=(E,H)):=by
      obtain ⟨f',rfl⟩:∃ f',f=f'+1:=⟨f - 1,by omega⟩;exact hR
     clear S hI hR hf d4
     go_wp2_with fail
     refine j9.out.mono ?_;rintro e w2 ⟨rfl,Y⟩;have a4:=aB (Y.K (grownBy_alloc w2 (.cells #[.nilIface,.int .i64 0,.bool false,.int .i64 0,.bool false] 127) none));clear Y;go_wp2
     try rw [Exit.noGoto_ret]
     go_returns
     exact ⟨rfl,Z,M,D,by rw [HR.out];exact a4.out⟩
   | cons t r=>
     have J:=hI.tok t (by simp);have d5:=aCY r;have c1:=hI.tot;have a2:=hI.tl;rw [aY] at c1 a2;have c9:=uB t.T;rw [reverse_cons] at S;have a6:=aB (aJc N wm wr _ _ _ _ Z M hv r.reverse t E D H S J.node.iface (by rw [length_reverse];omega));have I:=aB (fun W=>aFm B t.v t.T t.ind t.fl t.bw t.be W wm J.node.rep);have k6:=pB t.T J.ok;have a1:=aMV (T:=t.T) (fl:=t.fl) J.lo (by have:=J.hi;omega);have d3:=aB (fun W Z M hp hb=>HL.out t r E D H W Z M hp hI hb);have b7:=aB (hI.line (brk t.T t.ind t.fl).1 a1.1 a1.2);have g1:=aB d4;obtain ⟨f',rfl⟩:∃ f',f=f'+1:=⟨f - 1,by omega⟩;have Hf:Hid (szS r<f'):=(by rw [aY] at hf;unfold Hid;omega);have HR:=aB hR;have k9:Hid (szS r<szS (t::r)):=(by rw [Hid,aY];omega);have l5:E.length<=600000000:=(by omega);obtain ⟨tt,u,f4⟩:=J.node.iface;have HF:=aB hf;clear S hI hR hf d4 J c1 a2 k6 d5 c9;obtain ⟨n6,T,tn,a3,fl,bw,be⟩:=t;simp only at f4 I;subst f4;obtain ⟨bi,a8⟩:∃ bi,bi=(brk T a3 fl).1:=⟨_,rfl⟩;cases hb:(brk T a3 fl).2
     .have HN:Hid ((brk T a3 fl).2=false):=hb;rw [hb] at I;simp only at a1;rw [<- a8] at I a1;clear hb b7 a8;unfold oA at I;unfold Tk.val at a6
      go_wp2_with fail
      refine a6.out.mono ?_;rintro e w2 ⟨rfl,d0,Y⟩;have gA:=grownBy_alloc w2 (.cells #[.iface tt u,.int .i64 a3,.bool fl,.int .i64 bw,.bool be] 127) none;have a4:=aB (Y.K gA);clear Y a6 gA
      go_wp2_with fail
      refine (I.out _).mono ?_;rintro e w3 ⟨rfl,g3⟩;have h0:=aB (a4.out.K g3);have z0:=g3.cell (a:=⟨w2.heap.size,0,none⟩) (v:=.iface tt u) (by simp [go_sem]) (by simp);have z1:=g3.cell (a:=⟨w2.heap.size,1,none⟩) (v:=.int .i64 a3) (by simp [go_sem]) (by simp);have z2:=g3.cell (a:=⟨w2.heap.size,2,none⟩) (v:=.bool fl) (by simp [go_sem]) (by simp);have z3:=g3.cell (a:=⟨w2.heap.size,3,none⟩) (v:=.int .i64 bw) (by simp [go_sem]) (by simp);have z4:=g3.cell (a:=⟨w2.heap.size,4,none⟩) (v:=.bool be) (by simp [go_sem]) (by simp);have h7:=aB (d3.out w3 d0 M h0.out HN.out);clear d3 h0 a4 I g3
      go_wp2_with fail
      refine h7.out.mono ?_;rintro e w4 ⟨rfl,c7,k7,h6,k5,j0,k8,g6,g5,c8,h9⟩;have j6:=aB g6;have j5:=aB g5;have b9:=aB c8;have k1:=aB (h9 f');clear g6 g5 c8 h9 h7;go_wp2
      go_roundg (szS c7)
      case measure=>exact b9.out
      case rel=>
       have h1:=b9.out;have h2:=HF.out;have h3:=g1.out;exact ⟨c7,k7,h6,k5,j0,k8,f',j6.out,j5.out,by omega,HR.out.trans k1.out,rfl,by omega⟩
     .have HN:Hid ((brk T a3 fl).2=true):=hb;rw [hb] at I;simp only at a1 b7;rw [<- a8] at I a1 b7
      have i8:Hid (R=pm d f' (r.map Tk.pt) (E++[10]++replicate bi.toNat 32) bi H):=by
       rw [Hid,HR.out,map_cons];cases T with
       | leaf p=>simp only [Tk.pt,pm,HN.out,<- a8,if_true]
       | un p x=>simp [brk] at hb
       | bin p x y=>simp [brk] at hb
      clear hb a8 d3 HR;unfold oA at I;unfold Tk.val at a6;obtain ⟨f8,f9⟩:=a1
      go_wp2_with fail
      refine a6.out.mono ?_;rintro e w2 ⟨rfl,d0,Y⟩;have gA:=grownBy_alloc w2 (.cells #[.iface tt u,.int .i64 a3,.bool fl,.int .i64 bw,.bool be] 127) none;have a4:=aB (Y.K gA);clear Y a6 gA
      go_wp2_with fail
      refine (I.out _).mono ?_;rintro e w3 ⟨rfl,g3⟩;have S:=a4.out.K g3;have HQ:=aB S;have c5:=S.c5;have f5:=S.fz 5;have h5:=S.lt;have a2:=ownsRow.lt S.trow;obtain ⟨ta,m4,i4,_,_⟩:=aZ S.trow;have a5:w3.grownBy (w3.alloc (.cells #[.int .u8 10] 5)) none:=gWA;have h4:M.ownBlock≠some N:=fun e=>by have:=a2 N e;omega
      have g4:=aB h4;have c3:w3.ownsRow (N+1) 5 1 M E.length (E.map (Value.int .u8)):=S.trow;have f6:=aB c3;have j2:=a5.cell c5 (by simp);have j4:(w3.alloc (.cells #[.int .u8 10] 5)).frozen? ⟨N,5,none⟩=false:=(frozen?_of_block (a5.block N h5 (by simp))).trans f5;have i3:=aB a5;subst i4;clear h4 S c3 a5 g3 a4 I
      go_wp2_with (at_builtin;refine wpList_append_own_at _ rfl _ _ 22 rfl (N+1) 5 i0 (.int .u8 0) 1 1 underlying22 l0 i5 j1 i6 rfl (by decide) _ _ _ rfl (ownsRow.alloc f6.out _) ⟨w3.heap.size,0,none⟩ 1 1 [.int .u8 10] rfl rfl (qS _ _ _) (by intro u hu;simp at hu;subst hu;rfl) (by unfold maxLen;omega) (by omega) (by simp;omega) ?_;intro v1 w4 b1 O _ d9;have x5:=O.cell j2 (fun e=>g4.out e.symm);have y5:w4.frozen? ⟨N,5,none⟩=false:=(frozen?_of_block (O.block N (by simp;omega) (fun e=>g4.out e.symm))).trans j4;obtain ⟨va,c2,k4,_,_⟩:=aZ b1;subst k4)
      go_roundg (szS r)
      case measure=>
       have h1:=k9.out;have h3:=g1.out;omega
      case rel=>
       refine ⟨r,E++[10],D,H,d0,.slice va (E.length+1) c2,bi,f',rfl,f8,f9,?_,b7.out,Hf.out,i8.out,rfl⟩;refine Pr.X (HQ.out.K i3.out) (tv':=.slice va (E.length+1) c2) O ?_ ?_
       .unfold OwB Ow;rw [map_append,length_append];exact b1
       .rcases d9 with e | e
        .exact .inl e
        .exact .inr ⟨_,e,by simp⟩
def Mt:List iF->List PT->Prop
 | [],[]=>True
 | it::its,t::ts=>(t.T=it.T/\t.n=it.n/\t.ind=it.ind/\t.fl=false/\t.bw=dZ (its.map (·.T)))/\KOk it.T/\Mt its ts
 | _,_=>False
theorem aAh {p:Pc} {A} (h:p.k=2\/p.k=3\/p.k=4):brk (.leaf p) A false=(A,true):=by
 simp only [brk]
 by_cases D:p.k=2\/p.k=3
 .rw [if_pos D];rfl
 .rw [if_neg D,if_pos (by omega)]
theorem aDv {p:Pc} {A} (h:p.k=5):brk (.leaf p) A false=(0,true):=by
 simp only [brk];rw [if_neg (by omega),if_neg (by omega),if_pos h]
theorem pA {p:Pc} {A} (h:p.k=0\/p.k=1):brk (.leaf p) A false=(0,false):=by
 simp only [brk];rw [if_neg (by omega),if_neg (by omega),if_neg (by omega)]
theorem nC (A):∀ (m:Nat) (D:List iF) (N:List PT) (H G:List Int) (E:Int),szs (trs D)<=m->Mt D N->
  iJ A none D H G E=some (pmL (fun _ F=>decide (F<=A)) N H E G)
 | m,[],[],H,G,E,_,_=>by rw [aAV,aGG]
 | m,⟨.leaf p,n,ind⟩::D,⟨T,n',ind',fl,bw,be⟩::N,H,G,E,hm,h=>by
   simp only [Mt] at h;obtain ⟨⟨rfl,rfl,rfl,rfl,rfl⟩,I,S⟩:=h;rw [aR] at hm;simp only [szs,sz] at hm;cases m with
   | zero=>omega
   | succ m=>
   have ih:=fun o c=>nC A m D N o G c (by omega) S;simp only [KOk] at I;rw [xY,wU]
   by_cases Y:p.k=1
   .rw [if_pos Y,pA (.inr Y),if_neg (by simp),if_pos Y,ih]
   .rw [if_neg Y]
    by_cases h5:p.k=5
    .rw [if_pos h5,aDv h5,if_pos rfl,ih];simp
    .rw [if_neg h5]
     by_cases J:p.k=2\/p.k=3\/p.k=4
     .rw [if_pos J,aAh J,if_pos rfl,ih];simp [aO]
     .rw [if_neg J,pA (.inl (by omega)),if_neg (by simp),if_neg Y,if_neg (by omega),ih]
 | m,⟨.un p x,n,ind⟩::D,⟨T,n',ind',fl,bw,be⟩::N,H,G,E,hm,h=>by
   simp only [Mt] at h;obtain ⟨⟨rfl,rfl,rfl,rfl,rfl⟩,I,S⟩:=h;rw [aR] at hm;simp only [szs,sz] at hm;cases m with
   | zero=>omega
   | succ m=>
   simp only [KOk] at I;have O:=fun i o mm c=>nC A m (⟨x,n',i⟩::D) (⟨x,n',i,false,dZ (D.map (·.T)),be⟩::N) o mm c (by rw [aR];simp only [szs];omega) ⟨⟨rfl,rfl,rfl,rfl,rfl⟩,I.2,S⟩;have a2:=fun o mm c=>nC A m D N o mm c (by omega) S;have Z:=rQ x I.2;rw [aDG,aC1];rcases I.1 with h7 | h8
   .rw [if_pos h7,if_pos h7];exact O _ _ _ _
   .rw [if_neg (by omega),if_neg (by omega)];simp only [Bool.false_or];cases ex:aD x [] with
    | none=>
      have hc:kN (flatW x) E (dZ (D.map (·.T))) (fun F=>decide (F<=A))=false:=(by unfold kN;rw [if_pos (Z.2 ex)]);rw [hc];simp only [Bool.false_eq_true,if_false];exact O _ _ _ _
    | some text=>
      have hw:=Z.1 text ex
      have hc:kN (flatW x) E (dZ (D.map (·.T))) (fun F=>decide (F<=A))=decide (E+aF text+dZ (D.map (·.T))<=A):=by
       unfold kN;rw [if_neg (by omega),hw.1]
      rw [hc]
      by_cases M:E+aF text+dZ (D.map (·.T))<=A
      .simp only [if_pos M,decide_eq_true M,if_true];rw [oN _ x _ _ _ _ _ _ _ _ text I.2 ex,a2];simp only [jE,if_pos h8,hw.1]
      .simp only [if_neg M,decide_eq_false M,Bool.false_eq_true,if_false];exact O _ _ _ _
 | m,⟨.bin p x y,n,ind⟩::D,⟨T,n',ind',fl,bw,be⟩::N,H,G,E,hm,h=>by
   simp only [Mt] at h;obtain ⟨⟨rfl,rfl,rfl,rfl,rfl⟩,I,S⟩:=h;rw [aR] at hm;simp only [szs,sz] at hm;cases m with
   | zero=>omega
   | succ m=>
   simp only [KOk] at I;rw [aAz,aAg];rcases I.1 with h6 | h9
   .rw [if_pos h6,if_pos h6];refine nC A m _ _ _ _ _ (by rw [aR,aR];simp only [szs];omega) ⟨⟨rfl,rfl,rfl,rfl,?_⟩,I.2.1,⟨rfl,rfl,rfl,rfl,rfl⟩,I.2.2,S⟩;simp only [map_cons,dZ]
   .rw [if_neg (by omega),if_neg (by omega)];simp only [Bool.false_eq_true,if_false];exact nC A m _ _ _ _ _ (by rw [aR];simp only [szs];omega) ⟨⟨rfl,rfl,rfl,rfl,rfl⟩,I.2.1,S⟩
 | _,[],_::_,_,_,_,_,h=>h.elim
 | _,_::_,[],_,_,_,_,h=>by cases h
theorem uJ.later {B w H l} {f:Value->Option Value} {F:Tr->Value} (I:∀ T D,Sim T D->F T=F D) {u T} (O:Rep (fun _=>False) B w u T) (M:cU w u T l) (h:uJ B w l f F) (J:w.grownBy H none):uJ B H l f F:=by
 intro v G S E;obtain ⟨i,N⟩:=mem_iff_getElem?.1 G;obtain ⟨D,_,A,_⟩:=lL O M i v N;rw [h v G D A,I D S (vY (A.K J) E)]
theorem rV (B nv u0 Y) (l:List Value) (w:World) (H:w.ownsRow B 63 1 nv l.length l) (hr:Rep (fun _=>False) B w u0 Y) (hp:cU w u0 Y l) (ho:lY (fun _=>False) w l) (c4:sz Y<=140000) (hl:l.length<=40000) (cf:Nat) (S:Value) :
  Calls prog 26 #[nv,.func (.func cf) #[] #[S]] w fun e w'=>∃ wm fb lb nb f0 f1 f2 wv hv,e=.returned (.pointer (some ⟨wm.heap.size,0,none⟩))/\Ctx B wm l fb lb nb f0 f1 f2/\cH B wm l u0 Y 0/\w.grownBy wm none/\
   Pr wm.heap.size wm w' (.map (some fb)) (.map (some lb)) (.map (some nb)) (.func (.func cf) #[] #[S]) wv (.slice none 0 0) hv [⟨u0,Y,0,0,false,0,false⟩] [] 0 (replicate (gO l) 0):=by
 have hW:=aAl B nv u0 Y l w H hr hp ho c4;obtain ⟨a,h6,f9,k1,j1⟩:=aZ H;have HR:=bL H;have E:=bL hr;have J:=bL hp;have a8:=bL ho;subst f9;clear H hr hp ho
 go_enter func26,ntmps26
 go_wp2_with fail
 refine hW.mono ?_;rintro e w1 ⟨f0,n0,rfl,c1,c8,g1⟩;have a0:∀ {W W':World},W.grownBy W' none->∀ b,b<W.heap.size->¬ False->W'.heap[b]?=W.heap[b]?:=fun h b hb _=>h.block b hb (by simp);have hL:=aEJ B _ u0 Y l w1 (fT HR.out g1 (by simp)) (E.out.K g1) (J.out.K E.out g1) (a8.out.turn (a0 g1) (fun _ _ h=>h)) c4;clear hW
 go_wp2_with fail
 refine hL.mono ?_;rintro e w2 ⟨f1,n1,rfl,c2,c9,g2⟩;have I:=aA g1 g2;have hG:=yS B _ u0 Y l w2 (fT HR.out I (by simp)) (E.out.K I) (J.out.K E.out I) (a8.out.turn (a0 I) (fun _ _ h=>h));clear hL
 go_wp2_with fail
 refine hG.mono ?_;rintro e D ⟨f2,rfl,a3,b6,g3⟩;have F:=aA I g3
 have a2:Ctx B D l w.heap.size w1.heap.size w2.heap.size f0 f1 f2:=
  ⟨a8.out.turn (a0 F) (fun _ _ h=>h),⟨n0,c1.K (aA g2 g3)⟩,⟨n1,c2.K g3⟩,a3,uJ.later aGh E.out J.out c8 F,uJ.later aGZ (E.out.K g1) (J.out.K E.out g1) c9 (aA g2 g3),b6⟩
 have b8:=bL a2;have a5:Hid (cH B D l u0 Y 0):=⟨[],l,[],by simp,J.out.K E.out F,E.out.K F,rfl⟩;have Z:=bL F;obtain ⟨i0,hi,d6,f5,f3⟩:=info_parts aAp;have j8:=aAa l;have c7:=(a3.K (grownBy_alloc D (.cells #[.map (some w.heap.size),.map (some w1.heap.size),.map (some w2.heap.size),.func (.func cf) #[] #[S],.slice none 0 0,.slice none 0 0,.int .i64 0,.slice none 0 0] 76) none)).run_len underlying71 3;clear hG c1 c2 a3 c8 c9 b6 a2 a0;generalize c3:gO l=cn at *;have d9:=bL c3;clear c3
 go_wp2_with (at_make;refine wpList_make_full _ rfl _ _ 35 rfl (D.heap.size+1) 3 i0 (.int .i64 0) 1 underlying35 hi d6 f5 _ _ _ _ cn rfl rfl (by omega) (by omega) ?b2 ?b3 (by simp) ?_)
 case b2=>rw [f3];omega
 case b3=>unfold maxLen;omega
 intro w4 M A;have f6:=A.size;simp only [size_alloc] at f6;have x0:=A.cell (a:=⟨D.heap.size,0,none⟩) (v:=.map (some w.heap.size)) (by simp [go_sem]) (by simp);have x1:=A.cell (a:=⟨D.heap.size,1,none⟩) (v:=.map (some w1.heap.size)) (by simp [go_sem]) (by simp);have x2:=A.cell (a:=⟨D.heap.size,2,none⟩) (v:=.map (some w2.heap.size)) (by simp [go_sem]) (by simp);have x3:=A.cell (a:=⟨D.heap.size,3,none⟩) (v:=.func (.func cf) #[] #[S]) (by simp [go_sem]) (by simp);have x4:=A.cell (a:=⟨D.heap.size,4,none⟩) (v:=.slice none 0 0) (by simp [go_sem]) (by simp);have x5:=A.cell (a:=⟨D.heap.size,5,none⟩) (v:=.slice none 0 0) (by simp [go_sem]) (by simp);have x6:=A.cell (a:=⟨D.heap.size,6,none⟩) (v:=.int .i64 0) (by simp [go_sem]) (by simp);have x7:=A.cell (a:=⟨D.heap.size,7,none⟩) (v:=.slice none 0 0) (by simp [go_sem]) (by simp);have a4:∀ j,w4.frozen? ⟨D.heap.size,j,none⟩=false:=fun j=>(frozen?_of_block (A.block D.heap.size (by simp) (by simp))).trans (by simp [go_sem]);have z7:=a4 7;have N:Below D.heap.size D w4:=((Below.refl _ D).alloc (Nat.le_refl _) _).grown A (by simp) (fun k e=>by cases e)
 have O:OwI (D.heap.size+1) w4 (.slice (some ⟨D.heap.size+1,0,none⟩) cn cn) (replicate cn 0):=by
  unfold OwI Ow;rw [length_replicate];simpa [toList_madeCells_one,Value.cells] using M
 have b5:Pr D.heap.size D (w4.setCell ⟨D.heap.size,7,none⟩ (.slice (some ⟨D.heap.size+1,0,none⟩) cn cn)) (.map (some w.heap.size)) (.map (some w1.heap.size)) (.map (some w2.heap.size)) (.func (.func cf) #[] #[S]) (.slice none 0 0) (.slice none 0 0) (.slice (some ⟨D.heap.size+1,0,none⟩) cn cn) [] [] 0 (replicate cn 0):=
  ⟨N.setCell (p:=⟨D.heap.size,7,none⟩) (Nat.le_refl _) _,by simp [go_sem,x0],by simp [go_sem,x1],by simp [go_sem,x2],by simp [go_sem,x3],by simp [go_sem,x4],by simp [go_sem,x5],by simp [go_sem,x6],by simp [go_sem,x7],fun j=>by simpa using a4 j,
   ownsRow_nil _ _ _ _,ownsRow_nil _ _ _ _,dP O _ _ (by simp [Value.ownBlock]),(fun g h=>by simp [Value.ownBlock] at h),(fun g h=>by simp [Value.ownBlock] at h),(fun g h=>by simp [Value.ownBlock] at h)⟩
 have g4:=bL b5;obtain ⟨l',a7⟩:=J.out.last;obtain ⟨tu,yu,G⟩:=E.out.form;have c0:l.length=l'.length+1:=(by rw [a7];simp);rcases HR.out.2 with ⟨_,h0⟩ | ⟨g,cp,k3,f4,k6,b7,h3,i7,g6,g0⟩
 .omega
 cases f4;have h4:=(Array.getElem?_eq_some_iff.1 b7).1;have m0:=ownsRow.cellAt HR.out l'.length (by omega);rw [a7,getElem?_append_right (Nat.le_refl _)] at m0;simp only [Nat.sub_self,getElem?_cons_zero,G] at m0;have m4:w4.cell? ⟨g,l'.length,none⟩=some (.iface tu yu):=(N.cell (p:=⟨g,l'.length,none⟩) (by have:=Z.out.size;simp only;omega)).trans (Z.out.cell m0 (by simp));have i1:¬ g=D.heap.size:=(by have:=Z.out.size;omega);have j9:=bL c0;have a6:=bL G;generalize l.length=ll at *;clear b5 N O M A b7 g6 g0 a7 m0 c7 G g1 g2 g3 I F a4;subst c0;have h8:IntKind.i64.wrap (l'.length:Int)=(l'.length:Int):=by simp [IntKind.wrap,IntKind.bits,IntKind.signed];omega
 go_wp2_with fail
 go_region_with (go_at_call 67;refine (kG _ D _ _ _ _ _ _ _ _ _ _ _ _ (g4.out.K (bO (grownBy.refl _ _))) ⟨.iface tu yu,Y,0,0,false,0,false⟩ ⟨_,_,rfl⟩ (by simp)).mono ?_;rintro e w6 ⟨rfl,⟨f7,d8,_⟩,_,_⟩)
 all_goals
  go_wp2;go_ret;exact ⟨D,w.heap.size,w1.heap.size,w2.heap.size,f0,f1,f2,f7,_,rfl,b8.out,a5.out,Z.out,by rw [d9.out,a6.out];exact d8⟩
theorem yC {h} {T:Tr} (F:Doc h) (D:eS h=true) (E:bd h []=some [T]) (A:Seg h (cI h) T 0 h.length) :
  okN T/\dO T<=4000/\sz T<=140000/\KOk T/\grp h h.length=aP T:=by
 obtain ⟨H,I,G⟩:=aAn D E;refine ⟨H,I,aLw h D T E,aAb G F.bys A,?_⟩;have:=zV A;rw [aEc] at this;omega
theorem aCA {B A l u T} (F:cH B A l u T 0) (G:okN T) (H:dO T<=4000) (I:sz T<=140000) (E:gO l=aP T) :
  qX B A l (gO l) [⟨u,T,0,0,false,0,false⟩] [] 0 (replicate (gO l) 0):=by
 have h:szS [⟨u,T,0,0,false,0,false⟩]=sz T:=(by simp [szS,szs]);refine ⟨fun t D=>?_,⟨by simp [szS,szs],trivial⟩,by rw [h];exact I,by simp,by rw [h];omega,by rw [h];omega,by rw [h];simp;omega⟩;simp at D;subst D;exact ⟨F,G,by simp,by simpa using H,by simp [E]⟩
theorem aAu (v I) (A:Int) (w:World) (hv:RdP w.heap.size w v I) (hd:Doc I) (hT:Tab w) :
  Calls prog 8 #[v,.int .i64 A] w fun e w'=>aF3 w (fL I A) e w':=by
 have gA:=grownBy_alloc w (.cells #[.int .i64 A] 3) none;have HN:=aB (rU v I (w.alloc (.cells #[.int .i64 A] 3)) ((hv.K gA).wide gA.size) hd (hT.K gA));obtain ⟨a,i6,d8,_⟩:=id hv;subst d8;have b5:=aB gA;have HD:=aB hd;clear hv hT hd gA
 go_enter func8,ntmps8
 go_wp2_with fail
 refine HN.out.mono ?_;intro e w1 hS;obtain ⟨G,d2⟩:=vZ hS;rcases d2 with ⟨h1,O,T,u,nv,l,h3,h5,rfl,Z,J,M,E,H⟩ | ⟨h1,rfl⟩
 .have a9:w1.cell? ⟨w.heap.size,0,none⟩=some (.int .i64 A):=(G.cell (p:=⟨w.heap.size,0,none⟩) (by simp)).trans (by simp [go_sem]);have G1:=aB (aA b5.out (aC G));obtain ⟨na,g1,b4,i2,h6⟩:=aZ J
  have f6:¬ l.length=0:=by
   obtain ⟨l',e⟩:=E.last;rw [e];simp
  have h2:((l.length:Int)==0)=false:=beq_false_of_ne (by omega);obtain ⟨f1,f2,f3,f4,f5⟩:=yC HD.out h1 h3 h5;have N:=nH M E
  by_cases hw:0<=A/\A<=65535
  .have HR:Hid (fL I A=iJ A none [⟨T,0,0⟩] [] (replicate (gO l) 0) 0):=by
    unfold Hid fL;rw [if_pos ⟨h1,hw⟩,h3,f5,N]
   have a3:=aB (nC A (sz T) [⟨T,0,0⟩] [⟨T,0,0,false,0,false⟩] [] (replicate (gO l) 0) 0 (by simp [trs,szs]) ⟨⟨rfl,rfl,rfl,rfl,rfl⟩,f4,trivial⟩);have a8:=aB (fun cf cp=>rV _ nv u T l w1 J M E H f3 (by omega) cf cp);have HF:=aB (And.intro f1 (And.intro f2 f3));have c6:=aB N;have Hl:=aB Z;have a6:=aB O;obtain ⟨d3,i1⟩:=hw;subst b4;clear hS J M E H f1 f2 f3 f4 f5 N h1 h3 h5 G HN Z O;have f8:(0:Int)<(l.length:Int):=by omega
   go_wp2_with fail
   refine (a8.out _ _).mono ?_;rintro e w2 ⟨wm,fb,lb,nb,f0,f1,f2,wv,a1,rfl,hC,a7,S,hP⟩;have b1:∀ W,wm.grownBy W none->W.cell? ⟨w.heap.size,0,none⟩=some (.int .i64 A):=fun W Y=>Y.cell (S.cell a9 (by simp)) (by simp)
   have hB:w.heap.size+1<=wm.heap.size:=by
    have:=S.size;have:=block_lt_of_cell? w1 _ a9;simp only at this;omega
   have b2:=aB (aB2 _ wm.heap.size wm w2 rfl (by simpa using hB) l fb lb nb f0 f1 f2 hC 27 (.pointer (some ⟨w.heap.size,0,none⟩)) wv _ a1 (gO l) (by have:=aAa l;have:=Hl.out;have:=a6.out;omega)
    (fun args W=>aDy args W) (fun _ D=>decide (D<=A)) (fun j D W _ Y=>aCW w.heap.size A j D W (b1 W Y)) [⟨u,T,0,0,false,0,false⟩] [] 0 (replicate (gO l) 0) hP (aCA a7 HF.out.1 HF.out.2.1 HF.out.2.2 c6.out))
   have GW:=aB S;clear b1 hP hC a7 a8 S
   go_wp2_with fail
   refine b2.out.mono ?_;rintro e w3 ⟨rfl,g7,b7,f7,F⟩
   have b8:pm (fun _ D=>decide (D<=A)) (szS [⟨u,T,0,0,false,0,false⟩]+1) (List.map Tk.pt [⟨u,T,0,0,false,0,false⟩]) [] 0 (replicate (gO l) 0)=pmL (fun _ D=>decide (D<=A)) [⟨T,0,0,false,0,false⟩] [] 0 (replicate (gO l) 0):=by
    unfold pmL;rw [<- aJe];rfl
   rw [b8] at F;obtain ⟨R,hR⟩:∃ R,R=pmL (fun _ D=>decide (D<=A)) [⟨T,0,0,false,0,false⟩] [] 0 (replicate (gO l) 0):=⟨_,rfl⟩;rw [<- hR] at F a3;have c5:=F.c5;have c7:=F.c7;obtain ⟨ta,g2,c4,_,_⟩:=aZ F.trow;obtain ⟨ha,d4,d0,_,_⟩:=aZ F.hrow
   have HE:Hid (∀ W,w3.grownBy W none->OwB w.heap.size W b7 R.1/\OwI w.heap.size W a1 R.2/\(∀ g,b7.ownBlock=some g->a1.ownBlock≠some g)/\w.grownBy W none):=
    fun W Y=>⟨Ow.later (gP (by omega) F.trow) Y,Ow.later (gP (by omega) F.hrow) Y,F.dth,aA (aA (aA G1.out GW.out) (aC F.bel)) Y⟩
   clear b8 hR F b2;subst c4 d0
   go_wp2_with fail
   go_quiet (fail)
   go_wp2
   go_ret3
   rw [HR.out,a3.out];exact ⟨_,_,rfl,HE.out _ (cA (grownBy.refl _ _) _)⟩
  .have HR:Hid (fL I A=none):=(by unfold Hid fL;rw [if_neg (fun h=>hw h.2)]);subst b4;clear hS J M E H f1 f2 f3 f4 f5 N h1 h3 h5 G HN Z O
   by_cases d3:A<0
   .clear hw;go_wp2
    go_ret3
    rw [HR.out];exact ⟨rfl,G1.out⟩
   .have i4:65535<A:=(by omega);clear hw;go_wp2
    go_ret3
    rw [HR.out];exact ⟨rfl,G1.out⟩
 .have HR:Hid (fL I A=none):=(by unfold Hid fL;rw [if_neg (fun h=>by rw [h1] at h;cases h.1)]);have G1:=aB (aA b5.out (aC G));clear hS G HN h1;go_wp2
  go_ret3
  rw [HR.out];exact ⟨rfl,G1.out⟩
end Go.Proofs.YtckcaefnokeodaaGreatDoor
