import Derived.Test.YtckcaefnokeodaaGreatDoorMBK
set_option maxHeartbeats 16000000
set_option maxRecDepth 100000
namespace Go.Proofs.YtckcaefnokeodaaGreatDoor
open Go.Proofs.Tryz Go.RowKit World
attribute [-go_sem] Builtin.append_
structure Tv (w:World) (b:Nat) (u0 u1:Value):Prop where
 c0:w.cell? ⟨b,0,none⟩=some u0
 c1:w.cell? ⟨b,1,none⟩=some u1
 f0:w.frozen? ⟨b,0,none⟩=false
 f1:w.frozen? ⟨b,1,none⟩=false
theorem Tv.new (w:World) (u0 u1:Value) (t:TypeId):Tv (w.alloc (.cells #[u0,u1] t)) w.heap.size u0 u1:=by
 refine ⟨?_,?_,?_,?_⟩
 .rw [cell_of_row _ w.heap.size 0 _ _ _ (heap_alloc_new w _)];rfl
 .rw [cell_of_row _ w.heap.size 1 _ _ _ (heap_alloc_new w _)];rfl
 .exact frozen_of_row _ w.heap.size 0 _ _ (heap_alloc_new w _)
 .exact frozen_of_row _ w.heap.size 1 _ _ (heap_alloc_new w _)
theorem Tv.lt {w b u0 u1} (h:Tv w b u0 u1):b<w.heap.size:=block_lt_of_cell? w _ h.c0
theorem Tv.block {w} {D:World} {b u0 u1} (h:Tv w b u0 u1) (A:D.heap[b]?=w.heap[b]?):Tv D b u0 u1:=
 ⟨(cell?_of_block (a:=⟨b,0,none⟩) A).trans h.c0,(cell?_of_block (a:=⟨b,1,none⟩) A).trans h.c1,(frozen?_of_block (a:=⟨b,0,none⟩) A).trans h.f0,(frozen?_of_block (a:=⟨b,1,none⟩) A).trans h.f1⟩
theorem Tv.K {w w' b u0 u1 r} (h:Tv w b u0 u1) (g:w.grownBy w' r) (A:some b≠r):Tv w' b u0 u1:=h.block (g.block b h.lt A)
def Trk (F:Nat) (v:Value) (zs:List Int) (Gq:Gk) (w:World) (r:(List Nod × List Cm) × Nat) (e:Ending) (w':World):Prop:=∃ na nn nc ta tn tc,e=.returned (.agg #[.slice na nn nc,.slice ta tn tc])/\∃ Gq',JN (Ful Gq') (na,nn,nc) r.1.1/\JC (Ful Gq') (ta,tn,tc) r.1.2/\KD F v zs Gq w r.2 Gq' w'
theorem JN.blk {A Gq' v E} (h:JN (Ful A) v E) (I:Rle (Ful A) (Ful Gq')) (F:∀ b y,v.1=some ⟨b,0,none⟩->A b=some y->Gq' b=some y):JN (Ful Gq') v E:=by
 obtain ⟨D,G,H⟩:=h;exact ⟨D,G.blk F,H.mono (fun e c=>JD.mono I)⟩
theorem JN.gex {F A v E} (h:JN (Ful F) v E) (D:Gex F A):JN (Ful A) v E:=h.blk D.rle (fun b y _ e=>D b y e)
theorem aFX {F v A} (hz:Zk A) (i Gq w) (hs:KS F v A i Gq w) :
  Calls prog 35 #[.pointer (some ⟨F,0,none⟩)] w fun e w'=>Trk F v A Gq w (lE A i) e w':=by
 have HZ:=aB hz;have D0:=(KD.refl hs).K (grownBy_alloc w (Obj.cells #[.slice none 0 0,.slice none 0 0] 26) none);have tR:=Tv.new w (.slice none 0 0) (.slice none 0 0) 26;have a5:Gq w.heap.size=none:=hs.mt.gone (Nat.le_refl _);have a6:w.heap.size≠F:=(by have:=hs.lt;omega);have HN:=aB (D0.next hz);have HP:Hid (lE A i=(((lC A (oG (nxD A i).1 (nxD A (nxD A i).2).1) 4 (bV A (oG (nxD A i).1 (nxD A (nxD A i).2).1) 4 (nxD A (nxD A i).2).2)).1,(dU A (oG (nxD A i).1 (nxD A (nxD A i).2).1) (lC A (oG (nxD A i).1 (nxD A (nxD A i).2).1) 4 (bV A (oG (nxD A i).1 (nxD A (nxD A i).2).1) 4 (nxD A (nxD A i).2).2)).2).1),(dU A (oG (nxD A i).1 (nxD A (nxD A i).2).1) (lC A (oG (nxD A i).1 (nxD A (nxD A i).2).1) 4 (bV A (oG (nxD A i).1 (nxD A (nxD A i).2).1) 4 (nxD A (nxD A i).2).2)).2).2)):=rfl;have u4:=jA hz.by' i;have t2:=jA hz.by' (nxD A i).2;generalize q3:(nxD A i).1=k1 at *;generalize p9:(nxD A i).2=j1 at *;generalize k4:(nxD A j1).1=k2 at *;generalize h7:(nxD A j1).2=j2 at *;have d3:=aB (And.intro k4 h7);clear hs hz D0 q3 p9 k4 h7
 go_enter func35,ntmps35
 go_wp2_with fail
 refine HN.out.mono ?_;rintro e w1 ⟨rfl,l2,g1⟩;replace tR:=tR.K g1 (by simpa using a6);have f7:=aB (l2.next HZ.out);rw [d3.out.1,d3.out.2] at f7;clear HN l2 g1 d3;obtain ⟨qa,o6⟩:∃ qa,(k1%3==0)=qa:=⟨_,rfl⟩;obtain ⟨qb,p7⟩:∃ qb,(k2%3==1)=qb:=⟨_,rfl⟩
 have HR:Hid (oG k1 k2=if qb=true then 100000 else if qa=true then 3 else 30):=by
  unfold Hid oG;rw [<- o6,<- p7];simp
 obtain ⟨G,j9⟩:∃ G:Int,oG k1 k2=G:=⟨_,rfl⟩;rw [j9] at HP HR;clear j9
 have hb:1<=G/\G<=1000000:=by
  have:=HR.out;cases qa<;>cases qb<;>simp at this<;>omega
 obtain ⟨l1,i9⟩:=hb;have f0:=aB l1;have d4:=aB i9;clear l1 i9;cases qa<;>cases qb
 all_goals
  simp only [if_true,Bool.false_eq_true,if_false] at HR
  go_wp2_with fail
  refine f7.out.mono ?_;rintro e w2 ⟨rfl,h6,g2⟩;replace tR:=tR.K g2 (by simpa using a6);have f3:=aB h6;clear f7 h6 g2;have d8:=aB (oS HZ.out G f0.out d4.out 4 (by omega) j2 Gq w2 f3.out.st);have o4:=lO (zs:=A) (rare:=G) 4 j2;generalize bV A G 4 j2=X0 at *;rw [HR.out] at d8
  go_wp2_with fail
  refine d8.out.mono ?_;rintro e w3 ⟨xa,xn,xc,rfl,g5,f6,_,b8⟩;have i1:=tR.lt;replace tR:=tR.K b8.gr (by simpa using a6);have D3:=f3.out.trans b8;have a7:g5 w3.heap.size=none:=D3.st.mt.gone (Nat.le_refl _);have c7:g5 w.heap.size=none:=(by rw [b8.nw _ i1];exact a5);have gT:=grownBy_alloc w3 (Obj.cells #[.slice xa xn xc,.slice none 0 0] 26) none;have tT:=Tv.new w3 (.slice xa xn xc) (.slice none 0 0) 26
  have v2:xn<=341:=by
   obtain ⟨l0,h1,h2⟩:=f6;have:=h1.n;have:=h2.len;have h5:nBk 4=341:=(by decide);omega
  obtain ⟨W4,f8⟩:∃ W4,W4=w3.alloc (Obj.cells #[.slice xa xn xc,.slice none 0 0] 26):=⟨_,rfl⟩;rw [<- f8] at tT gT;have m4:=aB (D3.K gT);have l4:=aB (tR.K gT (by simp));have k0:=aB tT;have j5:=aB f6;have q8:w.heap.size≠w3.heap.size:=(by have:=tR.lt;omega);have i5:w3.heap.size≠F:=(by have:=D3.lt;have:=D3.gr.size;omega);have s4:w.heap.size<=w3.heap.size:=D3.gr.size;have h9:=aB c7;have i0:=aB a7;clear d8 f3 D3 b8 tR tT gT f6 a5 a7 c7 o4;go_wp2;rw [<- f8];clear f8;generalize w3.heap.size=Tb at *;generalize l5:w.heap.size=R at *;have a2:=aB l5;clear l5
  go_loopw [5] (fun i W=>∃ (j:Nat) (a3:Gk) (s:List Nod × Nat) (a:Option Addr) (n c:Nat),j<=4/\i=.int .i64 j/\lC A G (4 - j) s=lC A G 4 X0/\n<=3000/\JN (Ful a3) (a,n,c) s.1/\Tv W Tb (.slice a n c) (.slice none 0 0)/\Tv W R (.slice none 0 0) (.slice none 0 0)/\a3 Tb=none/\a3 R=none/\KD F v A Gq w s.2 a3 W) (fun i _=>4 - (intOf i).toNat)
  case atStart=>exact ⟨0,g5,X0,xa,xn,xc,by omega,rfl,rfl,by omega,j5.out,k0.out,l4.out,i0.out,h9.out,m4.out⟩
  case round=>
   obtain ⟨j,a3,s,a,n,c,hj,rfl,hM,hn,hJ,hT,hR,a7,a5,hD⟩:=hrel;have HM:=aB hM;have HJ:=aB hJ;have HD:=aB hD;have HT:=aB hT;have b6:=aB hR;have a0:=aB a7;have Z:=aB a5;obtain ⟨t0,t1,b7,b9⟩:=id hT
   have j4:n=s.1.length:=by
    obtain ⟨l0,h1,h2⟩:=hJ;rw [h1.n,h2.len]
   have b5:=aB j4;have r5:=hT.lt;clear m4 k0 l4 j5 i0 h9 hM hJ hT hR a7 a5 j4;rcases (show (j<4/\n<6)\/(¬ j<4\/(j<4/\¬ n<6)) by omega) with b2 | b2
   case' inl=>
    obtain ⟨v3,u9⟩:=b2;have c9:(j:Int)<4:=(by omega);have l8:(n:Int)<6:=(by omega);have j7:=aB (hD.st.left HZ.out);have u2:=hD.st.le;have u3:=HZ.out.ln;clear hD
    go_wp2_with fail
    refine j7.out.mono ?_;rintro e wc ⟨rfl,gL⟩;have Y:=aB (HD.out.K gL);have M:=aB (HT.out.K gL (by simp));have O:=aB (b6.out.K gL (by simp));clear j7 HD HT b6 gL t0 t1 b7 b9
    by_cases c6:s.2+4<A.length
    case pos=>
     have d2:(4:Int)<((A.length - s.2:Nat):Int):=by omega
     have l7:lC A G (4 - j) s=lC A G (4 - (j+1)) ({ eD with k:=5,C:=2 }::(s.1++(bV A G 3 s.2).1),(bV A G 3 s.2).2):=by
      rw [show 4 - j=(4 - (j+1))+1 by omega,lC,if_pos ⟨by have:=b5.out;omega,c6⟩]
     have p1:=aB (l7.symm.trans HM.out);have d9:=aB (oS HZ.out G f0.out d4.out 3 (by omega) s.2 a3 wc Y.out.st);have v8:=lO (zs:=A) (rare:=G) 3 s.2;generalize bV A G 3 s.2=X at *;rw [HR.out] at d9;clear l7 HM
     go_wp2_with fail
     refine d9.out.mono ?_;rintro e w6 ⟨ma,mn,mc,rfl,H,k6,r2,D⟩
     have u8:mn<=85:=by
      obtain ⟨l0,h1,h2⟩:=k6;have:=h1.n;have:=h2.len;have h5:nBk 3=85:=(by decide);omega
     have a9:=M.out.K D.gr (by simpa using i5);have S:=O.out.K D.gr (by simpa using a6);have i2:=a9.lt;have k9:=M.out.lt;have m3:=O.out.lt;have D6:=Y.out.trans D;have J:H Tb=none:=(by rw [D.nw Tb k9];exact a0.out);have E:H R=none:=(by rw [D.nw R m3];exact Z.out);have hp:JD (Ful H) (.d 5 aL false aL aL aL 2 aL) { eD with k:=5,C:=2 }:=⟨⟨rfl,rfl,rfl⟩,⟨[],.inl ⟨rfl,rfl⟩,trivial⟩,.inl ⟨rfl,rfl⟩,.inl ⟨rfl,rfl⟩,.inl ⟨rfl,rfl⟩,⟨[],.inl ⟨rfl,rfl⟩,trivial⟩⟩;obtain ⟨v7,D7,_,_,r7,_,o7⟩:=D6.lit hp #[.int .i64 5,.slice none 0 0,.bool false,.slice none 0 0,.slice none 0 0,.slice none 0 0,.int .i64 2,.slice none 0 0] rfl;obtain ⟨l3,D8,_,g4,r8,_,o8⟩:=D7.lit (JD.mono r7 hp) #[.int .i64 5,.slice none 0 0,.bool false,.slice none 0 0,.slice none 0 0,.slice none 0 0,.int .i64 2,.slice none 0 0] rfl;simp only [size_alloc] at g4 o8;obtain ⟨te,j8,b1⟩:=HJ.out;obtain ⟨me,m2,c0⟩:=k6;have a8:∀ b y,H b=some y->b<w6.heap.size:=fun b y h=>(D6.st.mt.lt (b:=b) (k:=y.1) (m:=y.2.1) (ys:=y.2.2) h).2;have a4:∀ b,b<w6.heap.size->l3 b=H b:=fun b hb=>by rw [o8 b (by omega),o7 b (by omega)]
     have c5:Ful l3 .nd (a,n,c) te:=(D.ex.ful j8).blk (fun b y e h=>by rw [a4 b (a8 b y h)];exact h);obtain ⟨oa,oc,w9,p6,p5,D9,f4,f2,r9,o9,x9⟩:=D8.appM g4 (w6.heap.size+1) (by have:=D6.gr.size;have:=a2.out;omega) (by simp) (fun ad e=>by cases e;simp) c5 (by omega)
     have c2:Ful p6 .nd (ma,mn,mc) me:=m2.blk (fun b y e h=>by
      have:=a8 b y h;rw [o9 b (by omega),a4 b this];exact h)
     have p0:=D9.gr.size
     have c4:w6.heap.size+1<=w9.heap.size:=by
      rcases f4 with ⟨h0,_⟩ | ⟨b,m,h0,h1,_⟩
      .have:=congrArg (fun x:Sv=>x.2.1) h0;simp [aL] at this
      .have h3:=(D9.st.mt.lt h1).2;have h4:=f2 ⟨b,0,none⟩ (by rw [h0]);simp at h4;omega
     obtain ⟨pa,pc,p3,I,n9,i8,c1,i7,m0,g0,f9⟩:=D9.appM f4 (w6.heap.size+1) (by have:=D6.gr.size;have:=a2.out;omega) c4 f2 c2 (by omega);have N:I Tb=none:=(by rw [g0 Tb (by omega),o9 Tb (by omega),a4 Tb i2];exact J);have b0:I R=none:=(by rw [g0 R (by omega),o9 R (by omega),a4 R S.lt];exact E);have a1:=((r7.trans r8).trans r9).trans m0
     have i3:JN (Ful I) (pa,1+n+mn,pc) ({ eD with k:=5,C:=2 }::(s.1++X.1)):=⟨_,c1,by
      have h1:Js (JD (Ful I)) [.d 5 aL false aL aL aL 2 aL] [{ eD with k:=5,C:=2 }]:=⟨JD.mono a1 hp,trivial⟩;have h2:=(h1.app (b1.mono (fun e c=>JD.mono (D.ex.rle.trans a1)))).app (c0.mono (fun e c=>JD.mono a1));simpa using h2⟩
     have l9:=((a9.K (grownBy_alloc w6 (Obj.cells #[.int .i64 5,.slice none 0 0,.bool false,.slice none 0 0,.slice none 0 0,.slice none 0 0,.int .i64 2,.slice none 0 0] 49) none) (by simp)).K (grownBy_alloc _ (Obj.cells #[.int .i64 5,.slice none 0 0,.bool false,.slice none 0 0,.slice none 0 0,.slice none 0 0,.int .i64 2,.slice none 0 0] 49) none) (by simp)).block (x9 Tb (by omega)) |>.block (f9 Tb (by omega));have d1:=((S.K (grownBy_alloc w6 (Obj.cells #[.int .i64 5,.slice none 0 0,.bool false,.slice none 0 0,.slice none 0 0,.slice none 0 0,.int .i64 2,.slice none 0 0] 49) none) (by simp)).K (grownBy_alloc _ (Obj.cells #[.int .i64 5,.slice none 0 0,.bool false,.slice none 0 0,.slice none 0 0,.slice none 0 0,.int .i64 2,.slice none 0 0] 49) none) (by simp)).block (x9 R (by have:=S.lt;omega)) |>.block (f9 R (by have:=S.lt;omega));have j3:=i8.off N (by have:=a2.out;omega) 0 (.slice pa (1+n+mn) pc);have hq:1+n+mn<=3000:=(by omega);have k3:=aB j3;have f1:=aB i3;have d7:=aB N;have d6:=aB b0;have i6:=aB (d1.block (heap_setCell_other p3 ⟨Tb,0,none⟩ R (.slice pa (1+n+mn) pc) (by simpa using q8)));obtain ⟨u0,u1,j0,i4⟩:=l9;obtain ⟨v0,v1,u6,w8⟩:=a9;generalize 1+n+mn=q2 at *;generalize 1+n=q1 at *;clear d9 D6 D D7 D8 D9 i8 j3 i3 g4 f4 c1 j8 m2 c5 c2 b1 c0 f2 i7 r2 r7 r8 r9 m0 a1 o7 o8 o9 g0 x9 f9 a4 a8 hp J E N b0 d1 S Y M O HJ a0 Z b5 p0 c4;go_wp2
     go_roundw
     case rel=>exact ⟨j+1,I,_,pa,q2,pc,by omega,by go_num,p1.out,hq,f1.out,⟨by simp [go_sem,u0],by simp [go_sem,u1],by simp [go_sem,j0],by simp [go_sem,i4]⟩,i6.out,d7.out,d6.out,k3.out⟩
     case measure=>simp [intOf];omega
    have d2:¬ (4:Int)<((A.length - s.2:Nat):Int):=by omega
    have c3:Hid (lC A G 4 X0=s):=by
     unfold Hid;rw [<- HM.out,show 4 - j=(4 - (j+1))+1 by omega,lC,if_neg (fun h=>c6 h.2)]
   case' inr=>
    have c3:Hid (lC A G 4 X0=s):=by
     unfold Hid;rw [<- HM.out]
     by_cases h4:j<4
     .rw [show 4 - j=(4 - (j+1))+1 by omega,lC,if_neg (fun h=>by have:=b5.out;omega)]
     .rw [show 4 - j=0 by omega];rfl
    have Y:=HD;have M:=HT;have O:=b6;clear hD HD HT b6 t0 t1 b7 b9;generalize x0:wr=wc at *;rcases b2 with b2 | ⟨b2,t4⟩
    case' inl=>have c9:¬ (j:Int)<4:=by omega
    case' inr=>
     have c9:(j:Int)<4:=(by omega);have l8:¬ (n:Int)<6:=by omega
   all_goals
    obtain ⟨t0,t1,b7,b9⟩:=M.out;have g3:=aB (kM Y.out.st HZ.out G f0.out d4.out);rw [c3.out] at HP;generalize dU A G s.2=TT at *;rw [HR.out] at g3
    go_wp2_with fail
    refine g3.out.mono ?_;rintro e w6 ⟨ta,tn,tc,rfl,H,b1,D⟩;have a9:=M.out.K D.gr (by simpa using i5);have S:=O.out.K D.gr (by simpa using a6);have J:H Tb=none:=(by rw [D.nw Tb M.out.lt];exact a0.out);have E:H R=none:=(by rw [D.nw R O.out.lt];exact Z.out);have D7:=(((Y.out.trans D).off J (by have:=a2.out;omega) 1 (.slice ta tn tc)).off E (by have:=a2.out;omega) 0 (.slice a n c)).off E (by have:=a2.out;omega) 1 (.slice ta tn tc);have q4:=aB D7;have q0:=aB b1;have f1:=aB (JN.gex HJ.out D.ex);obtain ⟨u0,u1,j0,i4⟩:=a9;obtain ⟨r0,r1,u5,v9⟩:=S;clear g3 D D7 b1 J E Y M O HJ a0 Z b5 t0 t1 b7 b9;go_wp2;refine bodyPost_ret (v:=.agg #[.slice a n c,.slice ta tn tc]) (by simp [results,Tryz.results35,go_sem,r0,r1]) rfl ?_;rw [HP.out];exact ⟨_,_,_,_,_,_,rfl,H,f1.out,q0.out,q4.out⟩
end Go.Proofs.YtckcaefnokeodaaGreatDoor
