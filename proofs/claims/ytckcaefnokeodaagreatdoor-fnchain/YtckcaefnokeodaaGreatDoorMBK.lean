import Derived.Test.YtckcaefnokeodaaGreatDoorMBJ
set_option maxHeartbeats 16000000
set_option maxRecDepth 100000
namespace Go.Proofs.YtckcaefnokeodaaGreatDoor
open Go.Proofs.Tryz Go.RowKit List World
attribute [-go_sem] Builtin.append_
def Ndk (F:Nat) (v:Value) (zs:List Int) (Gq:Gk) (w:World) (r:List Nod × Nat) (e:Ending) (w':World):Prop:=∃ a n c,e=.returned (.slice a n c)/\∃ Gq',JN (Ful Gq') (a,n,c) r.1/\Lo w.heap.size (a,n,c)/\KD F v zs Gq w r.2 Gq' w'
theorem JC.rle {R D:Rk} (h:Rle R D) {v:Sv} {A:List Cm} (E:JC R v A):JC D v A:=E.mono h.b h.c
theorem Rle.trans {R G D:Rk} (h:Rle R G) (E:Rle G D):Rle R D:=⟨fun v A x=>E.b v A (h.b v A x),fun v A x=>E.i v A (h.i v A x),fun v A x=>E.c v A (h.c v A x)⟩
section
variable {F:Nat} {v:Value} {zs:List Int} {i:Nat} {Gq Gq1:Gk} {w w1:World}
theorem Ful.blk {k:KK} {A:Sv} {D:List El} {Gq':Gk} (h:Ful Gq k A D) (G:∀ b y,A.1=some ⟨b,0,none⟩->Gq b=some y->Gq' b=some y):Ful Gq' k A D:=by
 rcases h with h | ⟨b,m,E,H,I⟩
 .exact .inl h
 .exact .inr ⟨b,m,E,G b _ (by rw [E]) H,I⟩
theorem KD.lit (h:KD F v zs Gq w i Gq1 w1) {k n:Int} {l y x u t:Sv} {D:Bool} {p:Nod} (I:JD (Ful Gq1) (.d k l D y x u n t) p) (E:Array Value) (J:E=(El.d k l D y x u n t).en.toArray) :
  ∃ A,KD F v zs Gq w i A (w1.alloc (.cells E 49))/\JN (Ful A) (some ⟨w1.heap.size,0,none⟩,1,1) [p]/\Ful A .nd (some ⟨w1.heap.size,0,none⟩,1,1) [.d k l D y x u n t]/\Rle (Ful Gq1) (Ful A)/\A w1.heap.size=some (.nd,1,[.d k l D y x u n t])/\∀ b,b≠w1.heap.size->A b=Gq1 b:=by
 have M:=h.new1 (.d k l D y x u n t) E J;have H:Rle (Ful Gq1) (Ful (dF Gq1 w1.heap.size (.nd,1,[.d k l D y x u n t]))):=aFY (fun k y e=>by rw [h.st.mt.gone (Nat.le_refl _)] at e;cases e);have G:Ful (dF Gq1 w1.heap.size (.nd,1,[.d k l D y x u n t])) .nd (some ⟨w1.heap.size,0,none⟩,1,1) [.d k l D y x u n t]:=.inr ⟨_,1,rfl,dX _ _ _,by unfold maxLen;omega⟩;exact ⟨_,M,⟨_,G,JD.mono H I,trivial⟩,G,H,dX _ _ _,fun b N=>bQ N⟩
theorem KD.field (h:KD F v zs Gq w i Gq1 w1) {b m:Nat} {y y':El} {G:List El} (H:Gq1 b=some (.nd,m,y::G)) (E:w.heap.size<=b) (f:Nat) {u:Value} (I:f<8) (M:y'.en=y.en.set f u) (D:y'.kd=.nd) :
  ∃ A,KD F v zs Gq w i A (w1.setCell ⟨b,f,none⟩ u)/\A b=some (.nd,m,y'::G)/\Rle (Ful Gq1) (Ful A)/\∀ c,c≠b->A c=Gq1 c:=
 ⟨_,h.set0 H E f I M D,dX _ _ _,aFY (fun k y e=>by rw [H] at e;cases e;rfl),fun c J=>bQ J⟩
end
theorem zG {F:Nat} {v:Value} {zs:List Int} (hz:Zk zs) (A:Int) (h1:1<=A) (h2:A<=1000000) (d:Nat) (E6:d<=4) (ih:∀ e,d=e+1->∀ (i:Nat) (Gq:Gk) (w:World),KS F v zs i Gq w->Calls prog 72 #[.pointer (some ⟨F,0,none⟩),.int .i64 (e:Int),.int .i64 A] w fun r w'=>Ndk F v zs Gq w (bV zs A e i) r w') (i:Nat) (Gq:Gk) (w:World) (hs:KS F v zs i Gq w) :
  Calls prog 72 #[.pointer (some ⟨F,0,none⟩),.int .i64 (d:Int),.int .i64 A] w fun r w'=>Ndk F v zs Gq w (bV zs A d i) r w':=by
 have HZ:=aB hz;have HN:=aB (hs.next hz);have z0:=jA hz.by' i;have H1:=aB (wW (zs:=zs) (rare:=A) (i:=i) (d:=d));have H2:=aB (aAr (zs:=zs) (rare:=A) (i:=i) (d:=d));have H3:=aB (aBd (zs:=zs) (rare:=A) (i:=i) (d:=d));have H4:=aB (fun e=>aDP (zs:=zs) (rare:=A) (i:=i) (d:=e));have IH:=aB ih;generalize (nxD zs i).1=k0 at *;generalize (nxD zs i).2=j0 at *;obtain ⟨G1,F8⟩:=z0;clear hs hz ih
 go_enter func72,ntmps72
 go_wp2_with fail
 refine HN.out.mono ?_;rintro e w1 ⟨rfl,q1⟩;have v1:=aB q1;have HC:=aB (kM q1.st HZ.out A h1 h2);generalize dU zs A j0=L at *;clear HN q1
 go_wp2_with fail
 refine HC.out.mono ?_;rintro e w2 ⟨Z,n1,c1,rfl,l4,s9,o0⟩;have D2:=aB (v1.out.trans o0);have b2:=aB s9;clear HC v1 o0 s9;have C9:0<=k0%16:=(by omega);have D0:k0%16<=15:=(by omega);have n9:∀ {G:Gk},JC (Ful G) aL []:=fun {G}=>⟨[],.inl ⟨rfl,rfl⟩,trivial⟩;have u7:∀ {G:Gk},JI (Ful G) aL []:=fun {G}=>.inl ⟨rfl,rfl⟩;have q4:∀ {G:Gk},JB (Ful G) aL []:=fun {G}=>.inl ⟨rfl,rfl⟩;have D:=aB (And.intro @n9 (And.intro @u7 @q4));clear n9 u7 q4
 by_cases hS:k0%16<3\/(d=0/\9<k0%16)
 .have HE:=aB (H1.out hS);have k1:k0%16<3\/(¬ k0%16<3/\(d:Int)<=0/\9<k0%16):=(by omega);clear hS H1;rcases k1 with hA | ⟨hA,g5,h9⟩
  all_goals
   have hp:JD (Ful l4) (.d (k0%16%3) (Z,n1,c1) false aL aL aL (0) aL) { eD with k:=k0%16%3,L:=L.1 }:=⟨⟨rfl,rfl,rfl⟩,b2.out,D.out.2.1,D.out.2.2,D.out.2.1,D.out.1⟩;obtain ⟨f3,D3,_,_,r3,_,_⟩:=D2.out.lit hp #[.int .i64 (k0%16%3),.slice Z n1 c1,.bool false,.slice none 0 0,.slice none 0 0,.slice none 0 0,.int .i64 0,.slice none 0 0] rfl;obtain ⟨z4,D4,j4,_⟩:=D3.lit (JD.mono r3 hp) #[.int .i64 (k0%16%3),.slice Z n1 c1,.bool false,.slice none 0 0,.slice none 0 0,.slice none 0 0,.int .i64 0,.slice none 0 0] rfl;have m5:=aB D4;have z8:=aB j4;have k3:=D2.out.gr.size;clear D3 D4 j4 r3 hp b2 D2 IH H2 H3 H4;go_wp2;go_ret;rw [HE.out];exact ⟨_,_,_,rfl,z4,by simpa only [size_alloc] using z8.out,fun a e=>by cases e;simp;omega,m5.out⟩
 have hA:¬ k0%16<3:=fun h=>hS (.inl h)
 by_cases hB:k0%16<6
 .have HE:=aB (H2.out hS (by omega));have k1:¬ (d:Int)<=0\/((d:Int)<=0/\¬ 9<k0%16):=(by omega);clear hS H2;rcases k1 with g5 | ⟨g5,h9⟩
  all_goals
   have hp:JD (Ful l4) (.d (3) (Z,n1,c1) false aL aL aL (0) aL) { eD with k:=3,L:=L.1 }:=⟨⟨rfl,rfl,rfl⟩,b2.out,D.out.2.1,D.out.2.2,D.out.2.1,D.out.1⟩;obtain ⟨f3,D3,_,_,r3,d3,_⟩:=D2.out.lit hp #[.int .i64 (3),.slice Z n1 c1,.bool false,.slice none 0 0,.slice none 0 0,.slice none 0 0,.int .i64 0,.slice none 0 0] rfl;have g4:=aB (aDA D3.st HZ.out);have z3:=WdK.at (L:=aBY) (by decide) ((nxD zs L.2).1%22).toNat;have t5:Hid (aEa zs L.2=(aBY.getD ((nxD zs L.2).1%22).toNat [],(nxD zs L.2).2)):=rfl;have k9:=aB D3;have c0:=aB d3;have d2:=aB (JC.rle r3 b2.out);have k3:=D2.out.gr.size;rw [t5.out] at g4;clear D3 hp r3 d3 b2 D2 IH H1 H3 H4;generalize aBY.getD ((nxD zs L.2).1%22).toNat []=t at *;generalize (nxD zs L.2).2=jn at *
   go_wp2_with fail
   refine g4.out.mono ?_;rintro e w4 ⟨rfl,D4⟩;obtain ⟨g2,w5,b4,D5,A5,_,A0⟩:=(k9.out.trans D4).conv t z3.2 (by omega)
   have q9:=D4.gr.size;simp only [size_alloc] at q9;have y8:f3 w4.heap.size=none:=D4.st.mt.gone (Nat.le_refl _);have x5:Gex f3 (dF f3 w4.heap.size (.bs,g2,t.map .b)):=(Gex.refl _).upd y8;obtain ⟨⟨e0,e1,e2,e3,e4,e5,e6,e7⟩,i8⟩:=D5.st.mt.eight (x5 _ _ c0.out);have E5:=i8 4 (by decide);obtain ⟨d9,D6,b6,r6,_⟩:=D5.field (x5 _ _ c0.out) k3 4 (y':=(.d (3) (Z,n1,c1) false aL (some ⟨w4.heap.size,0,none⟩,t.length,g2) aL (0) aL)) (u:=.slice (some ⟨w4.heap.size,0,none⟩) t.length g2) (by decide) rfl rfl;have k8:JD (Ful d9) ((.d (3) (Z,n1,c1) false aL (some ⟨w4.heap.size,0,none⟩,t.length,g2) aL (0) aL)) { eD with k:=3,L:=L.1,X:=t }:=⟨⟨rfl,rfl,rfl⟩,(JC.rle r6 (JC.rle x5.rle d2.out)),D.out.2.1,r6.b _ _ (.inr ⟨w4.heap.size,g2,by simp,dX _ _ _,A5⟩),D.out.2.1,D.out.1⟩;obtain ⟨b0,D7,j7,_⟩:=D6.lit k8 #[.int .i64 3,.slice Z n1 c1,.bool false,.slice none 0 0,.slice (some ⟨w4.heap.size,0,none⟩) t.length g2,.slice none 0 0,.int .i64 0,.slice none 0 0] rfl;have g1:=aB D7;have q3:=aB j7;have E9:w2.heap.size+1<=w5.heap.size:=(by omega);simp only [Sv.v] at e0 e1 e2 e3 e4 e5 e6 e7;clear g4 D4 D5 D6 D7 j7 k8 r6 b6 x5 i8 k9 c0 d2 A0;generalize w2.heap.size=Nb at *;go_wp2;go_ret;rw [HE.out,t5.out];exact ⟨_,_,_,rfl,b0,by simpa only [size_setCell] using q3.out,fun a e=>by cases e;simp;omega,g1.out⟩
 by_cases hC:k0%16<9\/d=0
 .have HE:=aB (H3.out hS (by omega) hC);have k1:(¬ (d:Int)<=0/\k0%16<9)\/((d:Int)<=0/\¬ 9<k0%16/\k0%16<9)\/((d:Int)<=0/\¬ 9<k0%16/\¬ k0%16<9):=(by omega);clear hS hC H3;rcases k1 with ⟨g5,h8⟩ | ⟨g5,h9,h8⟩ | ⟨g5,h9,h8⟩
  all_goals
   have hp:JD (Ful l4) (.d (4) (Z,n1,c1) false aL aL aL (0) aL) { eD with k:=4,L:=L.1 }:=⟨⟨rfl,rfl,rfl⟩,b2.out,D.out.2.1,D.out.2.2,D.out.2.1,D.out.1⟩;obtain ⟨f3,D3,_,_,r3,d3,_⟩:=D2.out.lit hp #[.int .i64 (4),.slice Z n1 c1,.bool false,.slice none 0 0,.slice none 0 0,.slice none 0 0,.int .i64 0,.slice none 0 0] rfl;have g4:=aB (zC D3.st HZ.out 7 (by omega) (by omega));have k9:=aB D3;have c0:=aB d3;have d2:=aB (JC.rle r3 b2.out);have k3:=D2.out.gr.size;clear D3 hp r3 d3 b2 D2 IH H1 H2 H4;generalize dus zs 7 L.2=U at *
   go_wp2_with fail
   refine g4.out.mono ?_;rintro e w5 ⟨ua,un,uc,rfl,G9,t4,_,D4⟩;have D5:=k9.out.trans D4;have q9:=D4.gr.size;simp only [size_alloc] at q9;obtain ⟨⟨e0,e1,e2,e3,e4,e5,e6,e7⟩,i8⟩:=D5.st.mt.eight (D4.ex _ _ c0.out);have G4:=i8 5 (by decide);obtain ⟨d9,D6,b6,r6,_⟩:=D5.field (D4.ex _ _ c0.out) k3 5 (y':=(.d (4) (Z,n1,c1) false aL aL (ua,un,uc) (0) aL)) (u:=.slice ua un uc) (by decide) rfl rfl;have k8:JD (Ful d9) ((.d (4) (Z,n1,c1) false aL aL (ua,un,uc) (0) aL)) { eD with k:=4,L:=L.1,U:=U.1 }:=⟨⟨rfl,rfl,rfl⟩,(JC.rle r6 (JC.rle D4.ex.rle d2.out)),D.out.2.1,D.out.2.2,r6.i _ _ t4,D.out.1⟩;obtain ⟨b0,D7,j7,_⟩:=D6.lit k8 #[.int .i64 4,.slice Z n1 c1,.bool false,.slice none 0 0,.slice none 0 0,.slice ua un uc,.int .i64 0,.slice none 0 0] rfl;have g1:=aB D7;have q3:=aB j7;simp only [Sv.v] at e0 e1 e2 e3 e4 e5 e6 e7;clear g4 D4 D5 D6 D7 j7 k8 r6 b6 i8 k9 c0 d2 t4;generalize w2.heap.size=Nb at *;go_wp2;go_ret;rw [HE.out];exact ⟨_,_,_,rfl,b0,by simpa only [size_setCell] using q3.out,fun a e=>by cases e;simp;omega,g1.out⟩
 obtain ⟨d',rfl⟩:∃ d',d=d'+1:=⟨d - 1,by omega⟩;have g5:¬ (d':Int)+1<=0:=(by omega);have h8:¬ k0%16<9:=fun h=>hC (.inl h);rw [show ((d'+1:Nat):Int)=(d':Int)+1 by omega];have hE:=H4.out d' (by omega) (by omega);rw [show k0%16%2=k0%2 by omega] at hE;obtain ⟨ob,f5⟩:∃ ob,ob=decide (k0%2=1):=⟨_,rfl⟩;rw [<- f5] at hE
 have v6:(ob=true/\(5+k0%2==6)=true)\/(ob=false/\(5+k0%2==6)=false):=by
  by_cases h:k0%2=1
  .exact .inl ⟨by rw [f5];simpa using h,by rw [h];rfl⟩
  .have h0:k0%2=0:=(by omega);exact .inr ⟨by rw [f5];simpa using h,by rw [h0];rfl⟩
 unfold aFG at hE;have hp:JD (Ful l4) (.d (5+k0%2) (Z,n1,c1) false aL aL aL (0) aL) { eD with k:=5+k0%2,L:=L.1 }:=⟨⟨rfl,rfl,rfl⟩,b2.out,D.out.2.1,D.out.2.2,D.out.2.1,D.out.1⟩;obtain ⟨f3,D3,_,_,r3,d3,_⟩:=D2.out.lit hp #[.int .i64 (5+k0%2),.slice Z n1 c1,.bool false,.slice none 0 0,.slice none 0 0,.slice none 0 0,.int .i64 0,.slice none 0 0] rfl;have t3:=aB (D3.next HZ.out);have C8:=jA HZ.out.by' L.2;have c0:=aB d3;have d2:=aB (JC.rle r3 b2.out);have k3:=D2.out.gr.size;replace IH:=aB (IH.out d' rfl);generalize (nxD zs L.2).1=k4 at *;generalize (nxD zs L.2).2=j4 at *;obtain ⟨M,hM⟩:∃ M:Nat,k4%5=(M:Int):=⟨(k4%5).toNat,by omega⟩;have F5:M<=4:=(by omega);rw [hM,Int.toNat_natCast] at hE;obtain ⟨I,hI⟩:∃ I:Nat->List Nod × Nat × Nat,I=fun j=>cV zs (bV zs A d') ob j j4:=⟨_,rfl⟩;have y6:Hid (∀ j,(I j).2.1=j->(j<2\/(I j).2.2<zs.length)->I (j+1)=((I j).1++(tV zs (bV zs A d') ob (I j).2.2).1,j+1,(tV zs (bV zs A d') ob (I j).2.2).2)):=fun j a b=>by rw [hI] at a b ⊢;exact aHq a b
 have z1:Hid (∀ j,(I j).2.1=j->¬ (j<2\/(I j).2.2<zs.length)->∀ M,j<=M->I M=I j):=fun j a b=>by rw [hI] at a b ⊢;exact aEI a b
 have y9:Hid (∀ j,(I j).1.length<=j*nBk d'):=fun j=>by rw [hI];exact uL (fun p=>(lO d' p).2) j j4
 have m7:Hid (I 0=([],0,j4)):=(by rw [hI];rfl);rw [show cV zs (bV zs A d') ob M j4=I M by rw [hI]] at hE;have HE:=aB hE;have HM:=aB hM;have A2:=aB v6;have q4:=aL8 d' (by omega);have B3:=aGu d';clear hI hE hM D3 hp r3 d3 b2 H1 H2 H3 H4 f5 v6 hS hC
 go_wp2_with fail
 refine t3.out.mono ?_;rintro e w4 ⟨rfl,v0,_⟩;have m5:=aB v0;clear t3 v0 D2;generalize w2.heap.size=Nb at *;go_wp2;rw [HM.out]
 go_loopw [10,11] (fun o t W=>∃ (j:Nat) (Gq1:Gk) (a:Option Addr) (cn c:Nat) (be:List El),j<=M/\t=.int .i64 j/\o=.slice a cn c/\(I j).2.1=j/\Ful Gq1 .nd (a,cn,c) be/\Js (JD (Ful Gq1)) be (I j).1/\Lo (Nb+1) (a,cn,c)/\Gq1 Nb=some (.nd,1,[.d (5+k0%2) (Z,n1,c1) false aL aL aL ((j:Int)) aL])/\JC (Ful Gq1) (Z,n1,c1) L.1/\KD F v zs Gq w (I j).2.2 Gq1 W)
  (fun _ t _=>M - (intOf t).toNat)
 case atStart=>exact ⟨0,f3,none,0,0,[],Nat.zero_le _,rfl,rfl,by rw [m7.out],.inl ⟨rfl,rfl⟩,by rw [m7.out];exact trivial,Lo.nil _,c0.out,d2.out,by rw [m7.out];exact m5.out⟩
 case round=>
  obtain ⟨j,t2,ba,S,bc,be,hj,rfl,rfl,l6,c7,c8,d5,c2,d4,f7⟩:=hrel;have A7:=y9.out j
  have F3:S<=6000:=by
   have h5:j*nBk d'<=4*nBk d':=Nat.mul_le_mul_right _ (by omega);have h6:=c7.n;have h7:=c8.len;omega
  clear A7
  have g0:∀ b,(ba,S,bc).1=some ⟨b,0,none⟩->b<wr.heap.size:=fun b e=>by
   rcases id c7 with ⟨h0,_⟩ | ⟨b',m',h0,h1,_⟩
   .cases h0;cases e
   .cases h0;cases e;exact (f7.st.mt.lt h1).2
  have O:=aB f7;clear m5 c0 d2 m7
  by_cases G6:j<M
  .have u0:(j:Int)<(M:Int):=(by omega);rcases (show j<2\/¬ j<2 by omega) with u4 | u4
   case' inr=>
    have v5:¬ (j:Int)<2:=(by omega);have t6:=aB (f7.st.left HZ.out);have E8:=HZ.out.ln
    go_wp2_with fail
    refine t6.out.mono ?_;rintro e wc ⟨rfl,gL⟩;have B8:=aB (O.out.K gL);have B7:∀ b,(ba,S,bc).1=some ⟨b,0,none⟩->b<wc.heap.size:=fun b e=>Nat.lt_of_lt_of_le (g0 b e) gL.size;clear t6 O f7 gL g0
    rename Hid (KD F v zs Gq w (I j).2.2 t2 wc)=>O
    rename ∀ b,(ba,S,bc).1=some ⟨b,0,none⟩->b<wc.heap.size=>g0
    by_cases u1:(I j).2.2<zs.length
    case neg=>
     have o4:¬ (0:Int)<((zs.length - (I j).2.2:Nat):Int):=(by omega);have q0:=z1.out j l6 (by omega) M (by omega);have k6:=aB (kM O.out.st HZ.out A h1 h2);rw [q0] at HE;generalize dU zs A (I j).2.2=TT at *
     go_wp2_with fail
     refine k6.out.mono ?_;rintro e w6 ⟨ta,tn,tc,rfl,d9,j9,E⟩;have D6:=O.out.trans E;have d8:=E.ex _ _ c2;obtain ⟨⟨n0,g3,n2,n3,n4,n5,n6,n7⟩,g9⟩:=D6.st.mt.eight d8;have A4:=g9 7 (by decide);obtain ⟨b0,D7,b7,r7,o7⟩:=D6.field d8 (by omega) 7 (y':=.d (5+k0%2) (Z,n1,c1) false aL aL aL ((j:Int)) (ta,tn,tc)) (u:=.slice ta tn tc) (by decide) rfl rfl
     have j1:Ful b0 .nd (ba,S,bc) be:=(E.ex.ful c7).blk (fun b y e h=>by
      have:=d5 ⟨b,0,none⟩ e;rw [o7 b (by simp at this;omega)];exact h)
     have f0:JD (Ful b0) (.d (5+k0%2) (Z,n1,c1) false aL aL aL ((j:Int)) (ta,tn,tc)) { eD with k:=5+k0%2,L:=L.1,C:=(j:Int),tail:=TT.1 }:=⟨⟨rfl,rfl,rfl⟩,JC.rle (E.ex.rle.trans r7) d4,D.out.2.1,D.out.2.2,D.out.2.1,JC.rle r7 j9⟩;obtain ⟨m1,D8,_,k7,r8,b8,o8⟩:=D7.lit f0 #[.int .i64 (5+k0%2),.slice Z n1 c1,.bool false,.slice none 0 0,.slice none 0 0,.slice none 0 0,.int .i64 (j:Int),.slice ta tn tc] rfl;have d7:=D7.gr.size
     have d0:∀ b y,b0 b=some y->b<w6.heap.size:=fun b y h=>by
      have:=(D7.st.mt.lt (b:=b) (k:=y.1) (m:=y.2.1) (ys:=y.2.2) h).2;simpa using this
     have c9:Ful m1 .nd (ba,S,bc) be:=j1.blk (fun b y e h=>by
      have:=d0 b y h;rw [o8 b (by simp;omega)];exact h)
     obtain ⟨oa,oc,p6,Y,b4,a2,J,H,N,_⟩:=D8.appN k7 w.heap.size (Nat.le_refl _) (Nat.le_trans d7 (by simp)) (fun a e=>by cases e;exact d7) c9 (by omega);simp only [size_setCell] at b4;have f1:=aB (show JN (Ful Y) (oa,1+S,oc) ({ eD with k:=5+k0%2,L:=L.1,C:=(j:Int),tail:=TT.1 }::(I j).1) from ⟨_,J,⟨JD.mono (r8.trans N) f0,c8.mono (fun e c=>JD.mono ((((E.ex.rle).trans r7).trans r8).trans N))⟩⟩);have b3:=aB H;have k2:=aB a2;simp only [Sv.v,aL] at g3 n3 n4 n5 n7;generalize 1+S=MM at *;clear k6 D6 E D7 D8 a2 J k7 c9 j1 f0 j9 H d8 g9 d0 d7 r7 r8 N o7 o8 b7 b8 O c7 c8 d5 d4 c2 IH;go_wp2;go_ret;rw [HE.out,l6];exact ⟨_,_,_,rfl,Y,f1.out,b3.out,k2.out⟩
    have o4:(0:Int)<((zs.length - (I j).2.2:Nat):Int):=(by omega);have j5:j<2\/(I j).2.2<zs.length:=.inr u1
   case' inl=>
    have v5:(j:Int)<2:=(by omega);have j5:j<2\/(I j).2.2<zs.length:=.inl u4;generalize G8:wr=wc at *;clear f7
   all_goals
    have HX:=aB (IH.out (I j).2.2 t2 wc O.out.st);have s6:=aB (lO (zs:=zs) (rare:=A) d' (I j).2.2);have q8:=y6.out j l6 j5;have w3:Hid (tV zs (bV zs A d') ob (I j).2.2=if ob then (aIm (aBC zs (bV zs A d' (I j).2.2).2).1 (bV zs A d' (I j).2.2).1,(aBC zs (bV zs A d' (I j).2.2).2).2) else bV zs A d' (I j).2.2):=rfl;rw [w3.out] at q8;generalize bV zs A d' (I j).2.2=X at *;have f2:=aB q8;clear q8 w3
    go_wp2_with fail
    refine HX.out.mono ?_;rintro e w6 ⟨xa,xn,xc,rfl,d9,⟨xe,l5,c4⟩,p1,E⟩;have p7:=c4.len;have l8:=s6.out;obtain ⟨X1,X2⟩:=X;simp only at c4 p7 l8 E f2
    obtain ⟨p0,pr,rfl⟩:∃ p0 pr,X1=p0::pr:=by
     cases X1 with
     | nil=>simp at l8
     | cons p0 pr=>exact ⟨p0,pr,rfl⟩
    obtain ⟨A9,er,rfl⟩:∃ e0 er,xe=e0::er:=by
     cases xe with
     | nil=>exact c4.elim
     | cons p0 pr=>exact ⟨p0,pr,rfl⟩
    have E7:er.length+1<=1365:=(by simp at p7 l8;omega);clear p7 l8 s6;rcases id l5 with ⟨_,h0⟩ | ⟨bx,mx,y5,f4,z7⟩
    .cases h0
    cases y5;have G5:=E.gr.size;have F7:wc.heap.size<=bx:=p1 ⟨bx,0,none⟩ rfl;have E2:Nb<wc.heap.size:=(O.out.st.mt.lt c2).2;have D6:=O.out.trans E;obtain ⟨⟨n0,g3,n2,n3,n4,n5,n6,n7⟩,_⟩:=D6.st.mt.eight (E.ex _ _ c2);have a9:=E.ex;have m6:=E.ex.ful c7
    have p9:∀ b y,(ba,S,bc).1=some ⟨b,0,none⟩->d9 b=some y->b<bx:=fun b y e h=>by
     have:=g0 b e;omega
    rcases A2.out with ⟨ho,q6⟩ | ⟨ho,q6⟩
    .subst ho;cases A9 with
     | b _=>exact c4.1.elim
     | i _=>exact c4.1.elim
     | c _ _=>exact c4.1.elim
     | d xk xl xm xy xx xu xnn xt=>
     obtain ⟨t7,t1⟩:=c4;obtain ⟨⟨i0,i1,i2,i3,_,_,_,_⟩,t0⟩:=D6.st.mt.eight f4;have G0:=t0 2 (by decide);obtain ⟨b0,D7,b7,r7,o7⟩:=D6.field f4 (by have:=O.out.gr.size;omega) 2 (y':=.d xk xl true xy xx xu xnn xt) (u:=.bool true) (by decide) rfl rfl;have u8:=aB (aHA D7.st HZ.out);generalize aBC zs X2=KY at *;have g1:=aB D7;have E4:(0:Int)<(er.length:Int)+1:=(by omega);simp only [Sv.v] at i1 i3 g3 n3 n4 n5 n7;simp only [length_cons];clear E D7 HX t0
     go_wp2_with fail
     refine u8.out.mono ?_;rintro e w8 ⟨ka,kn,kc,rfl,m1,s4,D8⟩;have p4:=g1.out.trans D8;have b8:=D8.ex _ _ b7;obtain ⟨⟨_,_,_,l3,_,_,_,_⟩,v2⟩:=p4.st.mt.eight b8;have G2:=v2 3 (by decide);obtain ⟨t9,D9,b9,r9,o9⟩:=p4.field b8 (by have:=O.out.gr.size;omega) 3 (y':=.d xk xl true (ka,kn,kc) xx xu xnn xt) (u:=.slice ka kn kc) (by decide) rfl rfl;have i5:=(r7.trans D8.ex.rle).trans r9
     have u3:Ful t9 .nd (ba,S,bc) be:=m6.blk (fun b y e h=>by
      have:=p9 b y e h;rw [o9 b (by omega)];exact D8.ex _ _ (by rw [o7 b (by omega)];exact h))
     obtain ⟨oa,oc,p6,Y,b4,a2,J,H,N,k5⟩:=D9.appN u3 (Nb+1) (by omega) (by have:=D8.gr.size;simp at this ⊢;omega) d5 (sa:=some ⟨bx,0,none⟩) (sn:=er.length+1) (sc:=xc) (els:=.d xk xl true (ka,kn,kc) xx xu xnn xt::er) (.inr ⟨bx,xc,by simp,b9,z7⟩) (by omega)
     have b5:Y Nb=some (.nd,1,[.d (5+k0%2) (Z,n1,c1) false aL aL aL ((j:Int)) aL]):=by
      rw [k5 Nb (by omega),o9 Nb (by omega)];exact D8.ex _ _ (by rw [o7 Nb (by omega)];exact a9 _ _ c2)
     have m8:JD (Ful t9) (.d xk xl true (ka,kn,kc) xx xu xnn xt) { p0 with mem:=true,key:=KY.1 }:=by
      obtain ⟨⟨Z,_,a3⟩,a4,_,a6,a7,a8⟩:=JD.mono i5 t7;exact ⟨⟨Z,rfl,a3⟩,a4,r9.i _ _ s4,a6,a7,a8⟩
     have i4:=((c8.mono (fun e c=>JD.mono ((a9.rle.trans i5).trans N))).app (cs':=aIm KY.1 (p0::pr)) (els':=.d xk xl true (ka,kn,kc) xx xu xnn xt::er) ⟨JD.mono N m8,t1.mono (fun e c=>JD.mono (i5.trans N))⟩);have i6:=JC.rle ((a9.rle.trans i5).trans N) d4;obtain ⟨⟨_,_,_,_,_,_,c6,_⟩,j8⟩:=a2.st.mt.eight b5;have z6:=j8 6 (by decide);obtain ⟨d1,i7,j6,d6,h4⟩:=a2.field b5 (by omega) 6 (y':=.d (5+k0%2) (Z,n1,c1) false aL aL aL ((j:Int)+1) aL) (u:=.int .i64 ((j:Int)+1)) (by decide) rfl rfl;have j3:=aB i7;have i9:=aB j6
     have j2:=aB (J.blk (Gq':=d1) (fun b y e h=>by
      have:=H ⟨b,0,none⟩ e;rw [h4 b (by simp at this;omega)];exact h))
     have f1:=aB (i4.mono (fun e c=>JD.mono d6));have p2:=aB (JC.rle d6 i6);have b3:=aB H;clear D6 a9 a2 i7 J l5 i4 i6 b5 j6 j8 O c7 c8 d5 d4 m6 p9 g0 k5 h4 N d6 f4 c2 H p1 t1 t7 m8 s4 D8 p4 D9 b7 b8 b9 r7 r9 i5 o7 o9 u3 g1 u8 v2;go_wp2
     go_roundw
     case rel=>exact ⟨j+1,d1,_,_,_,_,by omega,by go_num,rfl,by rw [f2.out],j2.out,by rw [f2.out];exact f1.out,b3.out,by push_cast;exact i9.out,p2.out,by rw [f2.out];exact j3.out⟩
     case measure=>simp [intOf];omega
    .subst ho;obtain ⟨oa,oc,p6,Y,b4,a2,J,H,N,k5⟩:=D6.appN m6 (Nb+1) (by omega) (by have:=E.gr.size;omega) d5 l5 (by simp only [length_cons];omega)
     have b5:Y Nb=some (.nd,1,[.d (5+k0%2) (Z,n1,c1) false aL aL aL ((j:Int)) aL]):=by
      rw [k5 Nb (by omega)];exact a9 _ _ c2
     have i4:=((c8.mono (fun e c=>JD.mono (a9.rle.trans N))).app (c4.mono (fun e c=>JD.mono N)));have i6:=JC.rle (a9.rle.trans N) d4;simp only [Sv.v] at g3 n3 n4 n5 n7;simp only [length_cons] at b4 J H ⊢;obtain ⟨⟨_,_,_,_,_,_,c6,_⟩,j8⟩:=a2.st.mt.eight b5;have z6:=j8 6 (by decide);obtain ⟨d1,i7,j6,d6,h4⟩:=a2.field b5 (by omega) 6 (y':=.d (5+k0%2) (Z,n1,c1) false aL aL aL ((j:Int)+1) aL) (u:=.int .i64 ((j:Int)+1)) (by decide) rfl rfl;have j3:=aB i7;have i9:=aB j6
     have j2:=aB (J.blk (Gq':=d1) (fun b y e h=>by
      have:=H ⟨b,0,none⟩ e;rw [h4 b (by simp at this;omega)];exact h))
     have f1:=aB (i4.mono (fun e c=>JD.mono d6));have p2:=aB (JC.rle d6 i6);have b3:=aB H;clear D6 a9 a2 i7 J l5 i4 i6 b5 j6 j8 O c7 c8 d5 d4 m6 p9 g0 k5 h4 N d6 f4 c2 H p1 c4 E HX;go_wp2
     go_roundw
     case rel=>exact ⟨j+1,d1,_,_,_,_,by omega,by go_num,rfl,by rw [f2.out],j2.out,by rw [f2.out];exact f1.out,b3.out,by push_cast;exact i9.out,p2.out,by rw [f2.out];exact j3.out⟩
     case measure=>simp [intOf];omega
  .have u0:¬ (j:Int)<(M:Int):=(by omega);have u9:j=M:=(by omega);have q0:I M=I j:=(by rw [u9]);clear f7 u9;have k6:=aB (kM O.out.st HZ.out A h1 h2);rw [q0] at HE;generalize dU zs A (I j).2.2=TT at *
   go_wp2_with fail
   refine k6.out.mono ?_;rintro e w6 ⟨ta,tn,tc,rfl,d9,j9,E⟩;have D6:=O.out.trans E;have d8:=E.ex _ _ c2;obtain ⟨⟨n0,g3,n2,n3,n4,n5,n6,n7⟩,g9⟩:=D6.st.mt.eight d8;have A4:=g9 7 (by decide);obtain ⟨b0,D7,b7,r7,o7⟩:=D6.field d8 (by omega) 7 (y':=.d (5+k0%2) (Z,n1,c1) false aL aL aL ((j:Int)) (ta,tn,tc)) (u:=.slice ta tn tc) (by decide) rfl rfl
   have j1:Ful b0 .nd (ba,S,bc) be:=(E.ex.ful c7).blk (fun b y e h=>by
    have:=d5 ⟨b,0,none⟩ e;rw [o7 b (by simp at this;omega)];exact h)
   have f0:JD (Ful b0) (.d (5+k0%2) (Z,n1,c1) false aL aL aL ((j:Int)) (ta,tn,tc)) { eD with k:=5+k0%2,L:=L.1,C:=(j:Int),tail:=TT.1 }:=⟨⟨rfl,rfl,rfl⟩,JC.rle (E.ex.rle.trans r7) d4,D.out.2.1,D.out.2.2,D.out.2.1,JC.rle r7 j9⟩;obtain ⟨m1,D8,_,k7,r8,b8,o8⟩:=D7.lit f0 #[.int .i64 (5+k0%2),.slice Z n1 c1,.bool false,.slice none 0 0,.slice none 0 0,.slice none 0 0,.int .i64 (j:Int),.slice ta tn tc] rfl;have d7:=D7.gr.size
   have d0:∀ b y,b0 b=some y->b<w6.heap.size:=fun b y h=>by
    have:=(D7.st.mt.lt (b:=b) (k:=y.1) (m:=y.2.1) (ys:=y.2.2) h).2;simpa using this
   have c9:Ful m1 .nd (ba,S,bc) be:=j1.blk (fun b y e h=>by
    have:=d0 b y h;rw [o8 b (by simp;omega)];exact h)
   obtain ⟨oa,oc,p6,Y,b4,a2,J,H,N,_⟩:=D8.appN k7 w.heap.size (Nat.le_refl _) (Nat.le_trans d7 (by simp)) (fun a e=>by cases e;exact d7) c9 (by omega);simp only [size_setCell] at b4;have f1:=aB (show JN (Ful Y) (oa,1+S,oc) ({ eD with k:=5+k0%2,L:=L.1,C:=(j:Int),tail:=TT.1 }::(I j).1) from ⟨_,J,⟨JD.mono (r8.trans N) f0,c8.mono (fun e c=>JD.mono ((((E.ex.rle).trans r7).trans r8).trans N))⟩⟩);have b3:=aB H;have k2:=aB a2;simp only [Sv.v,aL] at g3 n3 n4 n5 n7;generalize 1+S=MM at *;clear k6 D6 E D7 D8 a2 J k7 c9 j1 f0 j9 H d8 g9 d0 d7 r7 r8 N o7 o8 b7 b8 O c7 c8 d5 d4 c2 IH;go_wp2;go_ret;rw [HE.out,l6];exact ⟨_,_,_,rfl,Y,f1.out,b3.out,k2.out⟩
theorem oS {F:Nat} {v:Value} {zs:List Int} (A:Zk zs) (h:Int) (E:1<=h) (D:h<=1000000):∀ (d:Nat),d<=4->∀ (i:Nat) (Gq:Gk) (w:World),KS F v zs i Gq w->
  Calls prog 72 #[.pointer (some ⟨F,0,none⟩),.int .i64 (d:Int),.int .i64 h] w fun r H=>Ndk F v zs Gq w (bV zs h d i) r H
 | 0,hd,i,Gq,w,hs=>zG A h E D 0 hd (fun e G=>by omega) i Gq w hs
 | d+1,hd,i,Gq,w,hs=>zG A h E D (d+1) hd (fun e G=>by
   obtain rfl:d=e:=(by omega);exact oS A h E D d (by omega)) i Gq w hs
end Go.Proofs.YtckcaefnokeodaaGreatDoor
