import Derived.Test.YtckcaefnokeodaaGreatDoorMBN
set_option maxHeartbeats 16000000
set_option maxRecDepth 100000
namespace Go.Proofs.YtckcaefnokeodaaGreatDoor
open Go.Proofs.Tryz Go.RowKit List World
def CmB (L:Nat) (c:Cm):Prop:=c.t.length<=L/\Bys c.t
def IsI (z:Int):Prop:=-9223372036854775808<=z/\z<=9223372036854775807
structure NdB (e0:Nat) (p:Nod):Prop where
 k : -10<=p.k/\p.k<=10
 L:p.L.length<=e0/\∀ c∈p.L,CmB e0 c
 key:p.key.length<=e0/\∀ z∈p.key,IsI z
 X:p.X.length<=e0/\Bys p.X
 U:p.U.length<=e0/\∀ z∈p.U,IsI z
 C : -10<=p.C/\p.C<=100001
 tail:p.tail.length<=e0/\∀ c∈p.tail,CmB e0 c
structure Gn (p:Nod):Prop where
 k:0<=p.k/\p.k<=6
 c:0<=p.C/\p.C<=100
 b:NdB 64 p
section
variable {zs:List Int}
theorem aM9 (k:Int):CmB 64 (aJj k):=by
 have h:=WdK.at (L:=aDE) (by decide) (k / 2%14).toNat;unfold aJj
 split
 .exact h
 .refine ⟨by rw [wO];exact h.1,fun z D=>?_⟩;obtain ⟨c,A,rfl⟩:=mem_map.1 D
  split
  .omega
  .exact h.2 c A
theorem aKl:∀ (m i:Nat),(kL zs m i).1.length=m/\∀ c∈(kL zs m i).1,CmB 64 c
 | 0,i=>⟨rfl,fun c h=>by simp [kL] at h⟩
 | m+1,i=>by
   obtain ⟨E,D⟩:=aKl m i;refine ⟨by simp [kL,E],fun c A=>?_⟩;simp only [kL,mem_append,mem_singleton] at A;rcases A with A | rfl
   .exact D c A
   .exact aM9 _
theorem pT (A:Int) (i:Nat):(dU zs A i).1.length<=64/\∀ c∈(dU zs A i).1,CmB 64 c:=by
 unfold dU
 split
 .exact ⟨by simp,fun c h=>by simp at h⟩
 .obtain ⟨E,D⟩:=aKl (zs:=zs) ((nxD zs i).1 / A%3+1).toNat (nxD zs i).2;exact ⟨by rw [E];omega,D⟩
theorem aLg (h:Bys zs) (i:Nat):IsI (yY zs i).1:=by
 have D:=jA h i;have A:=aLN true (nxD zs (nxD zs i).2).1 (jA h _).1;unfold yY IsI
 split
 .simp only;omega
 .split
  .simp only;omega
  .simp only;omega
theorem aKf (A:Bys zs) (i:Nat):∀ m,∀ z∈(jV zs m i).1,IsI z
 | 0,z,h=>by simp [jV] at h
 | m+1,z,h=>by
   simp only [jV,mem_append,mem_singleton] at h;rcases h with h | rfl
   .exact aKf A i m z h
   .exact aLg A _
theorem aKg (i:Nat):∀ m,(jV zs m i).1.length=m
 | 0=>rfl
 | m+1=>by simp [jV,aKg i m]
theorem aI9 (D:Bys zs) (h:Int) (E:1<=h) (A:h<=12) (i:Nat):(dus zs h i).1.length<=64/\∀ z∈(dus zs h i).1,IsI z:=by
 refine ⟨?_,aKf D _ _⟩;unfold dus;rw [aKg];have:=Int.emod_lt_of_pos (nxD zs i).1 (show 0<h by omega);omega
theorem aM4 (D:Bys zs) (i:Nat):(aBC zs i).1.length<=64/\∀ z∈(aBC zs i).1,IsI z:=by
 unfold aBC
 split
 .exact aI9 D 5 (by omega) (by omega) _
 .have:aHJ.all (fun t=>decide (t.length<=64)&&t.all fun z=>decide (0<=z/\z<=300))=true:=by decide
  by_cases A:((nxD zs i).1%13).toNat<aHJ.length
  .have h:=all_eq_true.1 this _ (getElem_mem A);simp only [Bool.and_eq_true,decide_eq_true_eq,all_eq_true] at h;rw [getD_eq_getElem?_getD,getElem?_eq_getElem A];exact ⟨h.1,fun z E=>by have:=h.2 z E;unfold IsI;omega⟩
  .rw [getD_eq_getElem?_getD,getElem?_eq_none (by omega)];exact ⟨by simp,fun z h=>by simp at h⟩
theorem yZ {k n:Int} {l t:List Cm} {D:Bool} {y x u:List Int} (h:0<=k/\k<=6) (F:0<=n/\n<=100) (I:l.length<=64/\∀ c∈l,CmB 64 c) (A:y.length<=64/\∀ z∈y,IsI z) (G:x.length<=64/\Bys x) (E:u.length<=64/\∀ z∈u,IsI z) (H:t.length<=64/\∀ c∈t,CmB 64 c):Gn ⟨k,l,D,y,x,u,n,t⟩:=
 ⟨h,F,⟨by simp only;omega,I,A,G,E,by simp only;omega,H⟩⟩
theorem aEQ:([]:List Cm).length<=64/\∀ c∈([]:List Cm),CmB 64 c:=⟨by simp,fun c h=>by simp at h⟩
theorem xH:([]:List Int).length<=64/\∀ z∈([]:List Int),IsI z:=⟨by simp,fun c h=>by simp at h⟩
theorem aHg:([]:List Int).length<=64/\Bys ([]:List Int):=⟨by simp,fun c h=>by simp at h⟩
theorem aMj {key:List Int} (E:key.length<=64/\∀ z∈key,IsI z) {A:List Nod} (h:∀ p∈A,Gn p):∀ p∈aIm key A,Gn p:=by
 cases A with
 | nil=>exact h
 | cons q A=>
   intro p D;rcases mem_cons.1 D with rfl | D
   .have:=h q (by simp);exact ⟨this.k,this.c,⟨this.b.k,this.b.L,E,this.b.X,this.b.U,this.b.C,this.b.tail⟩⟩
   .exact h p (by simp [D])
theorem aEF (E:Bys zs) {f:Nat->List Nod × Nat} {obj:Bool} (D:∀ p,∀ q∈(f p).1,Gn q):∀ (m i:Nat),(∀ q∈(cV zs f obj m i).1,Gn q)/\(cV zs f obj m i).2.1<=m
 | 0,i=>⟨fun q h=>by simp [cV] at h,Nat.le_refl _⟩
 | m+1,i=>by
   obtain ⟨F,G⟩:=aEF E D m i;rw [cV]
   split
   .refine ⟨fun q A=>?_,Nat.le_refl _⟩;rcases mem_append.1 A with A | A
    .exact F q A
    .unfold tV at A
     split at A
     .exact aMj (aM4 E _) (D _) q A
     .exact D _ q A
   .exact ⟨F,by omega⟩
theorem aEA (F:Bys zs) (D:Int):∀ (d i:Nat),∀ q∈(bV zs D d i).1,Gn q:=by
 intro d
 induction d with
 | zero=>
   intro i q A
   by_cases h:(nxD zs i).1%16<3\/(0=0/\9<(nxD zs i).1%16)
   .rw [wW h] at A;simp at A;subst A;exact yZ (by omega) (by simp [eD]) (pT _ _) xH aHg xH aEQ
   .by_cases E:(nxD zs i).1%16<6
    .rw [aAr h E] at A;simp at A;subst A;exact yZ (by omega) (by simp [eD]) (pT _ _) xH (WdK.at (L:=aBY) (by decide) _) xH aEQ
    .rw [aBd h E (.inr rfl)] at A;simp at A;subst A;exact yZ (by omega) (by simp [eD]) (pT _ _) xH aHg (aI9 F 7 (by omega) (by omega) _) aEQ
 | succ d ih=>
   intro i q A
   by_cases h:(nxD zs i).1%16<3\/(d+1=0/\9<(nxD zs i).1%16)
   .rw [wW h] at A;simp at A;subst A;exact yZ (by omega) (by simp [eD]) (pT _ _) xH aHg xH aEQ
   .by_cases E:(nxD zs i).1%16<6
    .rw [aAr h E] at A;simp at A;subst A;exact yZ (by omega) (by simp [eD]) (pT _ _) xH (WdK.at (L:=aBY) (by decide) _) xH aEQ
    .by_cases G:(nxD zs i).1%16<9
     .rw [aBd h E (.inl G)] at A;simp at A;subst A;exact yZ (by omega) (by simp [eD]) (pT _ _) xH aHg (aI9 F 7 (by omega) (by omega) _) aEQ
     .rw [aDP E G] at A;obtain ⟨H,I⟩:=aEF F (f:=bV zs D d) (obj:=decide ((nxD zs i).1%16%2=1)) ih ((nxD zs (dU zs D (nxD zs i).2).2).1%5).toNat (nxD zs (dU zs D (nxD zs i).2).2).2;rcases mem_cons.1 A with rfl | A
      .refine yZ (by omega) ?_ (pT _ _) xH aHg xH (pT _ _);unfold aFG;omega
      .exact H q A
theorem aHe (E:Bys zs) (A:Int):∀ (m:Nat) (s:List Nod × Nat),(∀ q∈s.1,Gn q)->(1<=s.1.length/\s.1.length<=341)->(∀ q∈(lC zs A m s).1,Gn q)/\1<=(lC zs A m s).1.length/\(lC zs A m s).1.length<=341
 | 0,s,h,hl=>⟨h,hl⟩
 | m+1,s,h,hl=>by
   rw [lC]
   split
   .rename_i hc
    have G:=lO (zs:=zs) (rare:=A) 3 s.2;have F:nBk 3=85:=(by decide);refine aHe E A m _ (fun q D=>?_) ⟨by simp,by simp;omega⟩;simp only [mem_cons,mem_append] at D;rcases D with rfl | D | D
    .exact yZ (by omega) (by omega) aEQ xH aHg xH aEQ
    .exact h q D
    .exact aEA E A 3 _ q D
   .exact ⟨h,hl⟩
theorem aGs (h:Bys zs) (i:Nat):(∀ q∈(lE zs i).1.1,Gn q)/\(1<=(lE zs i).1.1.length/\(lE zs i).1.1.length<=341)/\(lE zs i).1.2.length<=64/\∀ c∈(lE zs i).1.2,CmB 64 c:=by
 unfold lE;simp only;have A:=lO (zs:=zs) (rare:=oG (nxD zs i).1 (nxD zs (nxD zs i).2).1) 4 (nxD zs (nxD zs i).2).2;have F:nBk 4=341:=(by decide);obtain ⟨D,E⟩:=aHe h (oG (nxD zs i).1 (nxD zs (nxD zs i).2).1) 4 _ (aEA h _ 4 _) ⟨A.1,by omega⟩;exact ⟨D,E,pT _ _⟩
end
def aLp (k:Int):Int:=if k=250 then -1 else if 250<k then 65283+k else k%40
def aIQ (k:Int):Int:=if k=250 then -1 else if 250<k then -236+k else k%6
def aBJ (zs:List Int) (i:Nat):Int × Nat:=if 0<(nxD zs i).1%4/\(nxD zs i).1<240 then ((nxD zs i).1%60,(nxD zs i).2) else (aLp (nxD zs (nxD zs i).2).1,(nxD zs (nxD zs i).2).2)
theorem aMQ {F v zs i I w} (N:KS F v zs i I w) (E:Zk zs) :
  Calls prog 33 #[.pointer (some ⟨F,0,none⟩)] w fun e w'=>e=.returned (.int .i64 (aLp (nxD zs i).1))/\KD F v zs I w (nxD zs i).2 I w':=by
 have J:=aB (N.next E);have H:=jA E.by' i;have A:Hid (∀ k:Int,aLp k=if k=250 then -1 else if 250<k then 65283+k else k%40):=fun _=>rfl;generalize (nxD zs i).1=k at *;generalize (nxD zs i).2=j at *;obtain ⟨Z,S⟩:=H;clear N E
 go_enter func33,ntmps33
 go_wp2_with fail
 refine J.out.mono ?_;rintro e w1 ⟨rfl,O⟩;have G:=aB O;clear J O
 by_cases h:k=250
 .have D:=aB ((A.out k).trans (if_pos h));have Y:(k==250)=true:=(by simpa using h);clear h A;go_wp2;go_ret;rw [D.out];exact ⟨rfl,G.out⟩
 .have Y:(k==250)=false:=by simpa using h
  by_cases M:250<k
  .have D:=aB (((A.out k).trans (if_neg h)).trans (if_pos M));clear h A;go_wp2;go_ret;rw [D.out];exact ⟨rfl,G.out⟩
  .have D:=aB (((A.out k).trans (if_neg h)).trans (if_neg M));clear h A;go_wp2;go_ret;rw [D.out];exact ⟨rfl,G.out⟩
theorem aMU {F v zs i I w} (N:KS F v zs i I w) (E:Zk zs) :
  Calls prog 13 #[.pointer (some ⟨F,0,none⟩)] w fun e w'=>e=.returned (.int .i64 (aIQ (nxD zs i).1))/\KD F v zs I w (nxD zs i).2 I w':=by
 have J:=aB (N.next E);have H:=jA E.by' i;have A:Hid (∀ k:Int,aIQ k=if k=250 then -1 else if 250<k then -236+k else k%6):=fun _=>rfl;generalize (nxD zs i).1=k at *;generalize (nxD zs i).2=j at *;obtain ⟨Z,S⟩:=H;clear N E
 go_enter func13,ntmps13
 go_wp2_with fail
 refine J.out.mono ?_;rintro e w1 ⟨rfl,O⟩;have G:=aB O;clear J O
 by_cases h:k=250
 .have D:=aB ((A.out k).trans (if_pos h));have Y:(k==250)=true:=(by simpa using h);clear h A;go_wp2;go_ret;rw [D.out];exact ⟨rfl,G.out⟩
 .have Y:(k==250)=false:=by simpa using h
  by_cases M:250<k
  .have D:=aB (((A.out k).trans (if_neg h)).trans (if_pos M));clear h A;go_wp2;go_ret;rw [D.out];exact ⟨rfl,G.out⟩
  .have D:=aB (((A.out k).trans (if_neg h)).trans (if_neg M));clear h A;go_wp2;go_ret;rw [D.out];exact ⟨rfl,G.out⟩
theorem aMT {F v zs i M w} (Z:KS F v zs i M w) (D:Zk zs) :
  Calls prog 12 #[.pointer (some ⟨F,0,none⟩)] w fun e w'=>e=.returned (.int .i64 (aBJ zs i).1)/\KD F v zs M w (aBJ zs i).2 M w':=by
 have HZ:=aB D;have O:=aB (Z.next D);have N:=jA D.by' i;have E:Hid (aBJ zs i=if 0<(nxD zs i).1%4/\(nxD zs i).1<240 then ((nxD zs i).1%60,(nxD zs i).2) else (aLp (nxD zs (nxD zs i).2).1,(nxD zs (nxD zs i).2).2)):=rfl;generalize (nxD zs i).1=k at *;generalize (nxD zs i).2=j at *;obtain ⟨a5,a1⟩:=N;clear Z D
 go_enter func12,ntmps12
 go_wp2_with fail
 refine O.out.mono ?_;rintro e w1 ⟨rfl,J⟩;have S:=aB J;have H:=aB (aMQ J.st HZ.out);clear O J
 by_cases h:0<k%4/\k<240
 .have G:=aB (E.out.trans (if_pos h));obtain ⟨Y,h2⟩:=h;clear E H;go_wp2;go_ret;rw [G.out];exact ⟨rfl,S.out⟩
 .have G:=aB (E.out.trans (if_neg h));have h':¬ 0<k%4\/(0<k%4/\¬ k<240):=(by omega);clear E h;rcases h' with Y | ⟨Y,h2⟩
  all_goals
   go_wp2_with fail
   refine H.out.mono ?_;rintro e w2 ⟨rfl,A⟩;have I:=aB (S.out.trans A);clear H A;go_wp2;go_ret;rw [G.out];exact ⟨rfl,I.out⟩
theorem JN.pre {D v E} (h:JN (Ful D) v E):JN (Pre D) v E:=by
 obtain ⟨A,F,G⟩:=h;exact ⟨A,F.pre,G.mono (fun e c=>JD.mono (Pre.rle D))⟩
theorem yA {F:Nat} {w:World} {h} (g:w.grownBy h (some F)) (A:F<=w.heap.size):Below F w h:=⟨g.os,g.tape,g.output,g.size,fun k D=>g.block k (by omega) (by simp;omega)⟩
theorem KD.fin {F v zs j N A w H} (h:KD F v zs N w j A H) (J:A w.heap.size=none) {a D:Option Addr} {n c G E:Nat} {I M} (O:JN (Ful A) (a,n,c) I) (S:JC (Ful A) (D,G,E) M) :
  Hid (Tsp F N w (I,M) (.returned (.agg #[.slice a n c,.slice D G E])) ((H.setCell ⟨w.heap.size,0,none⟩ (.slice a n c)).setCell ⟨w.heap.size,1,none⟩ (.slice D G E))):=by
 have Y:=h.lt;refine ⟨a,n,c,D,G,E,rfl,A,O.pre,JC.rle (Pre.rle A) S,(h.st.mt.off J 0 _).off J 1 _,((yA h.gr (by omega)).setCell (p:=⟨w.heap.size,0,none⟩) (by simp only;omega) _).setCell (p:=⟨w.heap.size,1,none⟩) (by simp only;omega) _,by have:=h.st.lt;simpa using this,fun x a b c=>⟨?_,by rw [h.nw x b];exact c⟩⟩;rw [heap_setCell_other _ ⟨w.heap.size,1,none⟩ x _ (by simp only;omega),heap_setCell_other _ ⟨w.heap.size,0,none⟩ x _ (by simp only;omega)];exact h.gr.block x b (by simp;omega)
theorem aFe {F v zs} (hz:Zk zs) (i Gq w) (hs:KS F v zs i Gq w) :
  Calls prog 14 #[.pointer (some ⟨F,0,none⟩)] w fun e w'=>Tsp F Gq w (yT zs i).1 e w':=by
 have HZ:=aB hz;have M:w.heap.size≠F:=(by have:=hs.lt;omega);have D0:=(KD.refl hs).K (grownBy_alloc w (Obj.cells #[.slice none 0 0,.slice none 0 0] 26) none);have tR:=Tv.new w (.slice none 0 0) (.slice none 0 0) 26;have b3:Gq w.heap.size=none:=hs.mt.gone (Nat.le_refl _);have HN:=aB (D0.next hz);have f7:=jA hz.by' i
 have HP:Hid (yT zs i=if (nxD zs i).1=7 then ((tL (10+(nxD zs (nxD zs i).2).1).toNat,[]),(nxD zs (nxD zs i).2).2)
  else if (nxD zs i).1%8=0 then (pG (lE zs (nxD zs i).2).1 ((nxD zs (lE zs (nxD zs i).2).2).1%16) ((nxD zs (nxD zs (lE zs (nxD zs i).2).2).2).1%(lE zs (nxD zs i).2).1.1.length).toNat,(nxD zs (nxD zs (lE zs (nxD zs i).2).2).2).2) else lE zs (nxD zs i).2):=rfl
 generalize (nxD zs i).1=k at *;generalize (nxD zs i).2=j at *;obtain ⟨i3,i2⟩:=f7;clear hs hz D0
 go_enter func14,ntmps14
 go_wp2_with fail
 refine HN.out.mono ?_;rintro e w1 ⟨rfl,d3,g1⟩;replace tR:=tR.K g1 (by simpa using M);have D:=aB d3;clear HN d3 g1
 by_cases h1:k=7
 .have b1:(k==7)=true:=(by simpa using h1);have HE:=aB (HP.out.trans (if_pos h1));have d2:=aB (D.out.next HZ.out);have d6:=jA HZ.out.by' j;generalize (nxD zs j).1=k2 at *;generalize (nxD zs j).2=j2 at *;obtain ⟨h4,h3⟩:=d6;clear h1 HP
  go_wp2_with fail
  refine d2.out.mono ?_;rintro e w2 ⟨rfl,a9,g2⟩;replace tR:=tR.K g2 (by simpa using M);obtain ⟨n,hn⟩:∃ n:Nat,(n:Int)=10+k2:=⟨(10+k2).toNat,by omega⟩;have a8:=aB (aMa n (by omega) (by omega) j2 Gq w2 a9.st);have d0:=aB a9;have J:=aB tR.lt;rw [show (10+k2).toNat=n by omega] at HE;rw [hn] at a8;clear d2 a9 g2 D hn
  go_wp2_with fail
  refine a8.out.mono ?_;rintro e w3 ⟨na,nn,nc,ta,tn,tc,rfl,a1,h,A,H⟩;obtain ⟨r0,r1,c6,d5⟩:=tR.K H.gr (by simpa using M);have HT:=(d0.out.trans H).fin (by rw [H.nw _ J.out];exact b3) h A;clear a8 d0 h A H J;go_wp2;refine bodyPost_ret (v:=.agg #[.slice na nn nc,.slice ta tn tc]) (by simp [results,Tryz.results14,go_sem,r0,r1]) rfl ?_;rw [HE.out];exact HT.out
 .have b1:(k==7)=false:=(by simpa using h1);have a4:=HP.out.trans (if_neg h1);have a2:=aB (aFX HZ.out j Gq w1 D.out.st);have c1:=aB (aGs HZ.out.by' j);have J:=aB tR.lt
  by_cases h2:k%8=0
  .have b2:(k%8==0)=true:=(by simpa using h2);have HE:=aB (a4.trans (if_pos h2));generalize lE zs j=G at *;clear h1 h2 HP a4
   go_wp2_with fail
   refine a2.out.mono ?_;rintro e w3 ⟨na,nn,nc,ta,tn,tc,rfl,a1,h,A,H⟩;have I:=tR.K H.gr (by simpa using M);have gA:=grownBy_alloc w3 (Obj.cells #[.slice na nn nc,.slice ta tn tc] 26) none;have d8:=I.K gA (by simp);have c2:=((D.out.trans H).K gA)
   have f8:nn=G.1.1.length:=by
    obtain ⟨i1,h1,h2⟩:=h;rw [h1.n,h2.len]
   have c3:=c1.out
   have HS:=aB (aKG HZ.out G.2 a1 _ c2.st na nn nc ta tn tc G.1.1 G.1.2 h A (by omega) (by omega) (fun p hp=>by
    have:=c3.1 p hp;exact ⟨this.k,by have:=this.c;omega,this.b.L.1,this.b.key.1,this.b.X.1,this.b.U.1,this.b.tail.1⟩) c3.2.2.1)
   have c9:a1 w.heap.size=none:=(by rw [H.nw _ J.out];exact b3);have E:=aB c2;have b0:=aB d8;clear a2 D h A H c2 gA f8 c3 c1 I d8
   go_wp2_with fail
   refine HS.out.mono ?_;rintro e w5 ⟨a0,Z,O,N,S,Y,rfl,g3,h,A,d7,d4,g0,b6⟩;have hu:=b6 w.heap.size (by have:=E.out.lt;omega) b0.out.lt c9;obtain ⟨r0,r1,c6,d5⟩:=b0.out.block hu.1;have hF:=E.out.lt;have HT:Hid (Tsp F Gq w (G.1.1,G.1.2) (.returned (.agg #[.slice a0 Z O,.slice N S Y])) w5->True):=fun _=>trivial
   have f5:=aB (show Tsp F Gq w (pG (G.1.1,G.1.2) ((nxD zs G.2).1%16) ((nxD zs (nxD zs G.2).2).1%G.1.1.length).toNat) (.returned (.agg #[.slice a0 Z O,.slice N S Y])) ((w5.setCell ⟨w.heap.size,0,none⟩ (.slice a0 Z O)).setCell ⟨w.heap.size,1,none⟩ (.slice N S Y)) from ⟨a0,Z,O,N,S,Y,rfl,g3,h,A,(d7.off hu.2 0 _).off hu.2 1 _,(((yA E.out.gr (by omega)).trans d4).setCell (p:=⟨w.heap.size,0,none⟩) (by simp only;omega) _).setCell (p:=⟨w.heap.size,1,none⟩) (by simp only;omega) _,by simpa using g0,fun x a b c=>by
    have f4:a1 x=none:=(by rw [E.out.nw x b];exact c);have hx:=b6 x a (Nat.lt_of_lt_of_le b E.out.gr.size) f4;refine ⟨?_,hx.2⟩;rw [heap_setCell_other _ ⟨w.heap.size,1,none⟩ x _ (by simp only;omega),heap_setCell_other _ ⟨w.heap.size,0,none⟩ x _ (by simp only;omega),hx.1];exact E.out.gr.block x b (by simp;omega)⟩)
   clear HS E b0 h A d7 d4 b6 hu hF HT;go_wp2;refine bodyPost_ret (v:=.agg #[.slice a0 Z O,.slice N S Y]) (by simp [results,Tryz.results14,go_sem,r0,r1]) rfl ?_;rw [HE.out];exact f5.out
  .have b2:(k%8==0)=false:=(by simpa using h2);have HE:=aB (a4.trans (if_neg h2));generalize lE zs j=G at *;clear h1 h2 HP a4 c1
   go_wp2_with fail
   refine a2.out.mono ?_;rintro e w3 ⟨na,nn,nc,ta,tn,tc,rfl,a1,h,A,H⟩;have I:=tR.K H.gr (by simpa using M);have gA:=grownBy_alloc w3 (Obj.cells #[.slice na nn nc,.slice ta tn tc] 26) none;have h8:w.heap.size≠w3.heap.size:=(by have:=I.lt;omega);have HT:=((D.out.trans H).K gA).fin (by rw [H.nw _ J.out];exact b3) h A;obtain ⟨f6,f9,g6,h7⟩:=I.K gA (by simp);obtain ⟨r0,r1,c6,d5⟩:=I;clear a2 D h A H gA J;go_wp2;refine bodyPost_ret (v:=.agg #[.slice na nn nc,.slice ta tn tc]) (by simp [results,Tryz.results14,go_sem,f6,f9]) rfl ?_;rw [HE.out];exact HT.out
def uK (zs:List Int):(List Nod × List Cm) × Int × Int:=((yT (zs.take 500) (nxD (zs.take 500) (aBJ (zs.take 500) 0).2).2).1,(aBJ (zs.take 500) 0).1,aIQ (nxD (zs.take 500) (aBJ (zs.take 500) 0).2).1)
theorem mF {B} {E:Nat} {w v zs} (h:RdB B w v zs) (M:B<=E):RdB E w v zs:=by
 obtain ⟨a,A,G,J⟩:=h;refine ⟨a,A,G,fun I=>?_⟩;obtain ⟨b,D,H,N,F⟩:=J I;exact ⟨b,D,H,by omega,F⟩
theorem aKj (a:Option Addr) (h:Nat) (zs:List Int) (w:World) (o) (F:RdB w.heap.size w (.slice a zs.length h) zs) :
  RdB w.heap.size (w.alloc o) (.slice a (min 500 zs.length) h) (zs.take 500):=by
 obtain ⟨N,D,e,J⟩:=F;cases e;refine ⟨a,h,by rw [length_take],fun I=>?_⟩;obtain ⟨b,A,H,M,E⟩:=J (fun e=>I (by rw [e];simp));refine ⟨b,A,H,M,fun j G=>?_⟩;rw [length_take] at G;rw [(grownBy_alloc w o none).cell (E j (by omega)) (by simp),getElem?_take,if_pos (by omega)]
theorem aDw (a:Option Addr) (D:Nat) (zs:List Int) (w:World) (hv:RdB w.heap.size w (.slice a zs.length D) zs) (S:Bys zs) (hm:zs.length<=1048576) (b7:zs.length<=D) (b6:D<=9223372036854775807) :
  Calls prog 4 #[.slice a zs.length D] w fun e w'=>∃ nv tv,e=.returned (.tuple #[.agg #[nv,tv],.int .i64 (uK zs).2.1,.int .i64 (uK zs).2.2])/\eV w'.heap.size w' nv tv ⟨(uK zs).1.1,(uK zs).1.2⟩/\w.grownBy w' none:=by
 obtain ⟨E,F⟩:∃ E,E=w.alloc (Obj.cells #[.slice none 0 0,.slice none 0 0] 26):=⟨_,rfl⟩;have gA:w.grownBy E none:=(by rw [F];exact gWA);have tR:Tv E w.heap.size (.slice none 0 0) (.slice none 0 0):=(by rw [F];exact Tv.new w _ _ _);have Y:=aB (show E.heap.size=w.heap.size+1 by rw [F];simp);have a7:RdB E.heap.size E (.slice a zs.length D) zs:=mF (hv.K gA) gA.size;have HO:=aB (aF5 a D zs E hm b7 b6);have HG:=aB gA;have a5:=aB tR;have a6:=aB (((Below.refl E.heap.size E).alloc (Nat.le_refl _) (.cells #[.slice a (min 500 zs.length) D,.int .i64 0] 80)));have HZ:Hid (Zk (zs.take 500)):=⟨fun z hz=>S z (mem_of_mem_take hz),by rw [length_take];omega⟩
 have HS:Hid (KS E.heap.size (.slice a (min 500 zs.length) D) (zs.take 500) 0 (fun _=>none) (E.alloc (.cells #[.slice a (min 500 zs.length) D,.int .i64 0] 80))):=
  ⟨fun b k m s h=>(by cases h),heap_alloc_new E _,Nat.zero_le _,aKj a D zs E _ a7⟩
 have HW:=aB (aMT HS.out HZ.out);have HP:Hid (uK zs=((yT (zs.take 500) (nxD (zs.take 500) (aBJ (zs.take 500) 0).2).2).1,(aBJ (zs.take 500) 0).1,aIQ (nxD (zs.take 500) (aBJ (zs.take 500) 0).2).1)):=rfl;clear hv a7 S gA tR;generalize (zs.take 500)=ys at *;generalize aBJ ys 0=A at *
 go_enter func4,ntmps4
 go_wp2_with fail
 rw [<- F];clear F;refine HO.out.mono ?_;rintro e w1 ⟨rfl,rfl⟩;clear HO
 go_wp2_with fail
 refine HW.out.mono ?_;rintro e w2 ⟨rfl,G⟩;have HI:=aB (aMU G.st HZ.out);have a0:=aB G;generalize (nxD ys A.2).1=k at *;generalize (nxD ys A.2).2=j at *;generalize aIQ k=ii at *;clear HW G HS
 go_wp2_with fail
 refine HI.out.mono ?_;rintro e w3 ⟨rfl,H⟩;have a8:=aB (a0.out.trans H);have HT:=aB (aFe HZ.out j _ w3 H.st);generalize (yT ys j).1=TT at *;clear HI a0 H
 go_wp2_with fail
 refine HT.out.mono ?_;rintro e w4 ⟨O,J,nc,N,I,M,rfl,b3,a1,a4,Z,a2,b2,_⟩;have b4:=Y.out;have bl:Below E.heap.size E w4:=(a6.out.trans (yA a8.out.gr (by simp))).trans a2;obtain ⟨r0,r1,d2,d5⟩:=a5.out.block (bl.block w.heap.size (by omega))
 have hW:MT (E.heap.size+1) b3 ((w4.setCell ⟨w.heap.size,0,none⟩ (.slice O J nc)).setCell ⟨w.heap.size,1,none⟩ (.slice N I M)):=Z.kept fun b h1 h2=>by
  rw [heap_setCell_other _ _ b _ (by simp only;omega),heap_setCell_other _ _ b _ (by simp only;omega)]
 have HE:Hid (eV ((w4.setCell ⟨w.heap.size,0,none⟩ (.slice O J nc)).setCell ⟨w.heap.size,1,none⟩ (.slice N I M)).heap.size ((w4.setCell ⟨w.heap.size,0,none⟩ (.slice O J nc)).setCell ⟨w.heap.size,1,none⟩ (.slice N I M)) (.slice O J nc) (.slice N I M) ⟨TT.1,TT.2⟩/\w.grownBy ((w4.setCell ⟨w.heap.size,0,none⟩ (.slice O J nc)).setCell ⟨w.heap.size,1,none⟩ (.slice N I M)) none):=
  ⟨⟨a1.rd hW,a4.rd hW⟩,aC ((((aV HG.out).trans (bl.mono (by omega))).setCell (by simp) _).setCell (by simp) _)⟩
 clear HT a8 a1 a4 Z a2 b2 bl hW HG a5 a6 b4 Y;go_wp2;refine bodyPost_ret (v:=.tuple #[.agg #[.slice O J nc,.slice N I M],.int .i64 A.1,.int .i64 ii]) (by simp [results,Tryz.results4,go_sem,r0,r1]) rfl ?_;rw [HP.out];exact ⟨_,_,rfl,HE.out⟩
structure Tdb (ns:List Nod) (ts:List Cm):Prop where
 l:ns.length<=3201
 n:∀ p∈ns,NdB 65 p
 tl:ts.length<=65
 t:∀ c∈ts,CmB 65 c
theorem aDR {A:List Cm} (h:A.length<=64/\∀ c∈A,CmB 64 c):A.length<=65/\∀ c∈A,CmB 65 c:=⟨by omega,fun c D=>⟨by have:=(h.2 c D).1;omega,(h.2 c D).2⟩⟩
theorem vI {D:List Cm} (h:D.length<=64/\∀ c∈D,CmB 64 c) {c} (E:CmB 65 c):(D++[c]).length<=65/\∀ x∈D++[c],CmB 65 x:=by
 refine ⟨by simp;omega,fun x A=>?_⟩;rcases mem_append.1 A with A | A
 .exact (aDR h).2 x A
 .simp at A;subst A;exact E
theorem aFw {D:List Int} (h:D.length<=64/\∀ c∈D,IsI c) {c} (E:IsI c):(D++[c]).length<=65/\∀ x∈D++[c],IsI x:=by
 refine ⟨by simp;omega,fun x A=>?_⟩;rcases mem_append.1 A with A | A
 .exact h.2 x A
 .simp at A;subst A;exact E
theorem gF {p} (h:NdB 64 p):NdB 65 p:=⟨h.k,aDR h.L,⟨by have:=h.key.1;omega,h.key.2⟩,⟨by have:=h.X.1;omega,h.X.2⟩,⟨by have:=h.U.1;omega,h.U.2⟩,h.C,aDR h.tail⟩
theorem aNe {D:List Nod} (h:∀ q∈D,Gn q) (i) (g:Nod->Nod) (E:∀ q,Gn q->NdB 65 (g q)):(qJ D i g).length=D.length/\∀ p∈qJ D i g,NdB 65 p:=by
 unfold qJ
 split
 .rename_i n hn
  refine ⟨by simp,fun p A=>?_⟩;rcases mem_or_eq_of_mem_set A with A | rfl
  .exact gF (h p A).b
  .exact E n (h n (mem_of_getElem? hn))
 .exact ⟨rfl,fun p A=>gF (h p A).b⟩
theorem aJ1:NdB 65 eD:=⟨by simp [eD],⟨by simp [eD],fun c h=>by simp [eD] at h⟩,⟨by simp [eD],fun c h=>by simp [eD] at h⟩,⟨by simp [eD],fun c h=>by simp [eD] at h⟩,⟨by simp [eD],fun c h=>by simp [eD] at h⟩,by simp [eD],⟨by simp [eD],fun c h=>by simp [eD] at h⟩⟩
theorem aAQ {z:List Int} (h:z.all (fun x=>decide (0<=x/\x<=255))=true):Bys z:=fun x A=>by
 have:=all_eq_true.1 h x A;simpa using this
def aNu (r:List Nod × List Cm):Prop:=Tdb r.1 r.2
theorem aK7 {F:List Nod} {I:List Cm} (h:∀ q∈F,Gn q) (hl:F.length<=3000) (ht:I.length<=64/\∀ c∈I,CmB 64 c) (k i):Tdb (pG (F,I) k i).1 (pG (F,I) k i).2:=by
 have G:=aDR ht
 have D:∀ g:Nod->Nod,(∀ q,Gn q->NdB 65 (g q))->Tdb (qJ F i g) I:=fun g hg=>by
  obtain ⟨O,J⟩:=aNe h i g hg;exact ⟨by omega,J,G.1,G.2⟩
 have tx:∀ q,Gn q->∀ z:Int,0<=z/\z<=255->(q.X++[z]).length<=65/\Bys (q.X++[z]):=fun q A z hz=>by
  refine ⟨by have:=A.b.X.1;simp;omega,fun x H=>?_⟩;rcases mem_append.1 H with H | H
  .exact A.b.X.2 x H
  .simp at H;subst H;exact hz
 show aNu (pG (F,I) k i)
 unfold pG
 by_cases h0:k=0
 .rw [if_pos h0];exact D _ (fun q A=>by have b:=gF A.b;exact ⟨by have:=A.k;simp only;omega,b.L,b.key,b.X,b.U,b.C,b.tail⟩)
 rw [if_neg h0]
 by_cases O:k=1
 .rw [if_pos O];exact D _ (fun q A=>by have b:=gF A.b;exact ⟨by simp only;omega,b.L,b.key,b.X,b.U,b.C,b.tail⟩)
 rw [if_neg O]
 by_cases J:k=2
 .rw [if_pos J];exact D _ (fun q A=>by have b:=gF A.b;exact ⟨b.k,b.L,b.key,b.X,b.U,by have:=A.c;simp only;omega,b.tail⟩)
 rw [if_neg J]
 by_cases h3:k=3
 .rw [if_pos h3];exact D _ (fun q A=>by have b:=gF A.b;exact ⟨b.k,b.L,b.key,b.X,b.U,by have:=A.c;simp only;omega,b.tail⟩)
 rw [if_neg h3]
 by_cases h4:k=4
 .rw [if_pos h4];exact D _ (fun q A=>by have b:=gF A.b;exact ⟨b.k,b.L,b.key,b.X,b.U,b.C,b.tail⟩)
 rw [if_neg h4]
 by_cases h5:k=5
 .rw [if_pos h5];exact D _ (fun q A=>by have b:=gF A.b;exact ⟨b.k,b.L,aFw A.b.key (by unfold IsI;omega),b.X,b.U,b.C,b.tail⟩)
 rw [if_neg h5]
 by_cases h6:k=6
 .rw [if_pos h6];exact D _ (fun q A=>by have b:=gF A.b;exact ⟨b.k,b.L,b.key,tx q A 46 (by omega),b.U,b.C,b.tail⟩)
 rw [if_neg h6]
 by_cases h7:k=7
 .rw [if_pos h7];exact D _ (fun q A=>by have b:=gF A.b;exact ⟨b.k,b.L,b.key,b.X,aFw A.b.U (by unfold IsI;omega),b.C,b.tail⟩)
 rw [if_neg h7]
 by_cases h8:k=8
 .rw [if_pos h8];exact D _ (fun q A=>by have b:=gF A.b;exact ⟨b.k,vI A.b.L ⟨by simp,aAQ (by decide)⟩,b.key,b.X,b.U,b.C,b.tail⟩)
 rw [if_neg h8]
 by_cases h9:k=9
 .rw [if_pos h9];exact D _ (fun q A=>by have b:=gF A.b;exact ⟨b.k,vI A.b.L ⟨by simp,aAQ (by decide)⟩,b.key,b.X,b.U,b.C,b.tail⟩)
 rw [if_neg h9]
 by_cases Z:k=10
 .rw [if_pos Z];exact D _ (fun q A=>by have b:=gF A.b;exact ⟨b.k,b.L,b.key,b.X,b.U,b.C,vI A.b.tail ⟨by simp,aAQ (by decide)⟩⟩)
 rw [if_neg Z]
 by_cases Y:k=11
 .rw [if_pos Y];exact ⟨by simp;omega,fun p E=>gF (h p (mem_of_mem_take E)).b,G.1,G.2⟩
 rw [if_neg Y]
 by_cases M:k=12
 .rw [if_pos M];refine ⟨by simp;omega,fun p E=>?_,G.1,G.2⟩;rcases mem_append.1 E with E | E
  .exact gF (h p E).b
  .simp at E;subst E;exact aJ1
 rw [if_neg M]
 by_cases N:k=13
 .rw [if_pos N];obtain ⟨O,J⟩:=vI ht (c:=⟨false,[255]⟩) ⟨by simp,aAQ (by decide)⟩;exact ⟨by show F.length<=_;omega,fun p E=>gF (h p E).b,O,J⟩
 rw [if_neg N]
 by_cases S:k=14
 .rw [if_pos S];exact D _ (fun q A=>by have b:=gF A.b;exact ⟨b.k,b.L,b.key,b.X,aFw A.b.U (by unfold IsI;omega),b.C,b.tail⟩)
 rw [if_neg S];exact D _ (fun q A=>by have b:=gF A.b;exact ⟨b.k,vI A.b.L ⟨by simp,aAQ (by decide)⟩,b.key,b.X,b.U,b.C,b.tail⟩)
theorem aL0 {zs} (F:Bys zs) (i):Tdb (yT zs i).1.1 (yT zs i).1.2:=by
 have I:=jA F (nxD zs i).2;obtain ⟨G,J,H,D⟩:=aGs F (nxD zs i).2;unfold yT;simp only
 split
 .refine ⟨by simp [tL];omega,fun p A=>?_,by simp,fun c h=>by simp at h⟩;simp only [tL,mem_map,mem_range] at A;obtain ⟨j,_,rfl⟩:=A;have:=aJ1;exact ⟨by simp only;omega,this.L,this.key,this.X,this.U,by simp only;split<;>omega,this.tail⟩
 .split
  .exact aK7 G (by omega) ⟨H,D⟩ _ _
  .exact ⟨by omega,fun p A=>gF (G p A).b,by omega,fun c E=>⟨by have:=(D c E).1;omega,(D c E).2⟩⟩
theorem aM8 {zs} (A:Bys zs):Tdb (uK zs).1.1 (uK zs).1.2:=aL0 (fun z h=>A z (mem_of_mem_take h)) _
end Go.Proofs.YtckcaefnokeodaaGreatDoor
