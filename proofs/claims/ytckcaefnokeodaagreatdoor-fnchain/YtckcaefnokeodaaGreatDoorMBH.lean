import Derived.Test.YtckcaefnokeodaaGreatDoorMBA
set_option maxHeartbeats 16000000
set_option maxRecDepth 100000
namespace Go.Proofs.YtckcaefnokeodaaGreatDoor
open Go.Proofs.Tryz Go.RowKit List World
def dR (cs:List Int) (j:Nat) (_:Int):Bool:=decide (cs[j]?.getD 0=1)
theorem nD (D) (J:List Int):∀ (m:Nat) (A:List iF) (N:List PT) (G F:List Int) (E:Int) (o q:List Int),szs (trs A)<=m->Mt A N->
  iJ D (some J) A G F E=some (o,q)->pmL (dR J) N G E F=(o,q)
 | m,[],[],G,F,E,o,q,_,_,hl=>by
   rw [aAV] at hl;rw [aGG];exact Option.some.inj hl
 | m,⟨.leaf p,n,ind⟩::A,⟨T,n',ind',fl,bw,be⟩::N,G,F,E,o,q,hm,h,hl=>by
   simp only [Mt] at h;obtain ⟨⟨rfl,rfl,rfl,rfl,rfl⟩,H,O⟩:=h;rw [aR] at hm;simp only [szs,sz] at hm;cases m with
   | zero=>omega
   | succ m=>
   have ih:=fun Y c hh=>nD D J m A N Y F c o q (by omega) O hh;simp only [KOk] at H;rw [xY] at hl;rw [wU]
   by_cases Z:p.k=1
   .rw [if_pos Z] at hl;rw [pA (.inr Z),if_neg (by simp),if_pos Z];exact ih _ _ hl
   .rw [if_neg Z] at hl
    by_cases h5:p.k=5
    .rw [if_pos h5] at hl;rw [aDv h5,if_pos rfl];have:=ih _ _ hl;simpa using this
    .rw [if_neg h5] at hl
     by_cases I:p.k=2\/p.k=3\/p.k=4
     .rw [if_pos I] at hl;rw [aAh I,if_pos rfl];have:=ih _ _ hl;simpa [aO] using this
     .rw [if_neg I] at hl;rw [pA (.inl (by omega)),if_neg (by simp),if_neg Z,if_neg (by omega)];exact ih _ _ hl
 | m,⟨.un p x,n,ind⟩::A,⟨T,n',ind',fl,bw,be⟩::N,G,F,E,o,q,hm,h,hl=>by
   simp only [Mt] at h;obtain ⟨⟨rfl,rfl,rfl,rfl,rfl⟩,H,O⟩:=h;rw [aR] at hm;simp only [szs,sz] at hm;cases m with
   | zero=>omega
   | succ m=>
   simp only [KOk] at H;have a0:=fun i Y mm c hh=>nD D J m (⟨x,n',i⟩::A) (⟨x,n',i,false,dZ (A.map (·.T)),be⟩::N) Y mm c o q (by rw [aR];simp only [szs];omega) ⟨⟨rfl,rfl,rfl,rfl,rfl⟩,H.2,O⟩ hh;have a5:=fun Y mm c hh=>nD D J m A N Y mm c o q (by omega) O hh;have a7:=rQ x H.2;rw [aDG] at hl;rw [aC1];rcases H.1 with h7 | h8
   .rw [if_pos h7] at hl;rw [if_pos h7];exact a0 _ _ _ _ hl
   .rw [if_neg (by omega)] at hl;rw [if_neg (by omega)];simp only at hl;simp only [Bool.false_or]
    by_cases M:J[n'+aP x]?.getD 0=1
    .rw [if_pos M] at hl;cases ex:aD x [] with
     | none=>rw [ex] at hl;cases hl
     | some text=>
       rw [ex] at hl;have hw:=a7.1 text ex;have hc:kN (flatW x) E (dZ (A.map (·.T))) (dR J (n'+aP x))=true:=(by unfold kN dR;rw [if_neg (by omega)];simpa using M);rw [hc];simp only [if_true];rw [oN _ x _ _ _ _ _ _ _ _ text H.2 ex];simp only [jE,if_pos h8] at hl;rw [hw.1];exact a5 _ _ _ hl
    .rw [if_neg M] at hl
     have hc:kN (flatW x) E (dZ (A.map (·.T))) (dR J (n'+aP x))=false:=by
      unfold kN dR;split
      .rfl
      .simpa using M
     rw [hc];simp only [Bool.false_eq_true,if_false]
     by_cases S:J[n'+aP x]?.getD 0=2
     .rw [if_pos S] at hl;exact a0 _ _ _ _ hl
     .rw [if_neg S] at hl;cases hl
 | m,⟨.bin p x y,n,ind⟩::A,⟨T,n',ind',fl,bw,be⟩::N,G,F,E,o,q,hm,h,hl=>by
   simp only [Mt] at h;obtain ⟨⟨rfl,rfl,rfl,rfl,rfl⟩,H,O⟩:=h;rw [aR] at hm;simp only [szs,sz] at hm;cases m with
   | zero=>omega
   | succ m=>
   simp only [KOk] at H;rw [aAz] at hl;rw [aAg];rcases H.1 with h6 | h9
   .rw [if_pos h6] at hl;rw [if_pos h6];refine nD D J m (⟨x,n',ind'⟩::⟨y,n'+aP x,ind'⟩::A) _ _ _ _ o q (by rw [aR,aR];simp only [szs];omega) ⟨⟨rfl,rfl,rfl,rfl,?_⟩,H.2.1,⟨rfl,rfl,rfl,rfl,rfl⟩,H.2.2,O⟩ hl;simp only [map_cons,dZ]
   .rw [if_neg (by omega)] at hl;rw [if_neg (by omega)];simp only [Bool.false_eq_true,if_false];exact nD D J m (⟨x,n',ind'⟩::A) _ _ _ _ o q (by rw [aR];simp only [szs];omega) ⟨⟨rfl,rfl,rfl,rfl,rfl⟩,H.2.1,O⟩ hl
 | _,[],_::_,_,_,_,_,_,_,h,_=>h.elim
 | _,_::_,[],_,_,_,_,_,_,h,_=>by cases h
theorem xN (d:Nat->Int->Bool):∀ (f:Nat) (E:List PT) (D:List Int) (h:Int) (A:List Int),(pm d f E D h A).2.length=A.length
 | 0,_,_,_,_=>rfl
 | _+1,[],_,_,_=>rfl
 | f+1,⟨.leaf p,n,ind,fl,bw,be⟩::r,D,h,A=>by
   simp only [pm]
   repeat' split
   all_goals exact xN d f _ _ _ _
 | f+1,⟨.un p x,n,ind,fl,bw,be⟩::r,D,h,A=>by
   simp only [pm]
   split
   .exact xN d f _ _ _ _
   .rw [xN d f];simp
 | f+1,⟨.bin p x y,n,ind,fl,bw,be⟩::r,D,h,A=>by
   simp only [pm]
   split
   .exact xN d f _ _ _ _
   .exact xN d f _ _ _ _
def Off (g:Nat) (ts:List PT):Prop:=∀ t∈ts,g<t.n\/t.n+aP t.T<=g
theorem mR (d:Nat->Int->Bool) (g):∀ (f:Nat) (O:List PT) (N:List Int) (F:Int) (H:List Int),Off g O->(∀ t∈O,KOk t.T)->(pm d f O N F H).2[g]?=H[g]?
 | 0,_,_,_,_,_,_=>rfl
 | _+1,[],_,_,_,_,_=>rfl
 | f+1,⟨.leaf p,n,ind,fl,bw,be⟩::r,N,F,H,h,hk=>by
   have G:Off g r:=fun t A=>h t (mem_cons_of_mem _ A);have D:∀ t∈r,KOk t.T:=fun t A=>hk t (mem_cons_of_mem _ A);simp only [pm]
   split
   .exact mR d g f _ _ _ _ G D
   .split
    .exact mR d g f _ _ _ _ G D
    .split
     .exact mR d g f _ _ _ _ G D
     .exact mR d g f _ _ _ _ G D
 | f+1,⟨.un p x,n,ind,fl,bw,be⟩::r,N,F,H,h,hk=>by
   have G:Off g r:=fun t A=>h t (mem_cons_of_mem _ A);have D:∀ t∈r,KOk t.T:=fun t A=>hk t (mem_cons_of_mem _ A);have M:=h _ (mem_cons_self);have E:=hk _ (mem_cons_self);simp only [KOk] at E;simp only [aP] at M
   have S:∀ i J,Off g (⟨x,n,i,J,bw,be⟩::r):=fun i J t A=>by
    rcases mem_cons.1 A with rfl | A
    .simp only;split at M<;>omega
    .exact G t A
   have I:∀ i J,∀ t∈(⟨x,n,i,J,bw,be⟩:PT)::r,KOk t.T:=fun i J t A=>by
    rcases mem_cons.1 A with rfl | A
    .exact E.2
    .exact D t A
   simp only [pm]
   split
   .exact mR d g f _ _ _ _ (S _ _) (I _ _)
   .rename_i h7
    rw [mR d g f _ _ _ _ (S _ _) (I _ _)];rw [if_pos (by rcases E.1 with e | e<;>omega)] at M;rw [getElem?_set_ne (by omega)]
 | f+1,⟨.bin p x y,n,ind,fl,bw,be⟩::r,N,F,H,h,hk=>by
   have G:Off g r:=fun t A=>h t (mem_cons_of_mem _ A);have D:∀ t∈r,KOk t.T:=fun t A=>hk t (mem_cons_of_mem _ A);have M:=h _ (mem_cons_self);have E:=hk _ (mem_cons_self);simp only [KOk] at E;simp only [aP] at M;simp only [pm]
   split
   .refine mR d g f _ _ _ _ (fun t A=>?_) (fun t A=>?_)
    .rcases mem_cons.1 A with rfl | A
     .simp only;omega
     .rcases mem_cons.1 A with rfl | A
      .simp only;omega
      .exact G t A
    .rcases mem_cons.1 A with rfl | A
     .exact E.2.1
     .rcases mem_cons.1 A with rfl | A
      .exact E.2.2
      .exact D t A
   .refine mR d g f _ _ _ _ (fun t A=>?_) (fun t A=>?_)
    .rcases mem_cons.1 A with rfl | A
     .cases fl<;>simp<;>omega
     .exact G t A
    .rcases mem_cons.1 A with rfl | A
     .cases fl
      .exact E.2.1
      .exact E.2.2
     .exact D t A
def Ord:List iF->Prop
 | []=>True
 | it::r=>(∀ s∈r,it.n+aP it.T<=s.n)/\Ord r
theorem aIC:∀ {A:List iF} {E:List PT},Mt A E->∀ t∈E,KOk t.T
 | [],[],_,t,D=>by cases D
 | it::A,t0::E,h,t,D=>by
   simp only [Mt] at h;rcases mem_cons.1 D with rfl | D
   .rw [h.1.1];exact h.2.1
   .exact aIC h.2.2 t D
 | [],_::_,h,_,_=>h.elim
 | _::_,[],h,_,_=>h.elim
theorem aJh {g:Nat} : ∀ {A:List iF} {E:List PT},Mt A E->(∀ s∈A,g<s.n)->Off g E
 | [],[],_,_,t,D=>by cases D
 | it::A,t0::E,h,hg,t,D=>by
   simp only [Mt] at h;rcases mem_cons.1 D with rfl | D
   .left;rw [h.1.2.1];exact hg it mem_cons_self
   .exact aJh h.2.2 (fun s F=>hg s (mem_cons_of_mem _ F)) t D
 | [],_::_,h,_,_,_=>h.elim
 | _::_,[],h,_,_,_=>h.elim
theorem nB (F) (I:List Int):∀ (m:Nat) (A:List iF) (Z:List PT) (J E:List Int) (G:Int),szs (trs A)<=m->Mt A Z->Ord A->(∀ s∈A,s.n+aP s.T<=E.length)->
  iJ F (some I) A J E G=none->∃ g:Nat,(pmL (dR I) Z J G E).2[g]?=some 2/\I[g]?.getD 0≠2
 | m,[],[],J,E,G,_,_,_,_,hl=>by rw [aAV] at hl;cases hl
 | m,⟨.leaf p,n,ind⟩::A,⟨T,n',ind',fl,bw,be⟩::Z,J,E,G,hm,h,hO,hG,hl=>by
   simp only [Mt] at h;obtain ⟨⟨rfl,rfl,rfl,rfl,rfl⟩,M,hM⟩:=h;rw [aR] at hm;simp only [szs,sz] at hm;cases m with
   | zero=>omega
   | succ m=>
   have ih:=fun oo c hh=>nB F I m A Z oo E c (by omega) hM hO.2 (fun s D=>hG s (mem_cons_of_mem _ D)) hh;simp only [KOk] at M;rw [xY] at hl;rw [wU]
   by_cases h1:p.k=1
   .rw [if_pos h1] at hl;rw [pA (.inr h1),if_neg (by simp),if_pos h1];exact ih _ _ hl
   .rw [if_neg h1] at hl
    by_cases h5:p.k=5
    .rw [if_pos h5] at hl;rw [aDv h5,if_pos rfl];have:=ih _ _ hl;simpa using this
    .rw [if_neg h5] at hl
     by_cases N:p.k=2\/p.k=3\/p.k=4
     .rw [if_pos N] at hl;rw [aAh N,if_pos rfl];have:=ih _ _ hl;simpa [aO] using this
     .rw [if_neg N] at hl;rw [pA (.inl (by omega)),if_neg (by simp),if_neg h1,if_neg (by omega)];exact ih _ _ hl
 | m,⟨.un p x,n,ind⟩::A,⟨T,n',ind',fl,bw,be⟩::Z,J,E,G,hm,h,hO,hG,hl=>by
   simp only [Mt] at h;obtain ⟨⟨rfl,rfl,rfl,rfl,rfl⟩,M,hM⟩:=h;rw [aR] at hm;simp only [szs,sz] at hm;cases m with
   | zero=>omega
   | succ m=>
   simp only [KOk] at M;have H:=hO.1;have Y:=hG _ mem_cons_self;simp only [aP] at H Y;have O:∀ s∈A,s.n+aP s.T<=E.length:=fun s D=>hG s (mem_cons_of_mem _ D)
   have a8:=fun (i:Int) (oo mm:List Int) (c:Int) (S:mm.length=E.length) hh=>nB F I m (⟨x,n',i⟩::A) (⟨x,n',i,false,dZ (A.map (·.T)),be⟩::Z) oo mm c (by rw [aR];simp only [szs];omega) ⟨⟨rfl,rfl,rfl,rfl,rfl⟩,M.2,hM⟩
    ⟨fun s D=>by have:=H s D;simp only;omega,hO.2⟩ (fun s D=>by
     rw [S];rcases mem_cons.1 D with rfl | D
     .simp only;omega
     .exact O s D) hh
   have b5:=fun (oo mm:List Int) (c:Int) (S:mm.length=E.length) hh=>nB F I m A Z oo mm c (by omega) hM hO.2 (fun s D=>by rw [S];exact O s D) hh;have b1:=rQ x M.2;rw [aDG] at hl;rw [aC1];rcases M.1 with h7 | h8
   .rw [if_pos h7] at hl;rw [if_pos h7];exact a8 _ _ _ _ rfl hl
   .rw [if_pos h8] at Y;rw [if_neg (by omega)] at hl;rw [if_neg (by omega)];simp only at hl;simp only [Bool.false_or]
    have a2:I[n'+aP x]?.getD 0≠2->kN (flatW x) G (dZ (A.map (·.T))) (dR I (n'+aP x))=false->
      ∃ g:Nat,(pmL (dR I) (⟨x,n',ind',false,dZ (A.map (·.T)),be⟩::Z) J G (E.set (n'+aP x) 2)).2[g]?=some 2/\I[g]?.getD 0≠2:=fun h2 _=>by
     refine ⟨n'+aP x,?_,h2⟩;unfold pmL;rw [mR]
     .rw [getElem?_set_self (by omega)]
     .intro t ht;rcases mem_cons.1 ht with rfl | ht
      .right;simp
      .exact aJh hM (fun s D=>by have:=H s D;rw [if_pos h8] at this;omega) t ht
     .intro t ht;rcases mem_cons.1 ht with rfl | ht
      .exact M.2
      .exact aIC hM t ht
    by_cases a1:I[n'+aP x]?.getD 0=1
    .rw [if_pos a1] at hl;cases ex:aD x [] with
     | none=>
       have hc:kN (flatW x) G (dZ (A.map (·.T))) (dR I (n'+aP x))=false:=(by unfold kN;rw [if_pos (b1.2 ex)]);rw [hc];simp only [Bool.false_eq_true,if_false];exact a2 (by omega) hc
     | some text=>
       rw [ex] at hl;have hw:=b1.1 text ex;have hc:kN (flatW x) G (dZ (A.map (·.T))) (dR I (n'+aP x))=true:=(by unfold kN dR;rw [if_neg (by omega)];simpa using a1);rw [hc];simp only [if_true];rw [oN _ x _ _ _ _ _ _ _ _ text M.2 ex];simp only [jE,if_pos h8] at hl;rw [hw.1];exact b5 _ _ _ (by rw [kD];simp) hl
    .rw [if_neg a1] at hl
     have hc:kN (flatW x) G (dZ (A.map (·.T))) (dR I (n'+aP x))=false:=by
      unfold kN dR;split
      .rfl
      .simpa using a1
     rw [hc];simp only [Bool.false_eq_true,if_false]
     by_cases a5:I[n'+aP x]?.getD 0=2
     .rw [if_pos a5] at hl;exact a8 _ _ _ _ (by simp) hl
     .exact a2 a5 hc
 | m,⟨.bin p x y,n,ind⟩::A,⟨T,n',ind',fl,bw,be⟩::Z,J,E,G,hm,h,hO,hG,hl=>by
   simp only [Mt] at h;obtain ⟨⟨rfl,rfl,rfl,rfl,rfl⟩,M,hM⟩:=h;rw [aR] at hm;simp only [szs,sz] at hm;cases m with
   | zero=>omega
   | succ m=>
   simp only [KOk] at M;have H:=hO.1;have Y:=hG _ mem_cons_self;simp only [aP] at H Y;have O:∀ s∈A,s.n+aP s.T<=E.length:=fun s D=>hG s (mem_cons_of_mem _ D);rw [aAz] at hl;rw [aAg];rcases M.1 with h6 | h9
   .rw [if_pos h6] at hl;rw [if_pos h6];refine nB F I m (⟨x,n',ind'⟩::⟨y,n'+aP x,ind'⟩::A) _ _ _ _ (by rw [aR,aR];simp only [szs];omega) ⟨⟨rfl,rfl,rfl,rfl,?_⟩,M.2.1,⟨rfl,rfl,rfl,rfl,rfl⟩,M.2.2,hM⟩ ⟨fun s D=>?_,fun s D=>?_,hO.2⟩ (fun s D=>?_) hl
    .simp only [map_cons,dZ]
    .rcases mem_cons.1 D with rfl | D
     .simp
     .have:=H s D;simp only;omega
    .have:=H s D;simp only;omega
    .rcases mem_cons.1 D with rfl | D
     .simp only;omega
     .rcases mem_cons.1 D with rfl | D
      .simp only;omega
      .exact O s D
   .rw [if_neg (by omega)] at hl;rw [if_neg (by omega)];simp only [Bool.false_eq_true,if_false];refine nB F I m (⟨x,n',ind'⟩::A) _ _ _ _ (by rw [aR];simp only [szs];omega) ⟨⟨rfl,rfl,rfl,rfl,rfl⟩,M.2.1,hM⟩ ⟨fun s D=>?_,hO.2⟩ (fun s D=>?_) hl
    .have:=H s D;simp only;omega
    .rcases mem_cons.1 D with rfl | D
     .simp only;omega
     .exact O s D
 | _,[],_::_,_,_,_,_,h,_,_,_=>h.elim
 | _,_::_,[],_,_,_,_,h,_,_,_=>by cases h
theorem aB0 {A D:List Int} (k:Nat) (h:A[k]?.getD 0≠D[k]?.getD 0):decide (A=D)=false:=by
 simp only [decide_eq_false_iff_not];intro e;exact h (by rw [e])
theorem aJI (va vb A D) (w:World) (ha:Rd .i64 w.heap.size w va A) (hb:Rd .i64 w.heap.size w vb D) (hn:A.length<=600000000) :
  Calls prog 31 #[va,vb] w fun e w'=>e=.returned (.bool (decide (A=D)))/\∃ m,w'=w.drewN m:=by
 obtain ⟨a,a5,rfl,Y⟩:=ha;obtain ⟨b,a8,rfl,Z⟩:=hb
 by_cases O:A.length=D.length
 .have a2:((A.length:Int) != (D.length:Int))=false:=(by simp [O]);have HL:Hid (A.length=D.length):=O;clear O
  go_enter func31,ntmps31
  go_wp2
  go_loopw [13] (fun i wr=>∃ k m:Nat,k<=A.length/\i=.int .i64 k/\A.take k=D.take k/\wr=w.drewN m)
   (fun i _=>A.length - (intOf i).toNat)
  case atStart=>exact ⟨0,0,Nat.zero_le _,rfl,by simp,rfl⟩
  case round=>
   obtain ⟨k,m,hk,rfl,M,a3⟩:=hrel;subst a3
   by_cases F:k<A.length
   .have E:k<D.length:=(by rw [<- HL.out];exact F);obtain ⟨ba,a4,rfl,b2,a0⟩:=Y (fun h=>by simp [h] at F);obtain ⟨bb,b0,rfl,b6,N⟩:=Z (fun h=>by simp [h] at E);have a1:=a0 k F;have J:=N k E;have H:=dM A k F;have I:=dM D k E;have b1:(k:Int)<(A.length:Int):=(by omega);have b9:(k:Int)<(D.length:Int):=(by omega);clear a0 N Y Z
    by_cases G:A[k]?.getD 0=D[k]?.getD 0
    .have HT:Hid (A.take (k+1)=D.take (k+1)):=(by unfold Hid;rw [H,I,M,G]);clear H I M;rw [<- G] at J;clear G;generalize A[k]?.getD 0=z at a1 J;go_wp2
     go_quiet (fail)
     go_wp2
     go_roundw
     case rel=>exact ⟨k+1,_,by omega,by go_num,HT.out,rfl⟩
     case measure=>simp [intOf];omega
    .have S:Hid (decide (A=D)=false):=aB0 k G;generalize A[k]?.getD 0=z at a1 G;generalize D[k]?.getD 0=z2 at J G;clear H I M;have b3:(z != z2)=true:=(by simp [G]);clear G;go_wp2
     go_quiet (fail)
     go_wp2;go_ret;exact ⟨by rw [S.out];rfl,m+nq,by rw [drewN_drewN]⟩
   .have S:Hid (decide (A=D)=true):=by
     unfold Hid;rw [take_of_length_le (by omega),take_of_length_le (by have:=HL.out;omega)] at M;simp [M]
    clear M;go_wp2;go_ret;exact ⟨by rw [S.out];rfl,_,rfl⟩
 .have a2:((A.length:Int) != (D.length:Int))=true:=by simp;omega
  have S:Hid (decide (A=D)=false):=by
   unfold Hid;simp only [decide_eq_false_iff_not];intro e;exact O (by rw [e])
  clear O
  go_enter func31,ntmps31
  go_wp2;go_ret;exact ⟨by rw [S.out];rfl,0,rfl⟩
theorem zP (v h) (w:World) (H:RdP w.heap.size w v h) (hn:h.length<=1048576) :
  Calls prog 29 #[v] w fun e w'=>e=.returned (.int .i64 (grp h h.length:Int))/\w.grownBy w' none:=by
 obtain ⟨a,a1,N,_⟩:=id H;subst N
 go_enter func29,ntmps29
 go_wp2
 go_loopw [3,8] (fun gv i wr=>∃ k:Nat,k<=h.length/\i=.int .i64 k/\gv=.int .i64 (grp h k:Int)/\w.grownBy wr none)
  (fun _ i _=>h.length - (intOf i).toNat)
 case atStart=>exact ⟨0,Nat.zero_le _,rfl,by rw [aEc];rfl,grownBy.refl _ _⟩
 case round=>
  obtain ⟨k,hk,rfl,rfl,G⟩:=hrel;have a0:=aIn h k
  by_cases E:k<h.length
  .obtain ⟨b,a3,Z,tv,O,hb,F⟩:=(H.K G).at k E;cases O;have a7:=F.k;have a5:=F.t;have a8:=F.n;have A:=wS h k E;have S:=aB G;have a4:(k:Int)<(h.length:Int):=(by omega);obtain ⟨ta,Y,M,_,_⟩:=F.sl;subst M;clear H F G
   by_cases D:h[k].k=8
   .have q8:(h[k].k==8)=true:=(by rw [D];rfl);rw [if_pos D] at A;have I:=aB A;clear A D;generalize h[k].k=kk at *;generalize grp h k=gk at *;go_wp2
    go_roundw
    case rel=>exact ⟨k+1,by omega,by go_num,by rw [I.out];go_num,aA S.out gWA⟩
    case measure=>simp [intOf];omega
   .have q8:(h[k].k==8)=false:=(by simpa using D);rw [if_neg D] at A;have I:=aB A;clear A D;generalize h[k].k=kk at *;generalize grp h k=gk at *;go_wp2
    go_roundw
    case rel=>exact ⟨k+1,by omega,by go_num,by rw [I.out];go_num,aA S.out gWA⟩
    case measure=>simp [intOf];omega
  .have J:k=h.length:=(by omega);subst J;clear H;go_wp2;go_ret;exact ⟨rfl,G⟩
theorem aDc (I:Nat) (J:Value) (D) (j:Nat) (A:Int) (B) (w:World) (Z:w.cell? ⟨I,0,none⟩=some J) (F:RdI B w J D) (G:j<D.length) :
  Calls prog 30 #[.int .i64 (j:Int),.int .i64 A,.pointer (some ⟨I,0,none⟩)] w fun e O=>e=.returned (.bool (dR D j A))/\w=O:=by
 obtain ⟨a,M,rfl,F⟩:=F;obtain ⟨b,Y,rfl,hb,E⟩:=F (fun h=>by simp [h] at G);have N:=E j G;have H:Hid (dR D j A=(D[j]?.getD 0==1)):=(by rw [Hid];unfold dR;rw [Bool.eq_iff_iff];simp);have S:(j:Int)<(D.length:Int):=(by omega);clear F E;generalize D[j]?.getD 0=z at N H
 go_enter func30,ntmps30
 go_wp2;go_ret;exact ⟨by rw [H.out];rfl,rfl⟩
theorem aDt (args) (W:World):(callFunc 30 args).run prog W=.ok (.enter 30 args) W:=by kernel_rfl
theorem aL9 {h} {A:List Int} {T:Tr} (J:eS h=true) (M:bd h []=some [T]) (H:KOk T) (I:grp h h.length=aP T) (N:A.length=grp h h.length) :
  lW h A=if (pmL (dR A) [⟨T,0,0,false,0,false⟩] [] 0 (replicate (aP T) 0)).2=A then some (pmL (dR A) [⟨T,0,0,false,0,false⟩] [] 0 (replicate (aP T) 0)).1 else none:=by
 unfold lW;rw [if_pos ⟨J,N⟩,M,I];simp only;have D:Mt [⟨T,0,0⟩] [⟨T,0,0,false,0,false⟩]:=⟨⟨rfl,rfl,rfl,rfl,rfl⟩,H,trivial⟩;cases G:iJ 0 (some A) [⟨T,0,0⟩] [] (replicate (aP T) 0) 0 with
 | some oq=>
   obtain ⟨o,q⟩:=oq;rw [nD 0 A (sz T) _ _ _ _ _ o q (by simp [trs,szs]) D G]
 | none=>
   obtain ⟨g,E,F⟩:=nB 0 A (sz T) _ _ _ _ _ (by simp [trs,szs]) D ⟨by simp,trivial⟩ (by simp) G;rw [if_neg];intro e;rw [e] at E;rw [E] at F;exact F rfl
theorem aAR (v cv A H) (w:World) (hv:RdP w.heap.size w v A) (hd:Doc A) (b7:RdI w.heap.size w cv H) (m2:H.length<=1048576) (hT:Tab w) :
  Calls prog 10 #[v,cv] w fun e w'=>aFq w (lW A H) e w':=by
 have k1:∀ (x:Bool) (w:World),(Op.unary .not (.bool x)).run prog w=.ok (.bool (!x)) w:=fun _ _=>rfl;have gA:=grownBy_alloc w (.cells #[cv] 35) none;have HN:=aB (rU v A (w.alloc (.cells #[cv] 35)) ((hv.K gA).wide gA.size) hd (hT.K gA));obtain ⟨a,j0,i8,_⟩:=id hv;obtain ⟨ca,F,h8,_⟩:=id b7;subst i8;have HV:=aB hv;have HC:=aB b7;have f7:=aB gA;have HD:=aB hd;subst h8;clear hv hT hd gA b7
 go_enter func10,ntmps10
 go_wp2_with fail
 refine HN.out.mono ?_;intro e w1 hS;obtain ⟨G,i3⟩:=vZ hS;rcases i3 with ⟨h1,a3,T,u,nv,l,h3,h5,rfl,b2,N,I,D,J⟩ | ⟨h1,rfl⟩
 .have a5:w1.cell? ⟨w.heap.size,0,none⟩=some (.slice ca H.length F):=(G.cell (p:=⟨w.heap.size,0,none⟩) (by simp)).trans (by simp [go_sem]);have g1:=aA f7.out (aC G);have G1:=aB g1;obtain ⟨na,k3,d6,m3,l7⟩:=aZ N
  have j2:¬ l.length=0:=by
   obtain ⟨l',e⟩:=D.last;rw [e];simp
  have l5:((l.length:Int)==0)=false:=beq_false_of_ne (by omega);obtain ⟨f1,f2,f3,f4,f5⟩:=yC HD.out h1 h3 h5;have a2:=nH I D;have d4:=aB (fun W (h:w1.grownBy W none)=>zP (.slice a A.length j0) A W ((HV.out.K (aA g1 h)).wide (aA g1 h).size) HD.out.len);have j7:(0:Int)<(l.length:Int):=by omega
  by_cases Y:H.length=grp A A.length
  .have HR:=aB (aL9 h1 h3 f4 f5 Y);have d2:=aB (fun W cf cp (h:w1.grownBy W none)=>rV _ nv u T l W (fT N h (by simp)) (I.K h) (D.K I h) (J.turn (fun b hb _=>h.block b hb (by simp)) (fun _ _ h=>h)) f3 (by omega) cf cp);have HF:=aB (And.intro f1 (And.intro f2 f3));have b0:=aB a2;have Hl:=aB b2;have c9:=aB a3;have f6:=aB f5;have c4:=aB Y;have i9:((H.length:Int) != (grp A A.length:Int))=false:=(by rw [Y];simp);subst d6;clear hS N I D J f1 f2 f3 f4 f5 a2 h1 h3 h5 G HN b2 a3 g1 Y;generalize grp A A.length=gd at *;have M:w1.drew.cell? ⟨w.heap.size,0,none⟩=some (.slice ca H.length F):=a5;have a6:=aB (d4.out w1.drew (bO (grownBy.refl _ _)))
   go_wp2_with fail
   go_region_with (go_at_call 29;refine a6.out.mono ?_;rintro e d0 ⟨rfl,g2⟩;have a1:=g2.cell M (by simp))
   all_goals
    have c2:=aA (bO (grownBy.refl w1 none)) g2;have c3:=aB (fun cf cp=>d2.out d0 cf cp c2);clear a6 M a5
    go_wp2_with fail
    refine (c3.out _ _).mono ?_;rintro e w2 ⟨wm,fb,lb,nb,f0,f1,f2,wv,d8,rfl,hC,d1,a7,hP⟩;have Z:=aA (aA G1.out c2) a7;have b4:∀ W,wm.grownBy W none->W.cell? ⟨w.heap.size,0,none⟩=some (.slice ca H.length F):=fun W hW=>hW.cell (a7.cell a1 (by simp)) (by simp)
    have hB:w.heap.size+1<=wm.heap.size:=by
     have:=a7.size;have:=block_lt_of_cell? d0 _ a1;simp only at this;omega
    have d5:=aB (aB2 _ wm.heap.size wm w2 rfl (by simpa using hB) l fb lb nb f0 f1 f2 hC 30 (.pointer (some ⟨w.heap.size,0,none⟩)) wv _ d8 (gO l) (by have:=aAa l;have:=Hl.out;have:=c9.out;omega)
     (fun args W=>aDt args W) (dR H) (fun j d7 W hj hW=>aDc w.heap.size _ H j d7 _ W (b4 W hW) (HC.out.K (aA Z hW)) (by rw [c4.out,f6.out,<- b0.out];exact hj)) [⟨u,T,0,0,false,0,false⟩] [] 0 (replicate (gO l) 0) hP (aCA d1 HF.out.1 HF.out.2.1 HF.out.2.2 b0.out))
    have GW:=aB Z;have h9:=aB (b4 wm (grownBy.refl _ _));clear b4 hP hC d1 d2 c3 a7 Z
    go_wp2_with fail
    refine d5.out.mono ?_;rintro e w3 ⟨rfl,k9,j1,j5,E⟩
    have f9:pm (dR H) (szS [⟨u,T,0,0,false,0,false⟩]+1) (List.map Tk.pt [⟨u,T,0,0,false,0,false⟩]) [] 0 (replicate (gO l) 0)=pmL (dR H) [⟨T,0,0,false,0,false⟩] [] 0 (replicate (aP T) 0):=by
     unfold pmL;rw [<- aJe,b0.out];rfl
    rw [f9] at E;obtain ⟨R,hR⟩:∃ R,R=pmL (dR H) [⟨T,0,0,false,0,false⟩] [] 0 (replicate (aP T) 0):=⟨_,rfl⟩;rw [<- hR] at E HR;have c5:=E.c5;have c7:=E.c7;have c0:=aA GW.out (aC E.bel);have j8:w3.cell? ⟨w.heap.size,0,none⟩=some (.slice ca H.length F):=(E.bel.cell (p:=⟨w.heap.size,0,none⟩) (by simp only;omega)).trans h9.out
    have d3:R.2.length<=600000000:=by
     rw [hR];unfold pmL;rw [xN,length_replicate,<- f6.out,<- c4.out];omega
    obtain ⟨ta,k4,h4,_,_⟩:=aZ E.trow;obtain ⟨ha,i4,i2,_,_⟩:=aZ E.hrow
    have HE:Hid (∀ W,w3.grownBy W none->OwB w.heap.size W j1 R.1/\w.grownBy W none):=
     fun W hW=>⟨Ow.later (gP (by omega) E.trow) hW,aA c0 hW⟩
    have O:=aJI d8 (.slice ca H.length F) R.2 H w3.drew ((Ow.rd E.hrow).K (bO (grownBy.refl _ _))) ((HC.out.K c0).now.K (bO (grownBy.refl _ _))) d3;clear f9 hR E d5 d3;subst h4 i2
    by_cases S:R.2=H
    .have b6:=aB (HR.out.trans (if_pos S));rw [decide_eq_true S] at O;have b8:=aB O;clear O S HR
     go_wp2_with fail
     go_region_with (go_at_call 31;refine b8.out.mono ?_;rintro e w4 ⟨rfl,m4,a0⟩;have g4:w3.grownBy w4 none:=a0 ▸ cA (bO (grownBy.refl w3 none)) m4;have m1:=g4.cell c5 (by simp);clear a0)
     all_goals
      go_wp2;go_ret2;rw [b6.out];exact ⟨_,rfl,HE.out _ g4⟩
    .have b6:=aB (HR.out.trans (if_neg S));rw [decide_eq_false S] at O;have b8:=aB O;clear O S HR
     go_wp2_with fail
     go_region_with (go_at_call 31;refine b8.out.mono ?_;rintro e w4 ⟨rfl,m4,a0⟩;have g4:w3.grownBy w4 none:=a0 ▸ cA (bO (grownBy.refl w3 none)) m4;clear a0)
     all_goals
      go_wp2;go_ret2;rw [b6.out];exact ⟨rfl,(HE.out _ g4).2⟩
  .have HR:Hid (lW A H=none):=(by unfold Hid lW;rw [if_neg (fun h=>Y h.2)]);have i9:((H.length:Int) != (grp A A.length:Int))=true:=bne_iff_ne.2 (by omega);subst d6;clear hS N I D J f1 f2 f3 f4 f5 a2 h1 h3 h5 G HN b2 a3 g1;generalize grp A A.length=gd at *;have M:w1.drew.cell? ⟨w.heap.size,0,none⟩=some (.slice ca H.length F):=a5;have a6:=aB (d4.out w1.drew (bO (grownBy.refl _ _)))
   go_wp2_with fail
   go_region_with (go_at_call 29;refine a6.out.mono ?_;rintro e w2 ⟨rfl,g2⟩;have a1:=g2.cell M (by simp))
   all_goals
    go_wp2;go_ret2;rw [HR.out];exact ⟨rfl,aA G1.out (aA (bO (grownBy.refl _ _)) g2)⟩
 .have HR:Hid (lW A H=none):=(by unfold Hid lW;rw [if_neg (fun h=>by rw [h1] at h;cases h.1)]);have G1:=aB (aA f7.out (aC G));have a5:w1.cell? ⟨w.heap.size,0,none⟩=some (.slice ca H.length F):=(G.cell (p:=⟨w.heap.size,0,none⟩) (by simp)).trans (by simp [go_sem]);clear hS G HN h1
  go_wp2_with fail
  go_quiet (fail)
  go_wp2;go_ret2;rw [HR.out];exact ⟨rfl,cA G1.out _⟩
end Go.Proofs.YtckcaefnokeodaaGreatDoor
