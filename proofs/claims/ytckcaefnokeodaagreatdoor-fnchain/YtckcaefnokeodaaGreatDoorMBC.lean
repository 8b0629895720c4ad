import Derived.Test.YtckcaefnokeodaaGreatDoorMAX
import Derived.Test.YtckcaefnokeodaaGreatDoorMAY
import Derived.Test.YtckcaefnokeodaaGreatDoorMBB
set_option maxHeartbeats 16000000
set_option maxRecDepth 100000
namespace Go.Proofs.YtckcaefnokeodaaGreatDoor
open Go.Proofs.Tryz List World
def As7 (t:List Int):Prop:=∀ x∈t,32<=x/\x<128
theorem As7.vt {t} (h:As7 t):Vt t/\10 ∉ t:=⟨jK (fun x D=>by have:=h x D;omega),fun A=>by have:=h 10 A;omega⟩
theorem As7.app {a b} (h:As7 a) (D:As7 b):As7 (a++b):=fun x A=>by
 rcases mem_append.1 A with A | A
 .exact h x A
 .exact D x A
theorem aDD {s} (h:aX s=true):As7 s:=fun x A=>by
 have:=all_eq_true.1 h x A;simp [aK] at this;omega
theorem aLi {s:List Int} (h:s.all eQ=true):As7 s:=fun x A=>by
 have:=all_eq_true.1 h x A;simp only [eQ,jU,aK,decide_eq_true_eq] at this
 split at this
 .rename_i h1;omega
 .split at this
  .omega
  .split at this
   .omega
   .omega
theorem aGy (p:Int->Bool) {s:List Int} (G:As7 (s.takeWhile p)) (D:As7 (s.dropWhile p).tail) (F:∀ x,p x=false->32<=x/\x<128):As7 s:=by
 have e:s.takeWhile p++s.dropWhile p=s:=takeWhile_append_dropWhile;rw [<- e];refine G.app ?_;cases A:s.dropWhile p with
 | nil=>exact fun x h=>by simp at h
 | cons a r=>
   rw [A] at D
   have E:p a=false:=by
    have:=head?_dropWhile_not p s;rw [A] at this;simpa using this
   intro x h;rcases mem_cons.1 h with rfl | h
   .exact F x E
   .exact D x h
theorem aEx {s} (h:cQ s=true):As7 s:=by
 unfold cQ at h;simp only at h
 split at h
 .cases h
 .rename_i hd
  simp only [Bool.or_eq_true,Bool.not_eq_true',not_or,Bool.not_eq_false] at hd;exact aGy (· != 46) (aDD hd.1) (aDD hd.2) (fun x A=>by simp at A;omega)
theorem aCG {s} (h:As7 (eG s)):As7 s:=by
 cases s with
 | nil=>exact h
 | cons c r=>
   simp only [eG] at h
   split at h
   .rename_i hs
    simp [aA2] at hs;intro x A;rcases mem_cons.1 A with rfl | A
    .omega
    .exact h x A
   .exact h
theorem aKO {s} (h:oP s=true):As7 s:=by
 refine aCG ?_;unfold oP dL at h;generalize eG s=z at h ⊢
 split at h
 .rename_i hs
  rcases hs with rfl | rfl
  .intro x A;simp [oY] at A;omega
  .intro x A;simp [nan] at A;omega
 .split at h
  .rename_i A
   obtain ⟨F,E,D⟩:=A
   match z,F,E,D,h with
   | a::b::r,_,E,D,h=>
     simp at E D h;have G:=aLi (s:=r) (by simpa using h);simp [isX] at D;intro x A;simp only [mem_cons] at A;rcases A with rfl | rfl | A
     .omega
     .omega
     .exact G x A
  .split at h
   .simp only [Bool.and_eq_true,pM] at h;exact aGy (fun c=>!isE c) (aEx h.1) (aCG (aDD h.2.2)) (fun x A=>by simp [isE] at A;omega)
   .exact aEx h
theorem aKe {A} (h:nmR A=true):As7 A:=by
 intro x E;obtain ⟨j,D,rfl⟩:=getElem_of_mem E;simp only [nmR,Bool.and_eq_true,uR,all_eq_true,mem_range] at h;have:=h.1 j D;simp [xG,iS,aK,D] at this;omega
theorem aKo (p):Vt (gG p)/\10 ∉ gG p:=by
 unfold gG
 split
 .rename_i hs
  refine As7.vt ?_;unfold qU at hs ⊢;intro x h
  repeat' split at h
  all_goals (simp at h;try omega)
 .split
  .refine As7.vt ?_;have A:∀ n:Int,0<=n->n<16->32<=nZ n/\nZ n<128:=fun n H D=>by unfold nZ;split<;>omega
   have D:=A (p / 4096%16) (by omega) (by omega);have F:=A (p / 256%16) (by omega) (by omega);have G:=A (p / 16%16) (by omega) (by omega);have E:=A (p%16) (by omega) (by omega);intro x h;simp only [dN,mem_cons,not_mem_nil,or_false] at h;rcases h with rfl | rfl | rfl | rfl | rfl | rfl<;>first | omega | assumption
  .rename_i hb
   simp [nQ] at hb;exact ⟨⟨[p],by simp [hb.2],by simp [aQ]⟩,aDl hb.2 (by omega)⟩
theorem aG1:∀ h,Vt (kA h)/\10 ∉ kA h
 | []=>⟨nJ,by simp [kA]⟩
 | p::h=>by
   obtain ⟨D,E⟩:=aKo p;obtain ⟨F,A⟩:=aG1 h;rw [show kA (p::h)=gG p++kA h by simp [kA]];exact ⟨lN D F,by simp only [mem_append,not_or];exact ⟨E,A⟩⟩
theorem aLH (h):Vt (quR h).1/\10 ∉ (quR h).1:=by
 unfold quR
 split
 .obtain ⟨E,D⟩:=aG1 (fuR h).1;have A:Vt [34]:=jK (by simp);refine ⟨lN (lN A E) A,?_⟩;simp only [cons_append,mem_cons,mem_append,not_mem_nil,or_false,not_or];exact ⟨by omega,D,by omega⟩
 .exact ⟨nJ,by simp⟩
theorem wP {t} (h:Vt t/\10 ∉ t):OkT (bS t):=fun _=>h
theorem vt2 {a b} (h:Vt a/\10 ∉ a) (A:Vt b/\10 ∉ b):Vt (a++b)/\10 ∉ a++b:=⟨lN h.1 A.1,by simp only [mem_append,not_or];exact ⟨h.2,A.2⟩⟩
theorem aMc (A):Vt (iT A)/\10 ∉ iT A:=by
 unfold iT
 split
 .rename_i h;exact (aKe h).vt
 .exact aLH A
theorem aLV (n):OkL (qB n):=by
 unfold qB
 split
 .exact eZ (wP (vt2 (aMc _) (As7.vt (fun x h=>by simp at h;omega)))) uG
 .exact uG
theorem aLb {n:Nod} (h:n.k=3->oP n.X=true):OkT (bS (aCz n)):=by
 refine wP ?_;unfold aCz
 split
 .rename_i hk;exact (aKO (h hk)).vt
 .split
  .exact aLH _
  .split
   .exact As7.vt (fun x A=>by simp at A;omega)
   .split
    .exact As7.vt (fun x A=>by simp at A;omega)
    .exact As7.vt (fun x A=>by simp at A;omega)
theorem aE5:∀ (A:List (List Int)),(∀ l∈A,Vt l/\10 ∉ l)->OkL (zA A)
 | [],_=>uG
 | [l],h=>eZ (wP (h l (by simp))) uG
 | l::m::A,h=>eZ (wP (h l (by simp))) (eZ (kZ (by omega)) (aE5 (m::A) (fun x D=>h x (by simp at D ⊢;exact .inr D))))
theorem aLU {c:Cm} (hb:Bys c.t) (h:gM c=true):Vt c.t/\(c.b=false->10 ∉ c.t):=by
 simp only [gM,Bool.and_eq_true,decide_eq_true_eq] at h;obtain ⟨Z,N⟩:=h;have H:Vt c.t:=aNd hb (by unfold aF;rw [if_pos Z];omega);refine ⟨H,fun S A=>?_⟩;obtain ⟨q,G,M⟩:=H
 have Y:(eU c.t).1=q:=by
  have:=aCC G;rw [pW _ G,<- M] at this;rw [this]
 rw [Y,S] at N;rw [M] at A;simp only [aQ,mem_flatMap] at A;obtain ⟨p,J,hm⟩:=A
 have D:p=10:=by
  apply Classical.byContradiction;intro F;exact aDl (all_eq_true.1 G p J) F hm
 obtain ⟨j,I,E⟩:=getElem_of_mem J;have:=all_eq_true.1 N j (mem_range.2 I);have O:q[j]?.getD 0=10:=(by rw [getElem?_eq_getElem I,E,D];rfl);simp [cAt,O,lnE] at this
theorem aJL {c:Cm} (H:Bys c.t) (h:gM c=true):OkT (qW c):=by
 obtain ⟨A,G⟩:=aLU H h;unfold qW
 split
 .refine uS (aE5 _ ?_);have D:Vt (47::42::c.t++[42,47]):=lN (lN (jK (t:=[47,42]) (by simp)) A) (jK (by simp));obtain ⟨q,I,E⟩:=D;rw [E];exact aMJ I [] nJ (by simp)
 .rename_i hf
  exact wP (vt2 (As7.vt (t:=[47,47]) (fun x F=>by simp at F;omega)) ⟨A,G (by simpa using hf)⟩)
theorem aIk {A:List Cm} (G:∀ c∈A,Bys c.t) (h:A.all gM=true):OkL (fV A):=by
 intro T F;simp only [fV,mem_flatMap] at F;obtain ⟨c,D,E⟩:=F;simp at E;rcases E with rfl | rfl
 .exact aJL (G c D) (all_eq_true.1 h c D)
 .exact kZ (by omega)
theorem aMH {A:List Cm} (G:∀ c∈A,Bys c.t) (h:A.all gM=true):OkL (jI A):=by
 intro T F;simp only [jI,mem_flatMap] at F;obtain ⟨c,D,E⟩:=F;simp at E;rcases E with rfl | rfl
 .exact kZ (by omega)
 .exact aJL (G c D) (all_eq_true.1 h c D)
theorem aIe {n} (h:fS gM oP n) (D:zM n):NdX n:=by
 obtain ⟨_,E,F,_,_,_,G,_⟩:=h;exact ⟨aIk (fun c A=>(D.l.2 c A).2) E,aMH (fun c A=>(D.t.2 c A).2) F,aLV n,aLb G⟩
def ShT:Tr->Prop
 | .leaf p=>(0<=p.k/\p.k<=5)/\p.n=0/\(p.k≠1->p.t=[])
 | .un p x=>((p.k=7/\0<=p.n)\/(p.k=8/\p.n=0))/\p.t=[]/\ShT x
 | .bin p x y=>(p.k=6\/p.k=9)/\p.t=[]/\p.n=0/\ShT x/\ShT y
def Sh (B:Int) (T:Tr):Prop:=ShT T/\kS T<=B
def ShL (B:Int) (Ts:List Tr):Prop:=∀ T∈Ts,Sh B T
theorem kI (B):ShL B []:=fun T h=>by simp at h
theorem dB {B T r} (h:Sh B T) (D:ShL B r):ShL B (T::r):=fun U A=>by
 rcases mem_cons.1 A with rfl | A
 .exact h
 .exact D U A
theorem sZ {B a b} (h:ShL B a) (D:ShL B b):ShL B (a++b):=fun U A=>by
 rcases mem_append.1 A with A | A
 .exact h U A
 .exact D U A
theorem kP {B k:Int} (A:0<=B) (h:0<=k/\k<=5):Sh B (bB k):=⟨⟨h,rfl,fun _=>rfl⟩,A⟩
theorem jR {B:Int} (A:0<=B) (t):Sh B (bS t):=⟨⟨by simp,rfl,fun h=>absurd rfl h⟩,A⟩
theorem aMC {B x y} (h:Sh B x) (A:Sh B y):Sh B (uW x y):=by
 refine ⟨⟨.inl rfl,rfl,rfl,h.1,A.1⟩,?_⟩;simp only [uW,kS]
 split
 .exact h.2
 .exact A.2
theorem aG5 {B} : ∀ (r:List Tr) (T:Tr),Sh B T->ShL B r->Sh B (r.foldl uW T)
 | [],T,h,_=>h
 | U::r,T,h,hr=>aG5 r (uW T U) (aMC h (hr U (by simp))) (fun X A=>hr X (by simp [A]))
theorem aAL {B:Int} (D:0<=B) {A} (h:ShL B A):Sh B (iZ A):=by
 cases A with
 | nil=>exact ⟨⟨by simp,rfl,fun _=>rfl⟩,D⟩
 | cons T r=>exact aG5 r T (h T (by simp)) (fun X E=>h X (by simp [E]))
theorem aGz {B A:Int} (G:0<=B) (F:0<=A) (H:B+A<=4000) {D} (h:ShL B D):Sh (B+A) (mP A D):=by
 obtain ⟨E,I⟩:=aAL G h;refine ⟨⟨.inl ⟨rfl,F⟩,rfl,E⟩,?_⟩;simp only [mP,kS];rw [if_neg (by omega)];omega
theorem aHf {B:Int} (h:0<=B):∀ A,ShL B (zA A)
 | []=>kI B
 | [l]=>dB (jR h l) (kI B)
 | l::m::A=>dB (jR h l) (dB (kP h (by omega)) (aHf h (m::A)))
theorem aJJ {B:Int} (h:0<=B) (c):Sh B (qW c):=by
 unfold qW
 split
 .exact aAL h (aHf h _)
 .exact jR h _
theorem aC7 {B:Int} (h:0<=B) (E):ShL B (fV E):=by
 intro T D;simp only [fV,mem_flatMap] at D;obtain ⟨c,F,A⟩:=D;simp at A;rcases A with rfl | rfl
 .exact aJJ h c
 .exact kP h (by omega)
theorem aGo {B:Int} (h:0<=B) (E):ShL B (jI E):=by
 intro T D;simp only [jI,mem_flatMap] at D;obtain ⟨c,F,A⟩:=D;simp at A;rcases A with rfl | rfl
 .exact kP h (by omega)
 .exact aJJ h c
theorem aK2 {B:Int} (h:0<=B) (n):ShL B (qB n):=by
 unfold qB
 split
 .exact dB (jR h _) (kI B)
 .exact kI B
theorem aLW {B:Int} (h:0<=B) {V:List Nod->Tr} (A:∀ R,Sh B (V R)):∀ R,ShL B (oE V R)
 | []=>kI B
 | n::_=>sZ (aC7 h _) (sZ (aK2 h n) (dB (A _) (kI B)))
theorem aGY {B:Int} (h:0<=B) {V:List Nod->Tr} (A:∀ R,Sh B (V R)) (P:List Nod->List Pc × List Nod) (R):∀ k,ShL B (qQ V P k R)
 | 0=>kI B
 | k+1=>by
   refine sZ (aGY h A P R k) (sZ ?_ (aLW h A _))
   split
   .exact kI B
   .exact dB (jR h _) (dB (kP h (by omega)) (kI B))
theorem aJ8 (k):0<=oV k/\oV k<=5:=by have:=aBr k;omega
theorem aFn {h:Int} (F:0<=h) (E:h<=16):∀ (d:Nat),d<=201->∀ R,Sh (h*d) (bJ h d R)
 | 0,_,_=>kP (by simp) (by omega)
 | d+1,hd,[]=>kP (Int.mul_nonneg F (by omega)) (by omega)
 | d+1,hd,n::R=>by
   have D:0<=h*(d:Int):=Int.mul_nonneg F (by omega);have e:h*((d+1:Nat):Int)=h*d+h:=by push_cast;rw [Int.mul_add,Int.mul_one]
   have H:h*(d:Int)+h<=4000:=by
    have:h*(d:Int)<=16*d:=Int.mul_le_mul_of_nonneg_right E (by omega);omega
   have A:0<=h*(d:Int)+h:=(by omega);rw [e];simp only [bJ]
   split
   .exact jR A _
   .unfold qV
    split
    .split
     .exact jR A _
     .exact aAL A (dB (jR A _) (dB (aGz D F H (aGo D _)) (dB (kP A (by omega)) (dB (jR A _) (kI _)))))
    .have G:Sh (h*d+h) (tQ h n (qQ (bJ h d) (aH h d) n.C.toNat R)):=by
      refine aAL A (dB (jR A _) (dB (aGz D F H ?_) (dB (kP A (aJ8 _)) (dB (jR A _) (kI _)))));refine dB (kP D (aJ8 _)) (sZ (aGY D (fun R=>aFn F E d (by omega) R) _ _ _) (dB ?_ (aGo D _)));exact ⟨⟨.inr rfl,rfl,rfl,(jR D _).1,(kP D (by omega)).1⟩,by simp only [aBt,kS,bS,bB];simpa using D⟩
     refine ⟨⟨.inr ⟨rfl,rfl⟩,rfl,G.1⟩,?_⟩;have:=G.2;simp only [kS];rw [if_neg (by omega)];omega
def PcT:Tr->Prop
 | .leaf p=>mX p=true
 | .un p x=>mX p=true/\PcT x
 | .bin p x y=>mX p=true/\PcT x/\PcT y
theorem aAZ:∀ (T:Tr),OkT T->ShT T->PcT T
 | .leaf p,h,⟨h1,h2,h3⟩=>by
   refine (fR p).2 ⟨⟨h1.1,by omega⟩,fun A=>?_,fun A=>by rw [h3 A];rfl,fun A=>by omega,fun _=>h2⟩;obtain ⟨D,E⟩:=h A;exact ⟨by simpa using E,aMF D⟩
 | .un p x,h,⟨h1,h2,h3⟩=>⟨(fR p).2 ⟨by omega,fun A=>by omega,fun _=>by rw [h2];rfl,fun A=>by omega,fun A=>by omega⟩,aAZ x h.2 h3⟩
 | .bin p x y,h,⟨h1,h2,h3,h4,h5⟩=>⟨(fR p).2 ⟨by omega,fun A=>by omega,fun _=>by rw [h2];rfl,fun A=>by omega,fun _=>h3⟩,aAZ x h.1 h4,aAZ y h.2 h5⟩
theorem aIr:∀ (G:List Pc) (st D:List Tr),bd G st=some D->(∀ T∈D,PcT T)->(∀ p∈G,mX p=true)/\∀ T∈st,PcT T
 | [],st,D,h,A=>by simp [bd] at h;subst h;exact ⟨by simp,A⟩
 | p::G,st,D,h,A=>by
   simp only [bd] at h;obtain ⟨J,E,M⟩:=Option.bind_eq_some_iff.1 h;obtain ⟨I,F⟩:=aIr G J D M A
   have:mX p=true/\∀ T∈st,PcT T:=by
    unfold dC at E
    split at E
    .cases E;exact ⟨F (.leaf p) (by simp),fun T A=>F T (by simp [A])⟩
    .split at E
     .split at E
      .cases E;obtain ⟨a,b⟩:=F _ (mem_cons_self ..);exact ⟨a,fun T A=>by rcases mem_cons.1 A with rfl | A;exact b;exact F T (by simp [A])⟩
      .cases E
     .split at E
      .cases E;obtain ⟨a,b,c⟩:=F _ (mem_cons_self ..);exact ⟨a,fun T A=>by simp only [mem_cons] at A;rcases A with rfl | rfl | A;exact c;exact b;exact F T (by simp [A])⟩
      .cases E
   exact ⟨fun q H=>by rcases mem_cons.1 H with rfl | H;exact this.1;exact I q H,this.2⟩
section
open Go.RowKit
def pF (it:iF):Prop:=okN it.T/\it.ind+dO it.T<=4000
theorem mQ (D A):∀ (f:Nat) (Y:List iF) (F I:List Int) (J:Int) (o m:List Int),(∀ G∈Y,pF G)->lay D A f Y F I J=some (o,m)->o.length<=F.length+4001*szs (trs Y)
 | 0,_,_,_,_,_,_,_,h=>by simp [lay] at h
 | f+1,[],F,I,J,o,m,_,h=>by simp only [lay,Option.some.injEq,Prod.mk.injEq] at h;rw [h.1];omega
 | f+1,⟨.leaf p,n,ind⟩::rest,F,I,J,o,m,hi,h=>by
   simp only [lay] at h;rw [aR];simp only [szs,sz];have M:∀ G∈rest,pF G:=fun G hit=>hi G (mem_cons_of_mem _ hit);have O:=(hi ⟨.leaf p,n,ind⟩ (by simp)).2;simp only [dO] at O;have a7:=aES ind (by omega)
   split at h
   .have:=mQ D A f _ _ _ _ _ _ M h;rw [length_append] at this;omega
   .split at h
    .have:=mQ D A f _ _ _ _ _ _ M h;simp only [length_append,length_cons,length_nil] at this;omega
    .split at h
     .have:=mQ D A f _ _ _ _ _ _ M h;rw [length_append] at this;omega
     .have:=mQ D A f _ _ _ _ _ _ M h;omega
 | f+1,⟨.bin p x y,n,ind⟩::rest,F,I,J,o,m,hi,h=>by
   simp only [lay] at h;rw [aR];simp only [szs,sz];have M:∀ G∈rest,pF G:=fun G hit=>hi G (mem_cons_of_mem _ hit);have O:=hi ⟨.bin p x y,n,ind⟩ (by simp);simp only [pF,okN,dO] at O;have Z:pF ⟨x,n,ind⟩:=⟨O.1.1,by simp only;omega⟩;have hy:pF ⟨y,n+aP x,ind⟩:=⟨O.1.2,by simp only;omega⟩
   split at h
   .have:=mQ D A f _ _ _ _ _ _ (fun G hit=>by
     rcases mem_cons.1 hit with rfl | hit
     .exact Z
     .rcases mem_cons.1 hit with rfl | hit
      .exact hy
      .exact M G hit) h
    rw [aR,aR] at this;simp only [szs] at this;omega
   .have:=mQ D A f _ _ _ _ _ _ (fun G hit=>by
     rcases mem_cons.1 hit with rfl | hit
     .exact Z
     .exact M G hit) h
    rw [aR] at this;simp only [szs] at this;omega
 | f+1,⟨.un p x,n,ind⟩::rest,F,I,J,o,m,hi,h=>by
   simp only [lay] at h;rw [aR];simp only [szs,sz];have M:∀ G∈rest,pF G:=fun G hit=>hi G (mem_cons_of_mem _ hit);have O:=hi ⟨.un p x,n,ind⟩ (by simp);simp only [pF,okN,dO] at O;have a2:pF ⟨x,n,ind+p.n⟩:=⟨O.1.2,by simp only;omega⟩;have Z:pF ⟨x,n,ind⟩:=⟨O.1.2,by simp only;omega⟩
   have a1:∀ i,pF ⟨x,n,i⟩->∀ G∈(⟨x,n,i⟩:iF)::rest,pF G:=fun i hh G hit=>by
    rcases mem_cons.1 hit with rfl | hit
    .exact hh
    .exact M G hit
   have H:∀ i (oo mm:List Int) (c:Int),pF ⟨x,n,i⟩->lay D A f (⟨x,n,i⟩::rest) oo mm c=some (o,m)->oo.length<=F.length->o.length<=F.length+4001*(p.t.length+1+sz x+szs (trs rest)):=fun i oo mm c hh hq hl=>by
    have:=mQ D A f _ _ _ _ _ _ (a1 i hh) hq;rw [aR] at this;simp only [szs] at this;omega
   have S:∀ (E mm:List Int) (c:Int),aD x []=some E->lay D A f rest (F++E) mm c=some (o,m)->o.length<=F.length+4001*(p.t.length+1+sz x+szs (trs rest)):=fun E mm c N hq=>by
    have:=mQ D A f _ _ _ _ _ _ M hq;have hl:=kB x [] E N;simp only [length_append,length_nil] at this hl;omega
   split at h
   .exact H _ _ _ _ a2 h (Nat.le_refl _)
   .cases A with
    | none=>
      simp only at h;cases N:aD x [] with
      | none=>
        rw [N] at h;exact H _ _ _ _ Z h (Nat.le_refl _)
      | some E=>
        rw [N] at h;simp only at h
        split at h
        .exact S E _ _ N h
        .exact H _ _ _ _ Z h (Nat.le_refl _)
    | some gs=>
      simp only at h
      split at h
      .cases N:aD x [] with
       | none=>rw [N] at h;cases h
       | some E=>
         rw [N] at h;exact S E _ _ N h
      .split at h
       .exact H _ _ _ _ Z h (Nat.le_refl _)
       .cases h
end
def uI (width ind:Int) (t:Tre):List Int:=
 match t.N with
 | []=>[]
 | n::R=>((aS n.L 0++LX width (bJ ind 201 (n::R)) 0 (aS n.L 0) 0)++[10])++aS t.tail 0
theorem aBm {t} (h:Vt t):Bys t:=by
 obtain ⟨q,D,rfl⟩:=h;intro x A;simp only [aQ,mem_flatMap] at A;obtain ⟨p,E,A⟩:=A;have F:=aGi (all_eq_true.1 D p E)
 by_cases a:p<128
 .rw [yQ p a] at A;simp at A;omega
 .by_cases b:p<2048
  .rw [aF0 p a b] at A;simp at A;omega
  .by_cases c:p<65536
   .rw [aFi p b c] at A;simp at A;omega
   .rw [aFx p c] at A;simp at A;omega
def ByT:Tr->Prop
 | .leaf p=>Bys p.t
 | .un p x=>Bys p.t/\ByT x
 | .bin p x y=>Bys p.t/\ByT x/\ByT y
theorem aC5:Bys []:=fun z h=>by simp at h
theorem aBo:∀ (T:Tr),OkT T->ShT T->ByT T
 | .leaf p,h,⟨_,_,h3⟩=>by
   by_cases A:p.k=1
   .exact aBm (h A).1
   .show Bys p.t
    rw [h3 A];exact aC5
 | .un p x,h,⟨_,h2,h3⟩=>⟨by rw [h2];exact aC5,aBo x h.2 h3⟩
 | .bin p x y,h,⟨_,h2,_,h4,h5⟩=>⟨by rw [h2];exact aC5,aBo x h.1 h4,aBo y h.2 h5⟩
theorem aI0:∀ (G:List Pc) (st D:List Tr),bd G st=some D->(∀ T∈D,ByT T)->(∀ p∈G,Bys p.t)/\∀ T∈st,ByT T
 | [],st,D,h,A=>by simp [bd] at h;subst h;exact ⟨by simp,A⟩
 | p::G,st,D,h,A=>by
   simp only [bd] at h;obtain ⟨J,E,M⟩:=Option.bind_eq_some_iff.1 h;obtain ⟨I,F⟩:=aI0 G J D M A
   have:Bys p.t/\∀ T∈st,ByT T:=by
    unfold dC at E
    split at E
    .cases E;exact ⟨F (.leaf p) (by simp),fun T A=>F T (by simp [A])⟩
    .split at E
     .split at E
      .cases E;obtain ⟨a,b⟩:=F _ (mem_cons_self ..);exact ⟨a,fun T A=>by rcases mem_cons.1 A with rfl | A;exact b;exact F T (by simp [A])⟩
      .cases E
     .split at E
      .cases E;obtain ⟨a,b,c⟩:=F _ (mem_cons_self ..);exact ⟨a,fun T A=>by simp only [mem_cons] at A;rcases A with rfl | rfl | A;exact c;exact b;exact F T (by simp [A])⟩
      .cases E
   exact ⟨fun q H=>by rcases mem_cons.1 H with rfl | H;exact this.1;exact I q H,this.2⟩
theorem aDJ:∀ (A:List Pc) (p:Pc),p∈A->(p.t.length:Int)<=cR A
 | [],p,h=>by simp at h
 | q::A,p,h=>by
   simp only [cR];rcases mem_cons.1 h with rfl | h
   .have:=fW A;omega
   .have:=aDJ A p h;omega
theorem aIb:aO 0=[10]:=rfl
theorem aKD {width} {n:Nod} {V tail} (E:OkT V) (H:OkL (fV n.L)) :
  (ly width (iZ (fV n.L++(V::bB 4::fV tail))) 0 0 0).1=((aS n.L 0++LX width V 0 (aS n.L 0) 0)++[10])++aS tail 0:=by
 have F:Cu []:=nJ;have M:fJ []=0:=(by have:=kW (q:=[]) rfl;simpa [aQ,fJ,gN] using this);have h:(ly width (iZ (fV n.L++(V::bB 4::fV tail))) 0 0 0).1=LX width (iZ (fV n.L++(V::bB 4::fV tail))) 0 [] 0:=(by unfold LX;rw [M]);have G:∀ o b,LXL width (fV n.L) 0 o b=aS n.L 0:=fun o b=>aC3 _ _ _ _ _;have I:∀ o b,LXL width (fV tail) 0 o b=aS tail 0:=fun o b=>aC3 _ _ _ _ _;rw [h,aFk,vP H (Int.le_refl 0) F,G,nil_append];have D:=(vD (width:=width) (b:=0) (Int.le_refl 0) H F).2;rw [G,nil_append] at D;have A:bhL (bB 4::fV tail) 0=0:=(by simp only [bhL,zT (.inr (.inr rfl))]);rw [kK E (Int.le_refl 0) D,A];have J:=(qA (width:=width) (b:=0) E (Int.le_refl 0) D).2;rw [kK (kZ (by omega)) (Int.le_refl 0) J,aCZ width (.inr (.inr rfl)),aIb,I];simp only [append_assoc]
theorem aLo {D A:Int} {t} (hi:0<=A) (b4:A<=16) (b8:0<=D) (b6:D<=65535) (hl:eK (eM A t)=false) (O:∀ p∈t.N,fS gM oP p) (b2:∀ p∈t.N,zM p) (b5:t.tail.all gM=true) (b3:∀ c∈t.tail,Bys c.t) (J:aE bD 201 false (t.N,())=some ([],())) :
  (∃ a8,fL (eM A t) D=some (uI D A t,a8))/\Doc (eM A t)/\(uI D A t).length<=560140000:=by
 obtain ⟨n,R,hR⟩:=wQ J
 have H:∀ p∈t.N,p.k<5->p.C=0:=fun p M hk=>by
  obtain ⟨_,_,_,_,_,_,_,_,_,h,_⟩:=O p M;exact (h hk).1
 have hx:∀ p∈t.N,NdX p:=fun p M=>aIe (O p M) (b2 p M);have hV:=aDr hi 201 false _ _ J H hx;have hB:=aDU A 201 false _ _ J H;have a5:=aFn hi b4 201 (Nat.le_refl _) t.N;have hn:=hx n (by rw [hR];simp);have a6:=aIk b3 b5;have G:0<=A*((201:Nat):Int):=(by omega);have Y:eM A t=eR (bT n.L++((aH A 201 t.N).1::aM 4::bT t.tail)):=by unfold eM;rw [hR]
 have a1:Bl (eM A t) (iZ (fV n.L++(bJ A 201 t.N::bB 4::fV t.tail))):=by
  rw [Y];exact yP ((aDH _).app (.cons hB (.cons (kJ 4 (by simp [ar])) (aDH _))))
 have I:OkT (iZ (fV n.L++(bJ A 201 t.N::bB 4::fV t.tail))):=uS (aDj hn.bef (eZ hV (eZ (kZ (by omega)) a6)));have F:Sh (A*((201:Nat):Int)) (iZ (fV n.L++(bJ A 201 t.N::bB 4::fV t.tail))):=aAL G (sZ (aC7 G _) (dB a5 (dB (kP G (by omega)) (aC7 G _))));have a2:=aKD (width:=D) (n:=n) (tail:=t.tail) hV hn.bef;have c1:uI D A t=((aS n.L 0++LX D (bJ A 201 t.N) 0 (aS n.L 0) 0)++[10])++aS t.tail 0:=(by unfold uI;rw [hR]);generalize iZ (fV n.L++(bJ A 201 t.N::bB 4::fV t.tail))=T at a1 I F a2;have E:bd (eM A t) []=some [T]:=a1 [];have b0:=(aIr _ _ _ E (fun U hU=>by simp at hU;subst hU;exact aAZ _ I F.1)).1;have a4:=(aI0 _ _ _ E (fun U hU=>by simp at hU;subst hU;exact aBo _ I F.1)).1;simp only [eK,Bool.or_eq_false_iff,decide_eq_false_iff_not] at hl;have Z:eM A t≠[]:=fun e=>by rw [e] at E;simp [bd] at E
 have a3:1<=(eM A t).length:=length_pos_iff.2 Z
 have b7:(cI (eM A t)).length=(eM A t).length:=by
  rcases yM _ Z with ⟨h,_⟩ | ⟨_,h⟩
  .exact h
  .exact absurd E (h T)
 have a7:kS T<=4000:=by have:=F.2;omega
 have hv:eS (eM A t)=true:=by
  simp only [eS,Bool.and_eq_true,decide_eq_true_eq,E];exact ⟨⟨⟨⟨⟨a3,by omega⟩,all_eq_true.2 b0⟩,by omega⟩,b7⟩,a7⟩
 obtain ⟨f1,f2,f3⟩:=aAn hv E;obtain ⟨r,hr⟩:=mJ D (szs (trs [⟨T,0,0⟩])+1) [⟨T,0,0⟩] [] (replicate (grp (eM A t) (eM A t).length) 0) 0 (by omega)
 have b9:fL (eM A t) D=some r:=by
  unfold fL;rw [if_pos ⟨hv,b8,b6⟩,E];exact hr
 have S:r.1=uI D A t:=by
  have:=nU D _ _ _ _ _ _ hr;simp only [lyS,map_nil,dZ,append_nil,nil_append] at this;rw [this,a2,c1]
 have b1:=aGr _ _ _ E;simp only [szs] at b1;refine ⟨⟨r.2,by rw [b9,<- S]⟩,⟨by omega,fun p M=>by have:=aDJ _ p M;omega,by omega,a4⟩,?_⟩;have ho:=mQ D none _ _ _ _ _ r.1 r.2 (fun it hit=>by simp at hit;subst hit;exact ⟨f1,by simpa using f2⟩) hr;have hz:szs (trs [⟨T,0,0⟩])=sz T:=(by simp [trs,szs]);rw [hz] at ho;rw [<- S];simp at ho;omega
section
open Go.RowKit
theorem aGq:∀ h,(wC h:Int)=4*bY h+30*h.length
 | []=>by simp [wC,bY]
 | c::h=>by have:=aGq h;simp only [wC,bY,length_cons];push_cast;omega
theorem aH2:∀ A,(wNs A:Int)<=100*A.length+6*fU A+30*gK A
 | []=>by simp [wNs,fU,gK]
 | n::A=>by
   have h:=aH2 A;have E:=aGq n.L;have F:=aGq n.tail;have G:=bN n.L;have D:=bN n.tail;simp only [wNs,wN,fU,gK,nr,nc,length_cons]
   push_cast
   omega
structure VF (t:Tre):Prop where
 d:kU t
 wt:wC t.tail<=2000000
 w:wNs t.N+wC t.tail<=3000000
 wk:aE bD 201 false (t.N,())=some ([],())
 tl:t.tail.all gM=true
 tb:zI t.tail
theorem uX (t) (E:aE4 t) (h:cZ t=true):VF t:=by
 rw [<- aCx t E] at h;unfold mN at h;simp only [Bool.and_eq_true,decide_eq_true_eq] at h;obtain ⟨h1,M,⟨h3,O⟩,I,G,H⟩:=h
 have A:∀ R,iK t.N.length 201 false t.N=some R->R.length<=t.N.length:=fun R J=>by
  obtain ⟨i,hi,rfl⟩:=uN t.N.length 201 false t.N (Nat.le_refl _) 0 R (by simpa using J);simp
 rw [aCa _ _ A] at H;have F:=qY t.N.length 201 false t.N (Nat.le_refl _);rw [H] at F;have Y:=iR t.N;have a2:=iH t.N;have Z:=bN t.tail;have b1:=aGq t.tail;have S:=aH2 t.N;rw [all_eq_true] at G;exact ⟨⟨M,fun p D=>(rL p).1 (G p D),fun p D=>(E.n p D).1,fun p D=>(E.n p D).2,by omega⟩,by omega,by omega,F.symm,I,E.t.2⟩
def ftR (vv:Bool) (width ind:Int) (t:Tre):List Int × Int:=if vv=true/\(0<=width/\width<=65535)/\0<=ind/\ind<=16 then (if eK (eM ind t)=true then ([],4) else (uI width ind t,0)) else ([],1)
theorem aJp {A D:Int} {t} (h:VF t) (J:0<=D) (F:D<=16) (E:0<=A) (G:A<=65535) (M:eK (eM D t)=false):(∃ H,fL (eM D t) A=some (uI A D t,H))/\Doc (eM D t)/\(uI A D t).length<=560140000:=
 aLo J F E G M h.d.nd h.d.ok h.tl (fun c I=>(h.tb c I).2) h.wk
theorem aHE {h t} (A:eK (eM h t)=false):mes (eM h t)<=140000:=by
 simp only [eK,Bool.or_eq_false_iff,decide_eq_false_iff_not] at A;have:=xB (eM h t);omega
theorem rS (h):bW h<=mes (eR h)+1:=by
 cases h with
 | nil=>simp [bW]
 | cons ds h=>simp only [eR,fM,aAG,bW];omega
theorem zB (P:List Nod->List Pc × List Nod) (R):∀ (k j:Nat) (p:Nod) (A:List Nod),j<k->bE P j R=p::A->mes (P (p::A)).1+bW (bT p.L)+bW (mK p)+1<=bW (itK P k R)
 | k+1,j,p,A,hj,hr=>by
   simp only [itK,cS]
   by_cases h:j=k
   .subst h;rw [hr];simp only [jF,cS,bW];omega
   .have:=zB P R k j p A (by omega) hr;omega
theorem aHc {ind d} {n p:Nod} {R} {h:List Nod} {j:Nat} (E:¬ n.k<5) (A:n.C≠0) (D:j<n.C.toNat) (H:bE (aH ind d) j R=p::h) :
  mes (aH ind d (p::h)).1+bW (bT p.L)+bW (mK p)+1<=mes (aH ind (d+1) (n::R)).1:=by
 have I:=zB (aH ind d) R _ j p h D H;simp only [aH,if_neg E,lD,if_neg A];have F:=rS (pU n.k (itK (aH ind d) n.C.toNat R) n.tail);have G:=rS [aI [jW n.k],iE ind (pU n.k (itK (aH ind d) n.C.toNat R) n.tail),aM (oV n.k),aI [kH n.k]];simp only [bW,fM,iE,mes,pU,cS] at F G ⊢;omega
theorem aJQ {A T} (h:Bl A T):(sz T:Int)=mes A:=by
 have:=aGr A [] [T] (h []);simp only [szs] at this;rw [xB];omega
theorem aGm (p):(iL p).length<=bW (mK p):=by
 unfold iL mK
 split
 .simp only [bW,aI,mes];omega
 .simp
def iU (w:World) (r:Option (List Int)) (e:Ending) (w':World):Prop:=
 match r with
 | some s=>∃ v,e=.returned (.tuple #[v,.bool true])/\Bw w.heap.size w' v s/\w.grownBy w' none
 | none=>∃ a n c,e=.returned (.tuple #[.slice a n c,.bool false])/\w.grownBy w' none
end
open Go.RowKit
attribute [-go_sem] Builtin.append_
theorem aCj {ind:Int} {t} (Z:0<=ind) (S:ind<=16) (hD:kU t) (hx:∀ p∈t.N,NdX p) {d:Nat} {j} (hd:d<=201) {m} {R2:List Nod} (hw:aE bD d m (t.N.drop j,())=some (R2,())) (hM:mes (aH ind d (t.N.drop j)).1<=150000) :
  Bl (aH ind d (t.N.drop j)).1 (bJ ind d (t.N.drop j))/\OkT (bJ ind d (t.N.drop j))/\Doc (aH ind d (t.N.drop j)).1/\(∀ p∈(aH ind d (t.N.drop j)).1,mX p=true)/\Seg (aH ind d (t.N.drop j)).1 (cI (aH ind d (t.N.drop j)).1) (bJ ind d (t.N.drop j)) 0 (aH ind d (t.N.drop j)).1.length/\sz (bJ ind d (t.N.drop j))<=150000:=by
 have D:∀ p∈t.N.drop j,p.k<5->p.C=0:=fun p G hk=>by
  obtain ⟨_,_,_,_,_,_,_,_,_,h,_⟩:=hD.nd p (mem_of_mem_drop G);exact (h hk).1
 have J:=aDU ind d m _ _ hw D;have I:=aDr Z d m _ _ hw D (fun p G=>hx p (mem_of_mem_drop G));have hS:=aFn Z S d hd (t.N.drop j);have hz:=aJQ J;have a2:=xB (aH ind d (t.N.drop j)).1;generalize (aH ind d (t.N.drop j)).1=doc at *;generalize bJ ind d (t.N.drop j)=T at *;have A:bd doc []=some [T]:=J [];have O:=(aIr _ _ _ A (fun U F=>by simp at F;subst F;exact aAZ _ I hS.1)).1;have H:=(aI0 _ _ _ A (fun U F=>by simp at F;subst F;exact aBo _ I hS.1)).1;have M:doc≠[]:=fun e=>by rw [e] at A;simp [bd] at A
 have a3:=fW doc
 have E:Seg doc (cI doc) T 0 doc.length:=by
  rcases yM _ M with ⟨_,T',Y,h2⟩ | ⟨_,h⟩
  .rw [A] at Y;simp at Y;subst Y;exact h2
  .exact absurd A (h T)
 exact ⟨J,I,⟨by omega,fun p G=>by have:=aDJ _ p G;omega,by omega,H⟩,O,E,by omega⟩
theorem aJw (t) (hD:kU t) (hx:∀ p∈t.N,NdX p) (d:Nat) (hd:d+1<=201) (i:Nat) (hi:i<t.N.length) (m) (R2:List Nod) (hw:aE bD (d+1) m (t.N.drop i,())=some (R2,())) (hb:t.N[i].k<5\/t.N[i].C=0) (hM:mes (aH 0 (d+1) (t.N.drop i)).1<=150000) (nv tv) (w:World) (hv:eV w.heap.size w nv tv t) :
  Calls prog 47 #[.agg #[nv,tv],.int .i64 i] w fun e w'=>iU w (aD (bJ 0 (d+1) (t.N.drop i)) []) e w':=by
 obtain ⟨hB,hO,H,b5,a1,i9⟩:=aCj (ind:=0) (Int.le_refl 0) (by omega) hD hx hd hw hM;have a2:Hid (∀ W:World,w.grownBy W none->_):=fun W (g:w.grownBy W none)=>oF t 0 hD (d+1) (by omega) i R2 m nv tv W hi hw ⟨(hv.1.K g).wide g.size,(hv.2.K g).wide g.size⟩;have Y:Hid (∀ va sv B,_):=fun va sv B=>pV va sv B _ _ H b5 _ _ _ a1;have i8:=H.len;generalize (aH 0 (d+1) (t.N.drop i)).1=doc at *;generalize bJ 0 (d+1) (t.N.drop i)=T at *;obtain ⟨a8,d3⟩:=id hv;obtain ⟨na,c9,f7,_⟩:=id a8;obtain ⟨ta,d0,g9,_⟩:=id d3;obtain ⟨b,g2,h8,lv,kv,xv,uv,qv,h3,k1,G⟩:=a8.at i hi;have k8:=hD.cn _ (getElem_mem hi);have k7:=(hD.nd _ (getElem_mem hi)).1;have f1:=hD.len;have z0:=G.k;have z1:=G.L;have z2:=G.mem;have z3:=G.key;have z4:=G.X;have z5:=G.U;have z6:=G.C;have z7:=G.tail;obtain ⟨la,d2,g6,_,_⟩:=G.rl.sl;obtain ⟨qa,c8,h2,_,_⟩:=G.rt.sl;obtain ⟨ka,b6,f9,_,_⟩:=G.sk;obtain ⟨xa,d1,f4,_,_⟩:=G.sx;obtain ⟨ua,b9,d9,_,_⟩:=G.su;subst g6 h2 f9 f4 d9 h3 g9;cases f7;clear a8 d3 hv G hB hO H b5 a1 hD hx hw;generalize t.N[i]=p at *;obtain ⟨wA,c2⟩:∃ wA,wA=w.alloc (Obj.cells #[.slice (some ⟨b,g2,none⟩) t.N.length c9,.slice ta t.tail.length d0] 26):=⟨_,rfl⟩;have S:w.grownBy wA none:=(by rw [c2];exact gWA);have m0:=S.cell z0 (by simp);have j5:=S.cell z1 (by simp);have k5:=S.cell z2 (by simp);have k4:=S.cell z3 (by simp);have k3:=S.cell z4 (by simp);have l3:=S.cell z5 (by simp);have l5:=S.cell z6 (by simp);have k9:=S.cell z7 (by simp);obtain ⟨W3,D⟩:∃ W3,W3=wA.alloc (Obj.cells #[.int .i64 p.k,.slice la p.L.length d2,.bool p.mem,.slice ka p.key.length b6,.slice xa p.X.length d1,.slice ua p.U.length b9,.int .i64 p.C,.slice qa p.tail.length c8] 49):=⟨_,rfl⟩;have gg:w.grownBy W3 none:=(by rw [D];exact aA S gWA);have HX:=aB (a2.out W3 gg);have GG:=aB gg;have c3:=aB D;rw [D] at HX;clear D gg a2 z0 z1 z2 z3 z4 z5 z6 z7 S;subst c2;have l0:(decide (p.k<5)||(p.C==0))=true:=by rcases hb with h | h<;>simp [h]
 by_cases h5:p.k<5
 .have f6:decide (p.k<5)=true:=by simpa using h5
  go_enter func47,ntmps47
  go_wp2_with fail
  refine HX.out.mono ?_;rintro e w4 ⟨v4,rfl,Z,g4⟩;have D:=c3.out;rw [<- D] at Z g4;clear D;have F:=aB Z.pi.rdP;have M:=aB (xJ v4 doc w4 F.out (by omega));obtain ⟨a4,c4,b3,_,_⟩:=Z.sl;have G4:=aB (aA GG.out g4);subst b3;clear Z g4 HX
  go_wp2_with fail
  refine M.out.mono ?_;rintro e w5 ⟨v5,rfl,o5,g5⟩;have HF:=aB (Y.out (.slice a4 doc.length c4) v5 w5.heap.size w5 (.slice none 0 0) [] (Nat.le_refl _) ((F.out.K g5).wide g5.size) o5.rd ⟨by simp,.inl ⟨rfl,rfl⟩⟩ (by simp;omega));obtain ⟨a5,c5,O,_,_⟩:=o5.sl;have G5:=aB (aA G4.out g5);generalize (cI doc).length=SL at O;subst O;clear o5 g5 Y M F
  go_wp2_with fail
  refine HF.out.mono ?_;rintro e w6 ⟨E,I⟩;have G6:=aB (aA G5.out (aC E));have a3:=G5.out.size;clear HF E;cases A:aD T [] with
  | none=>
    rw [A] at I;simp only at I;subst I;have HE:=aB A;clear A;go_wp2;go_ret2;rw [HE.out];exact ⟨none,0,0,rfl,G6.out⟩
  | some o=>
    rw [A] at I;obtain ⟨v6,rfl,o6⟩:=I;obtain ⟨a6,c6,J,_,_⟩:=o6.sl;have a7:=aB (gP a3 o6);generalize o.length=OL at J;subst J;have HE:=aB A;clear A o6;go_wp2;go_ret2;rw [HE.out];exact ⟨_,rfl,.inl a7.out,G6.out⟩
 .have f6:decide (p.k<5)=false:=(by simpa using h5);have b7:p.C=0:=(by rcases hb with h | h;exact absurd h h5;exact h);have h9:(p.C==0)=true:=(by simpa using b7);clear b7 hb
  go_enter func47,ntmps47
  go_wp2_with fail
  refine HX.out.mono ?_;rintro e w4 ⟨v4,rfl,Z,g4⟩;have D:=c3.out;rw [<- D] at Z g4;clear D;have F:=aB Z.pi.rdP;have M:=aB (xJ v4 doc w4 F.out (by omega));obtain ⟨a4,c4,b3,_,_⟩:=Z.sl;have G4:=aB (aA GG.out g4);subst b3;clear Z g4 HX
  go_wp2_with fail
  refine M.out.mono ?_;rintro e w5 ⟨v5,rfl,o5,g5⟩;have HF:=aB (Y.out (.slice a4 doc.length c4) v5 w5.heap.size w5 (.slice none 0 0) [] (Nat.le_refl _) ((F.out.K g5).wide g5.size) o5.rd ⟨by simp,.inl ⟨rfl,rfl⟩⟩ (by simp;omega));obtain ⟨a5,c5,O,_,_⟩:=o5.sl;have G5:=aB (aA G4.out g5);generalize (cI doc).length=SL at O;subst O;clear o5 g5 Y M F
  go_wp2_with fail
  refine HF.out.mono ?_;rintro e w6 ⟨E,I⟩;have G6:=aB (aA G5.out (aC E));have a3:=G5.out.size;clear HF E;cases A:aD T [] with
  | none=>
    rw [A] at I;simp only at I;subst I;have HE:=aB A;clear A;go_wp2;go_ret2;rw [HE.out];exact ⟨none,0,0,rfl,G6.out⟩
  | some o=>
    rw [A] at I;obtain ⟨v6,rfl,o6⟩:=I;obtain ⟨a6,c6,J,_,_⟩:=o6.sl;have a7:=aB (gP a3 o6);generalize o.length=OL at J;subst J;have HE:=aB A;clear A o6;go_wp2;go_ret2;rw [HE.out];exact ⟨_,rfl,.inl a7.out,G6.out⟩
theorem aKr (w:World) (x:Int):Bw w.heap.size (w.alloc (Obj.cells #[.int .u8 x] 5 (1,2))) (.slice (some ⟨w.heap.size,0,none⟩) 1 1) [x]:=by
 refine .inr ⟨w.heap.size,rfl,Nat.le_refl _,by simp,by simp,fun j h=>?_⟩;have:=cell?_alloc_mark w #[.int .u8 x] 5 (1,2) j;rw [this]
 match j,h with
 | 0,_=>rfl
theorem aCf {V:List Nod->Tr} {P:List Nod->List Pc × List Nod} {R} : ∀ (k j:Nat),j<=k->nY V P R j=none->nY V P R k=none
 | 0,j,hj,h=>by obtain rfl:j=0:=by omega
                exact h
 | k+1,j,hj,h=>by
   by_cases e:j=k+1
   .subst e;exact h
   .simp only [nY,aCf k j (by omega) h,Option.bind_none]
end Go.Proofs.YtckcaefnokeodaaGreatDoor
