import Derived.Lib.BufferMore
import Derived.Deep.Slices
import Derived.Laws.BytesArg
import Derived.Laws.IdiomStrings
import Derived.Test.YtckcaefnokeodaaGreatDoorMAC
import Derived.Test.YtckcaefnokeodaaGreatDoorMAE
set_option maxHeartbeats 16000000
set_option maxRecDepth 100000
namespace Go.Proofs.YtckcaefnokeodaaGreatDoor
open Go.Proofs.Tryz List World
section
open Go.RowKit
def nZ (n:Int):Int:=if n<10 then 48+n else 87+n
def dN (p:Int):List Int:=[92,117,nZ (p / 4096%16),nZ (p / 256%16),nZ (p / 16%16),nZ (p%16)]
def nQ (p:Int):Bool:=decide (p<32)||decide (p=127)||decide (p=8232)||decide (p=8233) || !cC p
def qU (p:Int):List Int:=
 if p=8 then [92,98] else if p=12 then [92,102] else if p=10 then [92,110] else if p=13 then [92,114] else if p=9 then [92,116]
 else if p=34 then [92,34] else if p=92 then [92,92] else []
def gG (p:Int):List Int:=if qU p≠[] then qU p else if nQ p then dN p else enc p
def kA (ps:List Int):List Int:=ps.flatMap gG
def quR (us:List Int):List Int × Int:=if (fuR us).2=0 then (34::kA (fuR us).1++[34],0) else ([],(fuR us).2)
theorem aHw (p):(qU p).length<=2:=by
 unfold qU
 repeat' split
 all_goals simp
theorem aI1 (p):(gG p).length<=6:=by
 unfold gG;have A:=aHw p;have h:=xF p
 split
 .omega
 .split
  .simp [dN]
  .omega
theorem aA8 (h):(kA h).length<=6*h.length:=by
 induction h with
 | nil=>simp [kA]
 | cons p h ih=>
   have:=aI1 p;simp only [kA,flatMap_cons,length_append,length_cons] at ih ⊢;omega
theorem aCH (h:List Int) (k:Nat) (A:k<h.length):kA (h.take (k+1))=kA (h.take k)++gG (h[k]?.getD 0):=by
 rw [dM h k A];simp [kA]
def aBM:ByteArray:={ data:=#[48,49,50,51,52,53,54,55,56,57,97,98,99,100,101,102] }
theorem aIN (n:Nat) (h:n<16) (W:World):(Instr.index 9 (.string aBM) (.int .i32 (n:Int))).run prog W=.ok (.int .u8 (nZ n)) W:=by
 rw [run_index_string W 9 aBM .i32 (n:Int) underlying9];have A:aBM.size=16:=rfl;rw [dif_pos ⟨by omega,by rw [A];omega⟩];congr 2
 match n,h with
 | 0,_=>rfl
 | 1,_=>rfl
 | 2,_=>rfl
 | 3,_=>rfl
 | 4,_=>rfl
 | 5,_=>rfl
 | 6,_=>rfl
 | 7,_=>rfl
 | 8,_=>rfl
 | 9,_=>rfl
 | 10,_=>rfl
 | 11,_=>rfl
 | 12,_=>rfl
 | 13,_=>rfl
 | 14,_=>rfl
 | 15,_=>rfl
 | n+16,h=>omega
theorem aH8 (n:Nat) (h:n<16) (W:World):(Instr.index 9 (.string aBM) (.int .i64 (n:Int))).run prog W=.ok (.int .u8 (nZ n)) W:=by
 have:=aIN n h W;rw [run_index_string W 9 aBM _ (n:Int) underlying9] at this ⊢;have A:aBM.size=16:=rfl;rw [dif_pos ⟨by omega,by rw [A];omega⟩] at this ⊢;exact this
theorem aGF (p:Int) (h:0<=p) (A:p<2147483648):bits .and .i32 p 15=p%16:=oZ 4 (by omega) p h A
theorem aNf (p:Int) (W:World):(Instr.index 9 (.string aBM) (.int .i32 (p%16))).run prog W=.ok (.int .u8 (nZ (p%16))) W:=by
 obtain ⟨n,h⟩:=Int.eq_ofNat_of_zero_le (show 0<=p%16 by omega);rw [h];exact aIN n (by omega) W
theorem aLl (p:Int) (W:World):(Instr.index 9 (.string aBM) (.int .i64 (p%16))).run prog W=.ok (.int .u8 (nZ (p%16))) W:=by
 obtain ⟨n,h⟩:=Int.eq_ofNat_of_zero_le (show 0<=p%16 by omega);rw [h];exact aH8 n (by omega) W
end
def aM (k:Int):List Pc:=[⟨k,[],0⟩]
def aI (t:List Int):List Pc:=[⟨1,t,0⟩]
def wV:Pc:=⟨6,[],0⟩
def jM (dss:List (List Pc)):List Pc:=dss.flatMap fun ds=>ds++[wV]
def eR:List (List Pc)->List Pc
 | []=>aM 0
 | ds::dss=>ds++jM dss
theorem aCp (h:List (List Pc)) (A:List Pc):jM (h++[A])=jM h++(A++[wV]):=by simp [jM]
def spl:List Int->List Int->List (List Int)
 | cur,[]=>[cur]
 | cur,x::xs=>if x=10 then cur::spl [] xs else spl (cur++[x]) xs
theorem aH4 (h A:List Int):spl h A≠[]:=by
 induction A generalizing h with
 | nil=>simp [spl]
 | cons x A ih=>simp only [spl];split<;>simp [ih]
def tK:List (List Int)->List (List Pc)
 | []=>[]
 | [l]=>[aI l]
 | l::ls=>aI l::aM 5::tK ls
def sF (ls:List (List Int)):List (List Pc):=ls.flatMap fun l=>[aM 5,aI l]
theorem aIz:∀ (l:List Int) (h:List (List Int)),tK (l::h)=aI l::sF h
 | l,[]=>rfl
 | l,m::h=>by simp only [tK,aIz m h];simp [sF]
def kC (c:Cm):List Pc:=if c.b then eR (tK (spl [] (47::42::c.t++[42,47]))) else aI (47::47::c.t)
def bT (cs:List Cm):List (List Pc):=cs.flatMap fun c=>[kC c,aM 4]
def cW (cs:List Cm):List (List Pc):=cs.flatMap fun c=>[aM 4,kC c]
theorem aCk (h:List Cm) (c:Cm):bT (h++[c])=bT h++[kC c,aM 4]:=by simp [bT]
theorem aCl (h:List Cm) (c:Cm):cW (h++[c])=cW h++[aM 4,kC c]:=by simp [cW]
def iT (us:List Int):List Int:=if nmR us then us else (quR us).1
def mK (n:Nod):List (List Pc):=if n.mem then [aI (iT n.key++[58,32])] else []
def fP (n:Nod):List Pc:=
 if n.k=3 then aI n.X else if n.k=4 then aI (quR n.U).1
 else if n.k=0 then aI [110,117,108,108] else if n.k=1 then aI [116,114,117,101] else aI [102,97,108,115,101]
section
variable (V:List Nod->List Pc × List Nod)
def bE:Nat->List Nod->List Nod
 | 0,R=>R
 | k+1,R=>(V (bE k R)).2
def jF:List Nod->List (List Pc)
 | []=>[]
 | n::R=>bT n.L++(mK n++[(V (n::R)).1])
def itK:Nat->List Nod->List (List Pc)
 | 0,_=>[]
 | k+1,R=>itK k R++((if k=0 then [] else [aI [44],aM 2])++jF V (bE V k R))
end
def jW (k:Int):Int:=if k=6 then 123 else 91
def kH (k:Int):Int:=if k=6 then 125 else 93
def oV (k:Int):Int:=if k=6 then 2 else 3
def aEm:List Pc:=[⟨1,[44],0⟩,⟨0,[],0⟩,⟨9,[],0⟩]
def pU (k:Int) (items:List (List Pc)) (tail:List Cm):List (List Pc):=aM (oV k)::(items++(aEm::cW tail))
def iE (ind:Int) (dss:List (List Pc)):List Pc:=eR dss++[⟨7,[],ind⟩]
def lD (ind:Int) (n:Nod) (items:List (List Pc)):List Pc:=
 if n.C=0 then
  if n.tail=[] then aI [jW n.k,kH n.k]
  else eR [aI [jW n.k],iE ind (cW n.tail),aM 4,aI [kH n.k]]
 else eR [aI [jW n.k],iE ind (pU n.k items n.tail),aM (oV n.k),aI [kH n.k]]++[⟨8,[],0⟩]
def aH (ind:Int):Nat->List Nod->List Pc × List Nod
 | 0,R=>([],R)
 | _+1,[]=>([],[])
 | d+1,n::R=>if n.k<5 then (fP n,R) else (lD ind n (itK (aH ind d) n.C.toNat R),bE (aH ind d) n.C.toNat R)
theorem pK {d:Nat} {m:Bool} {ind:Int} (ih:∀ R A,aE bD d m (R,())=some (A,())->(∀ n∈R,n.k<5->n.C=0)->(aH ind d R).2=A) :
  ∀ (k:Nat) (R A:List Nod),aN (aE bD d m) k (R,())=some (A,())->(∀ n∈R,n.k<5->n.C=0)->∀ j,j<=k->aN (aE bD d m) j (R,())=some (bE (aH ind d) j R,()):=by
 intro k R A h N j O
 induction j with
 | zero=>rfl
 | succ j ihj=>
   have E:=ihj (by omega);obtain ⟨P,J⟩:=(iO (cB bD d m).1 (cB bD d m).2 j).2 _ _ E
   have H:aN (aE bD d m) (j+1) (R,())=(aN (aE bD d m) j (R,())).bind (aE bD d m):=by
    have:∀ (f:List Nod × Unit->Option (List Nod × Unit)) (k:Nat) (s:List Nod × Unit),aN f (k+1) s=(aN f k s).bind f:=by
     intro f k
     induction k with
     | zero=>intro s;simp [aN]
     | succ k ih=>intro s;rw [aN];simp only [aN];cases f s with
       | none=>rfl
       | some x=>exact ih x
    exact this _ _ _
   rw [H,E,Option.bind_some];cases G:aE bD d m (bE (aH ind d) j R,()) with
   | none=>
     exfalso
     have I:∀ i,aN (aE bD d m) (j+1+i) (R,())=none:=by
      intro i
      have F:∀ (f:List Nod × Unit->Option (List Nod × Unit)) (a b:Nat) (s:List Nod × Unit),aN f (a+b) s=(aN f a s).bind (aN f b):=by
       intro f a
       induction a with
       | zero=>intro b s;simp [aN]
       | succ a ih=>intro b s;rw [show a+1+b=(a+b)+1 by omega];simp only [aN];cases f s with
         | none=>rfl
         | some x=>exact ih b x
      rw [F,H,E,Option.bind_some,G];rfl
     have:=I (k - (j+1));rw [show j+1+(k - (j+1))=k by omega,h] at this;cases this
   | some x=>
     obtain ⟨M,⟨⟩⟩:=x;have:=ih _ M G (fun n D=>N n (by rw [J];exact mem_append_right _ D));simp only [bE,this]
theorem sB (A:Int):∀ (d:Nat) (m:Bool) (R D:List Nod),aE bD d m (R,())=some (D,())->(∀ n∈R,n.k<5->n.C=0)->(aH A d R).2=D
 | 0,m,R,D,h,_=>by simp [aE] at h
 | d+1,m,[],D,h,_=>by simp [aE] at h
 | d+1,m,n::R,D,h,hn=>by
   by_cases G:n.mem≠m
   .simp [aE,G] at h
   .by_cases H:5<=n.k/\d=0
    .simp [aE,G,H,bD] at h
    .simp only [aE,if_neg G,if_neg H,bD,Option.bind_some] at h
     by_cases F:n.k<5
     .have I:=hn n (by simp) F;rw [I] at h;simp only [Int.toNat_zero,aN,Option.some.injEq,Prod.mk.injEq,and_true] at h;simp only [aH,if_pos F,h]
     .simp only [aH,if_neg F];have:=pK (ind:=A) (fun R D h J=>sB A d _ R D h J) _ R D h (fun n E=>hn n (by simp [E])) _ (Nat.le_refl _);rw [h] at this;simpa using this.symm
def mes:List Pc->Nat
 | []=>0
 | p::ps=>1+p.t.length+mes ps
theorem fM (a b:List Pc):mes (a++b)=mes a+mes b:=by
 induction a with
 | nil=>simp [mes]
 | cons p a ih=>simp only [cons_append,mes,ih];omega
theorem qP (a:List Pc):a.length<=mes a:=by
 induction a with
 | nil=>simp
 | cons p a ih=>simp only [length_cons,mes];omega
theorem xB (a:List Pc):(mes a:Int)=a.length+cR a:=by
 induction a with
 | nil=>simp [mes,cR]
 | cons p a ih=>simp only [length_cons,mes,cR];omega
theorem aGw (a:List Pc):∀ p∈a,p.t.length<=mes a:=by
 induction a with
 | nil=>simp
 | cons p a ih=>
   intro q A;simp only [mes];rcases mem_cons.1 A with rfl | h
   .omega
   .have:=ih q h;omega
def bW:List (List Pc)->Nat
 | []=>0
 | ds::dss=>mes ds+1+bW dss
theorem cS (a b:List (List Pc)):bW (a++b)=bW a+bW b:=by
 induction a with
 | nil=>simp [bW]
 | cons p a ih=>simp only [cons_append,bW,ih];omega
theorem dH (a:List (List Pc)):a.length<=bW a:=by
 induction a with
 | nil=>simp
 | cons p a ih=>simp only [length_cons,bW];omega
theorem aE1 (a:List (List Pc)):∀ p∈a,mes p<=bW a:=by
 induction a with
 | nil=>simp
 | cons p a ih=>
   intro q A;simp only [bW];rcases mem_cons.1 A with rfl | h
   .omega
   .have:=ih q h;omega
theorem aAG (h:List (List Pc)):mes (jM h)=bW h:=by
 induction h with
 | nil=>rfl
 | cons ds h ih=>rw [show jM (ds::h)=(ds++[wV])++jM h by simp [jM],fM,fM,ih];simp [bW,mes,wV]
theorem lU (h:List (List Pc)):mes (eR h)<=bW h+1:=by
 cases h with
 | nil=>simp [eR,aM,mes,bW]
 | cons ds h=>simp only [eR,fM,aAG,bW];omega
def pH:List (List Int)->Nat
 | []=>0
 | l::ls=>l.length+1+pH ls
theorem sH (h A:List Int):pH (spl h A)=h.length+A.length+1:=by
 induction A generalizing h with
 | nil=>simp [spl,pH]
 | cons x A ih=>
   simp only [spl]
   split
   .simp only [pH,ih,length_cons,length_nil];omega
   .rw [ih];simp only [length_append,length_cons,length_nil];omega
theorem aIP (h:List (List Int)):bW (tK h)<=4*pH h:=by
 induction h with
 | nil=>simp [tK,bW]
 | cons l h ih=>
   cases h with
   | nil=>simp only [tK,bW,aI,mes,pH];omega
   | cons m h=>simp only [tK,bW,aI,aM,mes,pH,length_nil] at ih ⊢;omega
theorem aG8 (c:Cm):mes (kC c)<=4*c.t.length+24:=by
 unfold kC
 split
 .have:=lU (tK (spl [] (47::42::c.t++[42,47])));have h:=aIP (spl [] (47::42::c.t++[42,47]));rw [sH] at h;simp only [length_nil,length_append,length_cons] at h;omega
 .simp only [aI,mes,length_cons];omega
def wC:List Cm->Nat
 | []=>0
 | c::cs=>4*c.t.length+30+wC cs
theorem jL (h:List Cm):bW (bT h)<=wC h:=by
 induction h with
 | nil=>simp [bT,bW,wC]
 | cons c h ih=>
   rw [show bT (c::h)=[kC c,aM 4]++bT h by simp [bT],cS];have:=aG8 c;simp only [bW,aM,mes,length_nil,wC];omega
theorem nF (h:List Cm):bW (cW h)<=wC h:=by
 induction h with
 | nil=>simp [cW,bW,wC]
 | cons c h ih=>
   rw [show cW (c::h)=[aM 4,kC c]++cW h by simp [cW],cS];have:=aG8 c;simp only [bW,aM,mes,length_nil,wC];omega
theorem aD1 (h:List Int):(quR h).1.length<=6*h.length+2:=by
 unfold quR
 split
 .have:=aA8 (fuR h).1;have:=aDo h;simp only [length_append,length_cons,length_nil];omega
 .simp
theorem aAd (h:List Int):(iT h).length<=6*h.length+2:=by
 unfold iT
 split
 .omega
 .exact aD1 h
def wN (n:Nod):Nat:=100+wC n.L+wC n.tail+6*n.key.length+6*n.U.length+n.X.length
def wNs:List Nod->Nat
 | []=>0
 | n::R=>wN n+wNs R
theorem vT (a b:List Nod):wNs (a++b)=wNs a+wNs b:=by
 induction a with
 | nil=>simp [wNs]
 | cons p a ih=>simp only [cons_append,wNs,ih];omega
theorem aIu (n:Nod):mes (fP n)+40+wC n.L+wC n.tail+6*n.key.length<=wN n:=by
 have:=aD1 n.U;unfold fP wN
 repeat' split
 all_goals simp only [aI,mes,length_cons,length_nil]
 all_goals omega
theorem aCr {V:List Nod->List Pc × List Nod} (n:Nod) (R:List Nod) (x:Nat) (h:mes (V (n::R)).1+40+wC n.L+6*n.key.length<=x):bW (jF V (n::R))+20<=x:=by
 have D:=jL n.L;have A:=aAd n.key;simp only [jF,cS,bW];unfold mK
 split
 .simp only [bW,aI,mes,length_append,length_cons,length_nil];omega
 .simp only [bW];omega
theorem oB {σ:Type} (f:σ->Option σ):∀ (k:Nat) (s:σ),aN f (k+1) s=(aN f k s).bind f
 | 0,s=>by simp [aN]
 | k+1,s=>by
   rw [aN];simp only [aN];cases f s with
   | none=>rfl
   | some x=>exact oB f k x
theorem wE {d m ind} (ih:∀ R A,aE bD d m (R,())=some (A,())->(∀ n∈R,n.k<5->n.C=0)->∃ n P,R=n::(P++A)/\mes (aH ind d R).1+40+wC n.L+6*n.key.length<=wN n+wNs P) :
  ∀ (k:Nat) (R A:List Nod),aN (aE bD d m) k (R,())=some (A,())->(∀ n∈R,n.k<5->n.C=0)->∃ P,R=P++A/\bW (itK (aH ind d) k R)<=wNs P
 | 0,R,A,h,_=>by
   simp only [aN,Option.some.injEq,Prod.mk.injEq,and_true] at h;exact ⟨[],by simpa using h,by simp [itK,bW]⟩
 | k+1,R,A,h,hn=>by
   have I:=pK (ind:=ind) (fun R A h N=>sB ind d _ R A h N) _ R A h hn k (by omega);obtain ⟨M,E,J⟩:=wE ih k R _ I hn;rw [oB,I,Option.bind_some] at h;obtain ⟨n,G,D,H⟩:=ih _ A h (fun n F=>hn n (by rw [E];exact mem_append_right _ F));refine ⟨M++(n::G),by rw [append_assoc,cons_append,<- D];exact E,?_⟩;simp only [itK,cS,vT,wNs];have O:=aCr (V:=aH ind d) n (G++A) (wN n+wNs G) (by rw [<- D];exact H);rw [<- D] at O
   split
   .simp only [bW];omega
   .simp only [bW,aI,aM,mes,length_cons,length_nil];omega
theorem aKn (A n h):mes (lD A n h)<=bW h+wC n.tail+40:=by
 have F:=nF n.tail;unfold lD
 split
 .split
  .simp only [aI,mes,length_cons,length_nil];omega
  .refine Nat.le_trans (lU _) ?_;have D:=lU (cW n.tail);simp only [bW,aI,aM,mes,iE,fM,length_cons,length_nil];omega
 .rw [fM];have E:=lU [aI [jW n.k],iE A (pU n.k h n.tail),aM (oV n.k),aI [kH n.k]];have D:=lU (pU n.k h n.tail);simp only [pU,bW,cS,aI,aM,mes,iE,fM,aEm,length_cons,length_nil] at D E ⊢;omega
theorem tF (A):∀ (d:Nat) (m:Bool) (R D:List Nod),aE bD d m (R,())=some (D,())->(∀ n∈R,n.k<5->n.C=0)->∃ n P,R=n::(P++D)/\mes (aH A d R).1+40+wC n.L+6*n.key.length<=wN n+wNs P
 | 0,m,R,D,h,_=>by simp [aE] at h
 | d+1,m,[],D,h,_=>by simp [aE] at h
 | d+1,m,n::R,D,h,hn=>by
   by_cases E:n.mem≠m
   .simp [aE,E] at h
   .by_cases H:5<=n.k/\d=0
    .simp [aE,E,H,bD] at h
    .simp only [aE,if_neg E,if_neg H,bD,Option.bind_some] at h
     by_cases G:n.k<5
     .have I:=hn n (by simp) G;rw [I] at h;simp only [Int.toNat_zero,aN,Option.some.injEq,Prod.mk.injEq,and_true] at h;refine ⟨n,[],by rw [h];rfl,?_⟩;simp only [aH,if_pos G,wNs];have:=aIu n;omega
     .obtain ⟨P,J,E⟩:=wE (ind:=A) (fun R D h M=>tF A d _ R D h M) _ R D h (fun n F=>hn n (by simp [F]));refine ⟨n,P,by rw [J],?_⟩;simp only [aH,if_neg G];have:=aKn A n (itK (aH A d) n.C.toNat R);unfold wN;omega
def eM (ind:Int) (t:Tre):List Pc:=
 match t.N with
 | []=>[]
 | n::R=>eR (bT n.L++((aH ind 201 (n::R)).1::aM 4::bT t.tail))
theorem aE6:∀ (A:List Int),(∀ u∈A,u<128)->fu A=A
 | [],_=>rfl
 | [x],h=>rfl
 | x::y::r,h=>by
   have E:=h x (by simp);have ih:=aE6 (y::r) (fun u D=>h u (by simp at D ⊢;right;exact D));rw [fu,if_neg (by simp [mL];omega),ih]
theorem aBk (A) (h:nmR A=true):∀ u∈A,iS u=true\/aK u=true:=by
 intro u E;obtain ⟨j,D,rfl⟩:=getElem_of_mem E;unfold nmR uR at h;simp only [Bool.and_eq_true,all_eq_true,mem_range] at h;have:=h.1 j D;simp only [D,getElem?_eq_getElem,Option.getD_some,xG,Bool.or_eq_true,Bool.and_eq_true] at this;rcases this with h | h
 .exact .inl h
 .exact .inr h.2
theorem aAS (u) (h:iS u=true\/aK u=true):gG u=[u]/\0<=u/\u<128:=by
 have E:36<=u/\u<123/\u≠92:=by
  simp only [iS,aK,decide_eq_true_eq] at h;omega
 refine ⟨?_,by omega,by omega⟩
 have A:qU u=[]:=by unfold qU;repeat' split
                    all_goals first | omega | rfl
 have D:nQ u=false:=(by simp [nQ,cC];omega);unfold gG;rw [A,if_neg (by simp),D];simp only [Bool.false_eq_true,if_false];unfold enc
 first | (rw [if_pos (by omega)]) | simp [show u<128 by omega] | (split<;>first | rfl | omega)
theorem aK1 (A) (h:nmR A=true):quR A=(34::A++[34],0):=by
 have E:=aBk A h;have G:fu A=A:=aE6 A (fun u D=>(aAS u (E u D)).2.2)
 have D:A.all cD=true:=by
  rw [all_eq_true];intro u D;have:=(aAS u (E u D)).2;simp [cD];omega
 have H:∀ (l:List Int),(∀ u∈l,iS u=true\/aK u=true)->kA l=l:=by
  intro l
  induction l with
  | nil=>intro _;rfl
  | cons x l ih=>intro F;rw [show kA (x::l)=gG x++kA l by simp [kA],(aAS x (F x (by simp))).1,ih (fun u D=>F u (by simp [D]))];rfl
 unfold quR fuR;rw [if_pos D,G];simp only [if_true,H A E]
open Go.RowKit
theorem yF {P:Program} {w:World} (A t I) (e:TypeId) (i:TypeInfo) (D) (F:P.underlying t=some (.slice e)) (G:P.info? e=some i) (v n M) (h:w.ownsRow A e D v n M) (c:Nat):(Builtin.append_ #[t,t] I #[v,.slice none 0 c]).run P w=.ok v w:=by
 rcases h.2 with ⟨rfl,rfl⟩ | ⟨g,J,H,rfl,_,_,E,_⟩
 .simp [Builtin.append_,run_underlying F,sizeOf,typeInfo,G,Builtin.lenOf,Builtin.firstCells]
 .simp [Builtin.append_,run_underlying F,sizeOf,typeInfo,G,Builtin.lenOf,Builtin.firstCells,E,storeCells]
theorem rN {P:Program} {w:World} {E A} {o:Oper} {a:Act} {Q:Exit->Act->World->Prop} (F:o.guard=none) (s x:Operand) (t:TypeId) (M:o.op=.call { callee:=.builtin .append,args:=#[s,x],argTypes:=#[t,t] }) (v H G:Value) (I:World) (O:a.eval s=v) (N:a.eval x=H) (D:(Builtin.append_ #[t,t] o.type #[v,H]).run P w=.ok G I) (h:wpList P E Q A (a.put o.dst G) I):wpList P E Q (o::A) a w:=by
 refine wpList_plain F fun K J=>?_;unfold Oper.wp;simp only [execOp,M,resolve,invoke,builtin,Sem.run_bind,Sem.run_pure,Result.andThen_ok,map_toArray,map_cons,map_nil,O,N,D];exact J _ _ h
theorem xK (B B' w v tv F t) (h:Ow .u8 5 B w v F) (O:Rd .u8 B' w tv t) (hB:B<=w.heap.size) (hn:F.length+t.length<=100000000000) :
  ∃ E I,(Builtin.append_ #[22,22] 22 #[v,tv]).run prog w=.ok E I/\Ow .u8 5 B I E (F++t)/\w.grownBy I v.ownBlock/\(E.ownBlock=v.ownBlock\/E.ownBlock=some w.heap.size):=by
 obtain ⟨i0,hi,J,S,M⟩:=info_parts mA;obtain ⟨a,H,Y,hr⟩:=O;subst Y;cases a with
 | none=>
   have ht:t=[]:=by
    rcases t with _ | ⟨z,zs⟩
    .rfl
    .obtain ⟨b,a8,N,_⟩:=hr (by simp);cases N
   subst ht;exact ⟨v,w,yF B _ _ _ i0 1 underlying22 hi v _ _ h H,by simpa using h,grownBy.refl _ _,.inl rfl⟩
 | some ad=>
   have D:∀ j u,(t.map (Value.int .u8))[j]?=some u->w.cell? (ad.add j)=some u:=by
    intro j u hj;have A:j<t.length:=(by have:=(List.getElem?_eq_some_iff.1 hj).1;simpa using this);obtain ⟨b2,a2,N,_,hc⟩:=hr (fun e=>by rw [e] at A;simp at A);cases N;rw [Addr.add_lit,hc j A];simpa [A] using hj
   obtain ⟨E,I,G,h1,h2,_,h4⟩:=run_append_own_at (P:=prog) w B 22 22 5 i0 (.int .u8 0) 1 1 underlying22 hi J S M rfl (by decide) v F.length (F.map (Value.int .u8)) h ad t.length H (t.map (Value.int .u8)) (by simp) D
    (by intro u Z;simp only [mem_map] at Z;obtain ⟨z,_,rfl⟩:=Z;rfl) (by unfold maxLen;omega) (by omega) hB
   exact ⟨E,I,G,by unfold Ow;simpa using h1,h2,h4⟩
theorem aDC (a:Option Addr) (n h:Nat) (D:Value) (w E:World) (A:(Builtin.append_ #[22,22] 22 #[.slice none 0 0,.slice a n h]).run prog w=.ok D E) :
  Calls prog 121 #[.slice a n h] w fun e F=>e=.returned D/\E=F:=by
 go_enter func121,ntmps121
 go_wp2_with (at_builtin;refine rN rfl _ _ _ rfl _ _ _ _ rfl rfl A ?_)
 go_ret;exact ⟨rfl,rfl⟩
theorem aBl (v D) (w:World) (H:Rd .u8 w.heap.size w v D) (M:D.length<=4194304) :
  Calls prog 121 #[v] w fun e E=>∃ A,e=.returned A/\Ow .u8 5 w.heap.size E A D/\w.grownBy E none:=by
 obtain ⟨A,E,h,J,I,_⟩:=xK w.heap.size w.heap.size w (.slice none 0 0) v [] D ⟨by simp,.inl ⟨rfl,rfl⟩⟩ H (Nat.le_refl _) (by simp;omega);obtain ⟨a,F,G,_⟩:=id H;subst G;refine (aDC a D.length F A w E h).mono ?_;rintro e N ⟨rfl,rfl⟩;exact ⟨A,rfl,by simpa using J,I⟩
def Zo (B:Nat) (w:World) (r:Option Nat) (b:Nat):Prop:=B<=b/\b<w.heap.size/\some b≠r
def TxR (B:Nat) (w:World) (r:Option Nat) (tv:Value) (t:List Int):Prop:=
 ∃ a cap,tv=.slice a t.length cap/\t.length<=cap/\cap<=maxLen/\(t≠[]->∃ b off,a=some ⟨b,off,none⟩/\Zo B w r b/\∀ j,j<t.length->w.cell? ⟨b,off+j,none⟩=some (.int .u8 (t[j]?.getD 0)))
def PcR (B:Nat) (w:World) (r:Option Nat) (b o:Nat) (p:Pc):Prop:=
 ∃ tv,w.cell? ⟨b,o,none⟩=some (.int .i64 p.k)/\w.cell? ⟨b,o+1,none⟩=some tv/\w.cell? ⟨b,o+2,none⟩=some (.int .i64 p.n)/\TxR B w r tv p.t
def PiR (B:Nat) (w:World) (r:Option Nat) (v:Value) (ps:List Pc):Prop:=
 ∃ a cap,v=.slice a ps.length cap/\ps.length<=cap/\cap<=maxLen/\(ps≠[]->∃ b off,a=some ⟨b,off,none⟩/\Zo B w r b/\∀ j p,ps[j]?=some p->PcR B w r b (off+j*3) p)
def DiR (B:Nat) (w:World) (r:Option Nat) (v:Value) (dss:List (List Pc)):Prop:=
 ∃ a cap,v=.slice a dss.length cap/\dss.length<=cap/\cap<=maxLen/\(dss≠[]->∃ b off,a=some ⟨b,off,none⟩/\Zo B w r b/\∀ j ds,dss[j]?=some ds->∃ u,w.cell? ⟨b,off+j,none⟩=some u/\PiR B w r u ds)
theorem Zo.row {B b w A r} (h:Zo B w r b) (g:w.grownBy A r):Zo B A r b:=⟨h.1,Nat.lt_of_lt_of_le h.2.1 g.size,h.2.2⟩
theorem TxR.row {B w G r F t} (h:TxR B w r F t) (g:w.grownBy G r):TxR B G r F t:=by
 obtain ⟨a,A,e,N,M,O⟩:=h;refine ⟨a,A,e,N,M,fun S=>?_⟩;obtain ⟨b,D,J,E,H⟩:=O S;exact ⟨b,D,J,E.row g,fun j I=>g.cell (H j I) E.2.2⟩
theorem PcR.row {B w D r b o p} (h:PcR B w r b o p) (A:some b≠r) (g:w.grownBy D r):PcR B D r b o p:=by
 obtain ⟨G,H,F,I,E⟩:=h;exact ⟨G,g.cell H A,g.cell F A,g.cell I A,E.row g⟩
theorem PiR.row {B w F r v G} (h:PiR B w r v G) (g:w.grownBy F r):PiR B F r v G:=by
 obtain ⟨a,A,e,N,M,O⟩:=h;refine ⟨a,A,e,N,M,fun S=>?_⟩;obtain ⟨b,D,J,E,H⟩:=O S;exact ⟨b,D,J,E.row g,fun j p I=>(H j p I).row E.2.2 g⟩
theorem TxR.turn {B E w r G F t} (h:TxR B w r F t) (f:∀ b,Zo B w r b->Zo E w G b):TxR E w G F t:=by
 obtain ⟨a,A,e,M,N,O⟩:=h;refine ⟨a,A,e,M,N,fun S=>?_⟩;obtain ⟨b,D,J,I,H⟩:=O S;exact ⟨b,D,J,f b I,H⟩
theorem PcR.turn {B A w r D b o p} (h:PcR B w r b o p) (f:∀ b,Zo B w r b->Zo A w D b):PcR A w D b o p:=by
 obtain ⟨F,G,H,I,E⟩:=h;exact ⟨F,G,H,I,E.turn f⟩
theorem PiR.turn {B F w r G v E} (h:PiR B w r v E) (f:∀ b,Zo B w r b->Zo F w G b):PiR F w G v E:=by
 obtain ⟨a,A,e,N,O,S⟩:=h;refine ⟨a,A,e,N,O,fun Y=>?_⟩;obtain ⟨b,D,M,I,H⟩:=S Y;exact ⟨b,D,M,f b I,fun j p J=>(H j p J).turn f⟩
theorem Zo.base {B B':Nat} {w r} (A:B'<=B):∀ b,Zo B w r b->Zo B' w r b:=fun _ h=>⟨Nat.le_trans A h.1,h.2.1,h.2.2⟩
theorem Zo.off {B w r} : ∀ b,Zo B w r b->Zo B w none b:=fun _ h=>⟨h.1,h.2.1,by simp⟩
theorem Zo.on {B A:Nat} {w:World} {r} (x:Option Nat) (E:A<=B) (D:∀ k,x=some k->k<B\/w.heap.size<=k):∀ b,Zo B w r b->Zo A w x b:=
 fun b h=>⟨Nat.le_trans E h.1,h.2.1,fun e=>by have:=D b e.symm;have G:=h.1;have F:=h.2.1;omega⟩
theorem TxR.K {B w w' r F t} (h:TxR B w r F t) (g:w.grownBy w' none):TxR B w' r F t:=by
 obtain ⟨a,D,e,J,M,N⟩:=h;refine ⟨a,D,e,J,M,fun O=>?_⟩;obtain ⟨b,E,I,A,G⟩:=N O;exact ⟨b,E,I,⟨A.1,Nat.lt_of_lt_of_le A.2.1 g.size,A.2.2⟩,fun j H=>g.cell (G j H) (by simp)⟩
theorem PcR.K {B w w' r b o p} (h:PcR B w r b o p) (g:w.grownBy w' none):PcR B w' r b o p:=by
 obtain ⟨D,E,F,G,A⟩:=h;exact ⟨D,g.cell E (by simp),g.cell F (by simp),g.cell G (by simp),A.K g⟩
theorem PiR.K {B w w' r v F} (h:PiR B w r v F) (g:w.grownBy w' none):PiR B w' r v F:=by
 obtain ⟨a,D,e,J,M,N⟩:=h;refine ⟨a,D,e,J,M,fun O=>?_⟩;obtain ⟨b,E,I,A,G⟩:=N O;exact ⟨b,E,I,⟨A.1,Nat.lt_of_lt_of_le A.2.1 g.size,A.2.2⟩,fun j p H=>(G j p H).K g⟩
theorem TxR.nil (B w r):TxR B w r (.slice none 0 0) []:=⟨none,0,rfl,Nat.le_refl _,by unfold maxLen;omega,fun h=>absurd rfl h⟩
theorem TxR.rd {B w r E t} (h:TxR B w r E t):RdB w.heap.size w E t:=by
 obtain ⟨a,A,e,M,N,I⟩:=h;refine ⟨a,A,e,fun J=>?_⟩;obtain ⟨b,D,H,G,F⟩:=I J;exact ⟨b,D,H,G.2.1,F⟩
theorem TxR.sl {B w r D t} (h:TxR B w r D t):Sl D t.length:=by
 obtain ⟨a,A,e,E,F,G⟩:=h;exact ⟨a,A,e,E,F⟩
theorem aJP {B w} {r:Option Nat} {H t} (h:OwB B w H t) (S:∀ b,H.ownBlock=some b->some b≠r):TxR B w r H t:=by
 obtain ⟨a,E,e,Y,Z⟩:=h.sl;refine ⟨a,E,e,Y,Z,fun h0=>?_⟩;obtain ⟨a',M,G,I⟩:=h.rd;rw [e] at G;simp only [Value.slice.injEq] at G;obtain ⟨rfl,_,rfl⟩:=G;obtain ⟨b,F,D,hb,N⟩:=I h0;rcases h.2 with ⟨A,hn⟩ | ⟨g,J,O,A,hg,_⟩
 .rw [e] at A;simp only [Value.slice.injEq] at A;rw [A.1] at D;cases D
 .rw [e] at A;simp only [Value.slice.injEq] at A;obtain ⟨A,_,_⟩:=A;rw [D] at A;simp only [Option.some.injEq,Addr.mk.injEq] at A;refine ⟨b,F,D,⟨by omega,hb,?_⟩,N⟩;refine S b ?_;rw [e,D];rw [A.2.1];rfl
theorem PiR.rdP {B w r v E} (h:PiR B w r v E):RdP w.heap.size w v E:=by
 obtain ⟨a,A,e,O,Y,Z⟩:=h;refine ⟨a,A,e,O,Y,fun h0=>?_⟩;obtain ⟨b,D,M,I,G⟩:=Z h0;refine ⟨b,D,M,I.2.1,fun j p J=>?_⟩;obtain ⟨N,S,H,c3,F⟩:=G j p J;exact ⟨N,S,H,c3,F.rd,F.sl⟩
def PoR (B:Nat) (w:World) (v:Value) (ps:List Pc):Prop:=
 ∃ xs:List Value,w.ownsRow B 88 3 v ps.length xs/\∀ (j:Nat) (p:Pc),ps[j]?=some p->∃ tv,xs[j*3]?=some (.int .i64 p.k)/\xs[j*3+1]?=some tv/\xs[j*3+2]?=some (.int .i64 p.n)/\TxR B w v.ownBlock tv p.t
def DoR (B:Nat) (w:World) (v:Value) (dss:List (List Pc)):Prop:=
 ∃ xs:List Value,w.ownsRow B 31 1 v dss.length xs/\∀ (j:Nat) (ds:List Pc),dss[j]?=some ds->∃ u,xs[j]?=some u/\PiR B w v.ownBlock u ds
theorem PoR.K {B w w' v A} (h:PoR B w v A) (g:w.grownBy w' none):PoR B w' v A:=by
 obtain ⟨J,G,I⟩:=h;refine ⟨J,ownsRow.kept G g (by cases v.ownBlock<;>simp),fun j p D=>?_⟩;obtain ⟨F,H,M,N,E⟩:=I j p D;exact ⟨F,H,M,N,E.K g⟩
theorem DoR.K {B w w' v A} (h:DoR B w v A) (g:w.grownBy w' none):DoR B w' v A:=by
 obtain ⟨H,E,G⟩:=h;refine ⟨H,ownsRow.kept E g (by cases v.ownBlock<;>simp),fun j p D=>?_⟩;obtain ⟨u,F,I⟩:=G j p D;exact ⟨u,F,I.K g⟩
theorem PoR.nil (B w):PoR B w (.slice none 0 0) []:=⟨[],⟨by simp,.inl ⟨rfl,rfl⟩⟩,fun j p h=>by simp at h⟩
theorem DoR.nil (B w):DoR B w (.slice none 0 0) []:=⟨[],⟨by simp,.inl ⟨rfl,rfl⟩⟩,fun j p h=>by simp at h⟩
theorem aBq {B} {w:World} {e D n v H} (h:w.ownsRow B e D v n H):∃ a A,v=.slice a n A:=by
 rcases h.2 with ⟨E,G⟩ | ⟨g,A,F,E,_⟩
 .exact ⟨none,0,by rw [E,G]⟩
 .exact ⟨_,A,E⟩
theorem PoR.base {B} {B':Nat} {w v D} (h:PoR B w v D) (A:B'<=B):PoR B' w v D:=by
 obtain ⟨N,I,M⟩:=h;refine ⟨N,gP A I,fun j p E=>?_⟩;obtain ⟨H,J,G,O,F⟩:=M j p E;exact ⟨H,J,G,O,F.turn (Zo.base A)⟩
theorem PoR.pi {B w v N} (h:PoR B w v N):PiR B w none v N:=by
 obtain ⟨xs,A,ht⟩:=h;rcases id A.2 with ⟨D,I⟩ | ⟨g,E,O,D,hg,H,G,F,_⟩
 .refine ⟨none,0,by rw [D,I],by omega,by unfold maxLen;omega,fun M=>absurd (eq_nil_of_length_eq_zero I) M⟩
 .refine ⟨_,E,D,G,F,fun M=>⟨g,0,rfl,?_,fun j p J=>?_⟩⟩
  .have:=ownsRow.lt A g (by rw [D];rfl);exact ⟨this.1,this.2,by simp⟩
  .obtain ⟨Y,Z,h2,S,h4⟩:=ht j p J;have hj:=(List.getElem?_eq_some_iff.1 J).1;rw [D] at A;refine ⟨Y,?_,?_,?_,h4.turn Zo.off⟩
   .rw [Nat.zero_add,ownsRow.cellAt A (j*3) (by omega)];exact Z
   .rw [Nat.zero_add,ownsRow.cellAt A (j*3+1) (by omega)];exact h2
   .rw [Nat.zero_add,ownsRow.cellAt A (j*3+2) (by omega)];exact S
theorem DoR.di {B w v D} (h:DoR B w v D):DiR B w none v D:=by
 obtain ⟨xs,E,Y⟩:=h;rcases id E.2 with ⟨A,M⟩ | ⟨g,H,O,A,hg,I,G,F,_⟩
 .refine ⟨none,0,by rw [A,M],by omega,by unfold maxLen;omega,fun N=>absurd (eq_nil_of_length_eq_zero M) N⟩
 .refine ⟨_,H,A,G,F,fun N=>⟨g,0,rfl,?_,fun j p J=>?_⟩⟩
  .have:=ownsRow.lt E g (by rw [A];rfl);exact ⟨this.1,this.2,by simp⟩
  .obtain ⟨u,S,Z⟩:=Y j p J;have hj:=(List.getElem?_eq_some_iff.1 J).1;rw [A] at E;exact ⟨u,by rw [Nat.zero_add,ownsRow.cellAt E j (by omega)];exact S,Z.turn Zo.off⟩
theorem aJA:(prog.info? 88).map (fun i=>(i.zero,i.size,i.bytes))=some (some (.agg #[.int .i64 0,.slice none 0 0,.int .i64 0]),3,40):=by kernel_rfl
theorem aMh:(prog.info? 31).map (fun i=>(i.zero,i.size,i.bytes))=some (some (.slice none 0 0),1,24):=by kernel_rfl
def pcC (p:Pc) (tv:Value):List Value:=[.int .i64 p.k,tv,.int .i64 p.n]
def mS:List Pc->List Value->List Value
 | p::ps,tv::tvs=>pcC p tv++mS ps tvs
 | _,_=>[]
theorem aEU:∀ (D:List Pc) (A:List Value),A.length=D.length->(mS D A).length=D.length*3
 | [],[],_=>rfl
 | _::D,_::A,h=>by simp only [length_cons,Nat.add_right_cancel_iff] at h;simp only [mS,pcC,length_append,length_cons,length_nil,aEU D A h];omega
 | [],_::_,h=>by simp at h
 | _::_,[],h=>by simp at h
theorem vX:∀ (A:List Pc) (h:List Value) (j:Nat) (p:Pc) (D:Value),A[j]?=some p->h[j]?=some D->(mS A h)[j*3]?=some (.int .i64 p.k)/\(mS A h)[j*3+1]?=some D/\(mS A h)[j*3+2]?=some (.int .i64 p.n)
 | p0::A,t0::h,0,p,D,hp,ht=>by simp at hp ht;subst hp ht;exact ⟨rfl,rfl,rfl⟩
 | p0::A,t0::h,j+1,p,D,hp,ht=>by
   obtain ⟨F,G,E⟩:=vX A h j p D (by simpa using hp) (by simpa using ht);refine ⟨?_,?_,?_⟩
   .rw [show (j+1)*3=j*3+3 by omega];simpa [mS,pcC] using F
   .rw [show (j+1)*3+1=(j*3+1)+3 by omega];simpa [mS,pcC] using G
   .rw [show (j+1)*3+2=(j*3+2)+3 by omega];simpa [mS,pcC] using E
 | [],_,_,_,_,hp,_=>by simp at hp
 | _::_,[],_,_,_,_,ht=>by simp at ht
theorem aAo:∀ (F:List Pc) (A:List Value),A.length=F.length->∀ (i:Nat) (u:Value),(mS F A)[i]?=some u->∃ (j:Nat) (p:Pc) (E:Value),F[j]?=some p/\A[j]?=some E/\((i=j*3/\u=.int .i64 p.k)\/(i=j*3+1/\u=E)\/(i=j*3+2/\u=.int .i64 p.n))
 | [],[],_,i,u,h=>by simp [mS] at h
 | p::F,E::A,hl,i,u,h=>by
   simp only [length_cons,Nat.add_right_cancel_iff] at hl
   match i,h with
   | 0,h=>simp [mS,pcC] at h;exact ⟨0,p,E,rfl,rfl,.inl ⟨rfl,h.symm⟩⟩
   | 1,h=>simp [mS,pcC] at h;exact ⟨0,p,E,rfl,rfl,.inr (.inl ⟨rfl,h.symm⟩)⟩
   | 2,h=>simp [mS,pcC] at h;exact ⟨0,p,E,rfl,rfl,.inr (.inr ⟨rfl,h.symm⟩)⟩
   | i+3,h=>
     obtain ⟨j,q,t,G,H,D⟩:=aAo F A hl i u (by simpa [mS,pcC] using h);refine ⟨j+1,q,t,by simpa using G,by simpa using H,?_⟩;rcases D with ⟨e,D⟩ | ⟨e,D⟩ | ⟨e,D⟩
     .exact .inl ⟨by omega,D⟩
     .exact .inr (.inl ⟨by omega,D⟩)
     .exact .inr (.inr ⟨by omega,D⟩)
 | [],_::_,h,_,_,_=>by simp at h
 | _::_,[],h,_,_,_=>by simp at h
theorem aCe {B w r b} {off:Nat} : ∀ (G:List Pc) (o:Nat),(∀ (j:Nat) (p:Pc),G[j]?=some p->PcR B w r b (off+(o+j)*3) p)->∃ A:List Value,A.length=G.length/\∀ (j:Nat) (p:Pc) (F:Value),G[j]?=some p->A[j]?=some F->
  w.cell? ⟨b,off+(o+j)*3,none⟩=some (.int .i64 p.k)/\w.cell? ⟨b,off+(o+j)*3+1,none⟩=some F/\w.cell? ⟨b,off+(o+j)*3+2,none⟩=some (.int .i64 p.n)/\TxR B w r F p.t
 | [],o,_=>⟨[],rfl,fun j p F h _=>by simp at h⟩
 | p::G,o,h=>by
   obtain ⟨F,J,N,O,I⟩:=h 0 p rfl;obtain ⟨A,H,M⟩:=aCe G (o+1) (fun j q D=>by rw [show o+1+j=o+(j+1) by omega];exact h (j+1) q (by simpa using D));refine ⟨F::A,by simp [H],fun j q u D E=>?_⟩
   match j,D,E with
   | 0,D,E=>simp at D E;subst D E;exact ⟨J,N,O,I⟩
   | j+1,D,E=>rw [show o+(j+1)=o+1+j by omega];exact M j q u (by simpa using D) (by simpa using E)
theorem oW {v n} (h:Sl v n):v.oneCell'=true:=by
 obtain ⟨a,A,rfl,_⟩:=h;rfl
theorem uV (B w v u J E) (hv:PoR B w v J) (hu:PiR B w v.ownBlock u E) (hB:B<=w.heap.size) (hn:J.length+E.length<=1000000000000) :
  ∃ S w',(Builtin.append_ #[31,31] 31 #[v,u]).run prog w=.ok S w'/\PoR B w' S (J++E)/\w.grownBy w' v.ownBlock/\(S.ownBlock=v.ownBlock\/S.ownBlock=some w.heap.size):=by
 obtain ⟨i0,hi,b5,c0,b7⟩:=info_parts aJA;obtain ⟨Z,ho,ht⟩:=hv;obtain ⟨a,a5,rfl,f6,d9,hq⟩:=hu;cases a with
 | none=>
   have b6:E=[]:=by
    rcases E with _ | ⟨z,zs⟩
    .rfl
    .obtain ⟨b,I,ha,_⟩:=hq (by simp);cases ha
   subst b6;exact ⟨v,w,yF B _ _ _ i0 3 underlying31 hi v _ _ ho a5,by rw [append_nil];exact ⟨Z,ho,ht⟩,grownBy.refl _ _,.inl rfl⟩
 | some ad=>
   obtain ⟨A,a9,H,Y⟩:∃ A:List Value,A.length=E.length/\(∀ (j:Nat) (p:Pc) (D:Value),E[j]?=some p->A[j]?=some D->TxR B w v.ownBlock D p.t)/\∀ (j:Nat) (x:Value),(mS E A)[j]?=some x->w.cell? (ad.add j)=some x:=by
    by_cases h0:E=[]
    .subst h0;exact ⟨[],rfl,fun j p D h _=>by simp at h,fun j x h=>by simp [mS] at h⟩
    .obtain ⟨b,I,ha,hz,O⟩:=hq h0;cases ha;obtain ⟨A,hl,hh⟩:=aCe (B:=B) (w:=w) (r:=v.ownBlock) (b:=b) (off:=I) E 0 (fun j p G=>by rw [Nat.zero_add];exact O j p G);refine ⟨A,hl,fun j p D G H=>(hh j p D G H).2.2.2,fun i x hx=>?_⟩;obtain ⟨j,p,D,G,H,F⟩:=aAo E A hl i x hx;obtain ⟨c1,c2,c3,_⟩:=hh j p D G H;rw [Addr.add_lit];rw [Nat.zero_add] at c1 c2 c3;rcases F with ⟨rfl,rfl⟩ | ⟨rfl,rfl⟩ | ⟨rfl,rfl⟩
     .exact c1
     .exact c2
     .exact c3
   obtain ⟨S,w',a1,h1,h2,_,h4⟩:=run_append_own_at (P:=prog) w B 31 31 88 i0 (.agg #[.int .i64 0,.slice none 0 0,.int .i64 0]) 3 40 underlying31 hi b5 c0 b7 rfl (by decide) v J.length Z ho ad E.length a5 (mS E A) (aEU E A a9) Y
    (by
     intro x hx;obtain ⟨i,b4,rfl⟩:=getElem_of_mem hx;obtain ⟨j,p,D,G,b8,F⟩:=aAo E A a9 i _ (getElem?_eq_getElem b4);rcases F with ⟨_,e⟩ | ⟨_,e⟩ | ⟨_,e⟩
     .rw [e];rfl
     .rw [e];exact oW (H j p D G b8).sl
     .rw [e];rfl) (by unfold maxLen;omega) (by omega) hB
   refine ⟨S,w',a1,⟨Z++mS E A,by rw [length_append];exact h1,fun j p G=>?_⟩,h2,h4⟩;have f2:=ho.1
   have M:∀ D,TxR B w v.ownBlock D p.t->TxR B w' S.ownBlock D p.t:=fun D hT=>by
    rcases h4 with e | e
    .rw [e];exact hT.row h2
    .rw [e];obtain ⟨a2,a6,e2,k1,k2,k3⟩:=hT;refine ⟨a2,a6,e2,k1,k2,fun h0=>?_⟩;obtain ⟨b,I,ha,hz,O⟩:=k3 h0;exact ⟨b,I,ha,⟨hz.1,Nat.lt_of_lt_of_le hz.2.1 h2.size,fun e=>by have:=hz.2.1;cases e;omega⟩,fun j hj=>h2.cell (O j hj) hz.2.2⟩
   by_cases hj:j<J.length
   .rw [getElem?_append_left hj] at G;obtain ⟨D,k1,k2,k3,k4⟩:=ht j p G;refine ⟨D,?_,?_,?_,M D k4⟩
    .rw [getElem?_append_left (by omega)];exact k1
    .rw [getElem?_append_left (by omega)];exact k2
    .rw [getElem?_append_left (by omega)];exact k3
   .rw [getElem?_append_right (by omega)] at G;have f3:=(List.getElem?_eq_some_iff.1 G).1;obtain ⟨D,N⟩:∃ D,A[j - J.length]?=some D:=⟨A[j - J.length]'(by omega),getElem?_eq_getElem (by omega)⟩;obtain ⟨k1,k2,k3⟩:=vX E A (j - J.length) p D G N;refine ⟨D,?_,?_,?_,M D (H _ p D G N)⟩
    .rw [getElem?_append_right (by omega),show j*3 - Z.length=(j - J.length)*3 by omega];exact k1
    .rw [getElem?_append_right (by omega),show j*3+1 - Z.length=(j - J.length)*3+1 by omega];exact k2
    .rw [getElem?_append_right (by omega),show j*3+2 - Z.length=(j - J.length)*3+2 by omega];exact k3
theorem PiR.sl {B w r v D} (h:PiR B w r v D):Sl v D.length:=by
 obtain ⟨a,A,e,F,E,_⟩:=h;exact ⟨a,A,e,F,E⟩
theorem aFS (B w v) (u:Value) (b:Nat) (h ds) (hv:DoR B w v h) (hc:w.cell? ⟨b,0,none⟩=some u) (hu:PiR B w v.ownBlock u ds) (hB:B<=w.heap.size) (hn:h.length<=1000000000000) :
  ∃ G F,(Builtin.append_ #[89,89] 89 #[v,.slice (some ⟨b,0,none⟩) 1 1]).run prog w=.ok G F/\DoR B F G (h++[ds])/\w.grownBy F v.ownBlock/\(G.ownBlock=v.ownBlock\/G.ownBlock=some w.heap.size):=by
 obtain ⟨i0,hi,a1,b3,a6⟩:=info_parts aMh;obtain ⟨xs,ho,ht⟩:=hv
 have I:∀ j x,([u]:List Value)[j]?=some x->w.cell? ((⟨b,0,none⟩:Addr).add j)=some x:=by
  intro j x A;rw [Addr.add_lit,Nat.zero_add]
  match j,A with
  | 0,A=>simp at A;subst A;exact hc
  | j+1,A=>simp at A
 obtain ⟨G,F,N,h1,J,_,h4⟩:=run_append_own_at (P:=prog) w B 89 89 31 i0 (.slice none 0 0) 1 24 underlying89 hi a1 b3 a6 rfl (by decide) v h.length xs ho ⟨b,0,none⟩ 1 1 [u] rfl I
   (by intro x hx;simp at hx;subst hx;exact oW hu.sl) (by unfold maxLen;omega) (by omega) hB
 refine ⟨G,F,N,⟨xs++[u],by simpa using h1,fun j p H=>?_⟩,J,h4⟩;have f1:=ho.1
 have E:∀ x (q:List Pc),PiR B w v.ownBlock x q->PiR B F G.ownBlock x q:=fun x q hT=>by
  have h3:=hT.row J;rcases h4 with e | e
  .rw [e];exact h3
  .rw [e];obtain ⟨a2,Y,e2,k1,k2,k3⟩:=hT
   exact (⟨a2,Y,e2,k1,k2,fun h0=>by
    obtain ⟨b,a8,ha,D,a0⟩:=k3 h0;have Z:∀ b,Zo B w v.ownBlock b->Zo B F (some w.heap.size) b:=fun b D=>⟨D.1,Nat.lt_of_lt_of_le D.2.1 J.size,fun e=>by have:=D.2.1;cases e;omega⟩;refine ⟨b,a8,ha,Z b D,fun j p H=>?_⟩;obtain ⟨tv,c1,c2,c3,c4⟩:=a0 j p H;refine ⟨tv,J.cell c1 D.2.2,J.cell c2 D.2.2,J.cell c3 D.2.2,?_⟩;obtain ⟨a5,M,e5,m1,m2,m3⟩:=c4;refine ⟨a5,M,e5,m1,m2,fun h0=>?_⟩;obtain ⟨b6,O,b4,S,a9⟩:=m3 h0;exact ⟨b6,O,b4,Z b6 S,fun j A=>J.cell (a9 j A) S.2.2⟩⟩:PiR B F (some w.heap.size) x q)
 by_cases A:j<h.length
 .rw [getElem?_append_left A] at H;obtain ⟨x,k1,k2⟩:=ht j p H;exact ⟨x,by rw [getElem?_append_left (by omega)];exact k1,E x p k2⟩
 .have b2:=(List.getElem?_eq_some_iff.1 H).1;simp at b2;have a3:j=h.length:=(by omega);subst a3;simp at H;subst H;exact ⟨u,by rw [show h.length=xs.length by omega];simp,E u ds hu⟩
theorem aFD (w:World) (k n:Int) (h:Value) (t) (B:Nat) (D:B<=w.heap.size) (E:TxR B (w.alloc (Obj.cells #[.int .i64 k,h,.int .i64 n] 88)) (some w.heap.size) h t) :
  PoR B (w.alloc (Obj.cells #[.int .i64 k,h,.int .i64 n] 88)) (.slice (some ⟨w.heap.size,0,none⟩) 1 1) [⟨k,t,n⟩]:=by
 refine ⟨[.int .i64 k,h,.int .i64 n],⟨by simp,.inr ⟨w.heap.size,1,#[.int .i64 k,h,.int .i64 n],rfl,D,by show (w.heap.push _)[w.heap.size]?=_;simp,Nat.le_refl _,by unfold maxLen;omega,by simp,by simp⟩⟩,fun j p A=>?_⟩
 match j,A with
 | 0,A=>simp at A;subst A;exact ⟨h,rfl,rfl,rfl,E⟩
 | j+1,A=>simp at A
theorem fH (k:Int) (w) :
  Calls prog 43 #[.int .i64 k] w fun e h=>∃ A,e=.returned A/\PoR w.heap.size h A (aM k)/\w.grownBy h none:=by
 go_enter func43,ntmps43
 go_wp2;go_ret;exact ⟨_,rfl,aFD w k 0 _ [] _ (Nat.le_refl _) (TxR.nil _ _ _),gWA⟩
theorem aF9 (w:World) (h) (D:Bys h) (c) :
  RdB (w.alloc (.cells (bytesRow (strOfNums h) c) 5 ((bytesRow (strOfNums h) c).size,(bytesRow (strOfNums h) c).size+1))).heap.size (w.alloc (.cells (bytesRow (strOfNums h) c) 5 ((bytesRow (strOfNums h) c).size,(bytesRow (strOfNums h) c).size+1))) (.slice (some ⟨w.heap.size,0,none⟩) h.length c) h:=by
 refine ⟨_,c,rfl,fun _=>⟨w.heap.size,0,rfl,by simp,fun j A=>?_⟩⟩;have:=cell?_alloc_mark w (bytesRow (strOfNums h) c) 5 ((bytesRow (strOfNums h) c).size,(bytesRow (strOfNums h) c).size+1) j;rw [Nat.zero_add,this];have E:=D _ (getElem_mem A);unfold bytesRow;rw [Array.getElem?_append_left (by simp [strOfNums,A])];simp [strOfNums,A];omega
theorem aBA (A) (O:Bys A) (hn:A.length<=1000000000) (w:World) :
  ∃ D E,(convert 9 22 (.string (strOfNums A))).run prog w=.ok (.slice (some ⟨w.heap.size,0,none⟩) A.length D) E/\TxR w.heap.size E none (.slice (some ⟨w.heap.size,0,none⟩) A.length D) A/\w.grownBy E none/\E.heap.size=w.heap.size+1/\∀ j,j<A.length->E.frozen? ⟨w.heap.size,j,none⟩=false:=by
 have h:=run_bytes_of_string (P:=prog) w 9 22 5 (strOfNums A) underlying9 underlying22 underlying5;rw [strOfNums_size] at h;refine ⟨_,_,h,?_,?_,?_,?_⟩
 .obtain ⟨a,D,e,S⟩:=aF9 w.drew A O (grownCap w A.length 0 5);simp only [Value.slice.injEq] at e;obtain ⟨rfl,_,rfl⟩:=e;refine ⟨_,_,rfl,grownCap_ge _ _ _ _,grownCap_le_maxLen _ _ _ _ (by unfold maxLen;omega),fun N=>?_⟩;obtain ⟨b,G,H,F,I⟩:=S N;exact ⟨b,G,H,⟨by cases H;exact Nat.le_refl _,F,by simp⟩,I⟩
 .have J:w.grownBy w.drew none:=⟨rfl,rfl,rfl,Nat.le_refl _,fun _ _ _=>rfl⟩;exact aA J gWA
 .simp
 .intro j Z;have Y:=grownCap_ge w A.length 0 5
  have M:(bytesRow (strOfNums A) (grownCap w A.length 0 5)).size=grownCap w A.length 0 5:=by
   simp only [bytesRow,Array.size_append,Array.size_replicate,strOfNums,ByteArray.size,map_toArray,size_toArray,length_map];omega
  have:=frozen?_alloc_mark w.drew (bytesRow (strOfNums A) (grownCap w A.length 0 5)) 5 (bytesRow (strOfNums A) (grownCap w A.length 0 5)).size ((bytesRow (strOfNums A) (grownCap w A.length 0 5)).size+1) j;refine Eq.trans this ?_;rw [M];simp;omega
theorem eC (h) (N:Bys h) (J:h.length<=1000000000) (w) :
  Calls prog 80 #[.string (strOfNums h)] w fun e H=>∃ G,e=.returned G/\PoR w.heap.size H G (aI h)/\w.grownBy H none:=by
 obtain ⟨A,D,F,O,E,M,_⟩:=aBA h N J w
 go_enter func80,ntmps80
 go_wp2;go_ret;rw [<- M];have I:=grownBy_alloc D (Obj.cells #[.int .i64 1,.slice (some ⟨w.heap.size,0,none⟩) h.length A,.int .i64 0] 88) none;exact ⟨_,rfl,aFD D 1 0 _ h _ E.size ((O.turn (Zo.on (some D.heap.size) (Nat.le_refl _) (fun k e=>by cases e;exact .inr (Nat.le_refl _)))).K I),aA E I⟩
theorem lP (v A) (w:World) (G:RdB w.heap.size w v A) (hn:A.length<=4194304) :
  Calls prog 81 #[v] w fun e O=>∃ M,e=.returned M/\PoR w.heap.size O M (aI A)/\w.grownBy O none:=by
 have N:=aB (aBl v A w G hn);obtain ⟨a,a2,I,_⟩:=id G;subst I;clear G
 go_enter func81,ntmps81
 go_wp2_with fail
 refine N.out.mono ?_;rintro e F ⟨Y,rfl,E,J⟩;obtain ⟨Z,c1,H,_,_⟩:=E.sl;have D:∀ b,Y.ownBlock=some b->b<F.heap.size:=fun b e=>(ownsRow.lt E b e).2;have HT:=aB (aJP (r:=some F.heap.size) E (fun b e h=>by cases h;have:=D _ e;omega));subst H;clear N E D;go_wp2;go_ret;have S:=grownBy_alloc F (Obj.cells #[.int .i64 1,.slice Z A.length c1,.int .i64 0] 88) none;exact ⟨_,rfl,aFD F 1 0 _ A _ J.size (HT.out.K S),aA J S⟩
end Go.Proofs.YtckcaefnokeodaaGreatDoor
