import Derived.Test.YtgifkcpdihphlaaGreatDoorMAO
set_option maxHeartbeats 16000000
set_option maxRecDepth 100000
namespace Go.Proofs.YtgifkcpdihphlaaGreatDoor
open Tryz
open Go.RowKit
def nG (n:Int):Int:=if n<10 then 48+n else 87+n
def dN (p:Int):List Int:=[92,117,nG (p / 4096%16),nG (p / 256%16),nG (p / 16%16),nG (p%16)]
def nC (p:Int):Bool:=decide (p<32)||decide (p=127)||decide (p=8232)||decide (p=8233) || !bW p
def qM (p:Int):List Int:=
 if p=8 then [92,98] else if p=12 then [92,102] else if p=10 then [92,110] else if p=13 then [92,114] else if p=9 then [92,116]
 else if p=34 then [92,34] else if p=92 then [92,92] else []
def fT (p:Int):List Int:=if qM p≠[] then qM p else if nC p then dN p else enc p
def jM (ps:List Int):List Int:=ps.flatMap fT
def quR (us:List Int):List Int × Int:=if (fuR us).2=0 then (34::jM (fuR us).1++[34],0) else ([],(fuR us).2)
theorem aG3 (p:Int):(qM p).length<=2:=by
 unfold qM
 repeat' split
 all_goals simp
theorem aH7 (p:Int):(fT p).length<=6:=by
 unfold fT;have j:=aG3 p;have h:=uW p
 split
 ·omega
 ·split
  ·simp [dN]
  ·omega
theorem zJ (ps:List Int):(jM ps).length<=6*ps.length:=by
 induction ps with
 | nil=>simp [jM]
 | cons p ps ih=>
   have:=aH7 p;simp only [jM,List.flatMap_cons,List.length_append,List.length_cons] at ih ⊢;omega
theorem aBO (zs:List Int) (k:Nat) (h:k<zs.length):jM (zs.take (k+1))=jM (zs.take k)++fT (zs[k]?.getD 0):=by
 rw [dF zs k h];simp [jM]
def aBm:ByteArray:={ data:=#[48,49,50,51,52,53,54,55,56,57,97,98,99,100,101,102] }
theorem aI8 (n:Nat) (h:n<16) (W:World):(Instr.index 9 (.string aBm) (.int .i32 (n:Int))).run prog W=.ok (.int .u8 (nG n)) W:=by
 rw [run_index_string W 9 aBm .i32 (n:Int) underlying9];have j:aBm.size=16:=rfl;rw [dif_pos ⟨by omega,by rw [j];omega⟩];congr 2
 match n,h with
 | 0,_=>rfl
 | 1,_=>rfl
 | 2,_=>rfl
 | 3,_=>rfl
 | 4,_=>rfl
 | 5,_=>rfl
 | 6,_=>rfl
 | 7,_=>rfl
 | 8,_=>rfl
 | 9,_=>rfl
 | 10,_=>rfl
 | 11,_=>rfl
 | 12,_=>rfl
 | 13,_=>rfl
 | 14,_=>rfl
 | 15,_=>rfl
 | n+16,h=>omega
theorem aHY (n:Nat) (h:n<16) (W:World):(Instr.index 9 (.string aBm) (.int .i64 (n:Int))).run prog W=.ok (.int .u8 (nG n)) W:=by
 have:=aI8 n h W;rw [run_index_string W 9 aBm _ (n:Int) underlying9] at this ⊢;have j:aBm.size=16:=rfl;rw [dif_pos ⟨by omega,by rw [j];omega⟩] at this ⊢;exact this
theorem aFK (p:Int) (h:0<=p) (j:p<2147483648):bits .and .i32 p 15=p%16:=oD 4 (by omega) p h j
theorem aMW (p:Int) (W:World):(Instr.index 9 (.string aBm) (.int .i32 (p%16))).run prog W=.ok (.int .u8 (nG (p%16))) W:=by
 obtain ⟨n,h⟩:=Int.eq_ofNat_of_zero_le (show 0<=p%16 by omega);rw [h];exact aI8 n (by omega) W
theorem aK2 (p:Int) (W:World):(Instr.index 9 (.string aBm) (.int .i64 (p%16))).run prog W=.ok (.int .u8 (nG (p%16))) W:=by
 obtain ⟨n,h⟩:=Int.eq_ofNat_of_zero_le (show 0<=p%16 by omega);rw [h];exact aHY n (by omega) W
end Go.Proofs.YtgifkcpdihphlaaGreatDoor
namespace Go.Proofs.YtgifkcpdihphlaaGreatDoor
open Tryz
def aI (k:Int):List Pc:=[⟨k,[],0⟩]
def aG (t:List Int):List Pc:=[⟨1,t,0⟩]
def vD:Pc:=⟨6,[],0⟩
def jA (dss:List (List Pc)):List Pc:=dss.flatMap fun ds=>ds++[vD]
def cT:List (List Pc)->List Pc
 | []=>aI 0
 | ds::dss=>ds++jA dss
theorem aBG (h:List (List Pc)) (j:List Pc):jA (h++[j])=jA h++(j++[vD]):=by simp [jA]
def spl:List Int->List Int->List (List Int)
 | cur,[]=>[cur]
 | cur,x::xs=>if x=10 then cur::spl [] xs else spl (cur++[x]) xs
theorem aJR (h xs:List Int):spl h xs≠[]:=by
 induction xs generalizing h with
 | nil=>simp [spl]
 | cons x xs ih=>simp only [spl];split<;>simp [ih]
def sX:List (List Int)->List (List Pc)
 | []=>[]
 | [l]=>[aG l]
 | l::ls=>aG l::aI 5::sX ls
def rC (ls:List (List Int)):List (List Pc):=ls.flatMap fun l=>[aI 5,aG l]
theorem aIA:∀ (l:List Int) (h:List (List Int)),sX (l::h)=aG l::rC h
 | l,[]=>rfl
 | l,m::h=>by simp only [sX,aIA m h];simp [rC]
def jP (c:Cm):List Pc:=if c.b then cT (sX (spl [] (47::42::c.t++[42,47]))) else aG (47::47::c.t)
def bI (cs:List Cm):List (List Pc):=cs.flatMap fun c=>[jP c,aI 4]
def cW (cs:List Cm):List (List Pc):=cs.flatMap fun c=>[aI 4,jP c]
theorem aB3 (h:List Cm) (c:Cm):bI (h++[c])=bI h++[jP c,aI 4]:=by simp [bI]
theorem aBS (h:List Cm) (c:Cm):cW (h++[c])=cW h++[aI 4,jP c]:=by simp [cW]
def cO (us:List Int):List Int:=if nmR us then us else (quR us).1
def nB (n:Nod):List (List Pc):=if n.mem then [aG (cO n.key++[58,32])] else []
def fF (n:Nod):List Pc:=
 if n.k=3 then aG n.X else if n.k=4 then aG (quR n.U).1
 else if n.k=0 then aG [110,117,108,108] else if n.k=1 then aG [116,114,117,101] else aG [102,97,108,115,101]
section
variable (V:List Nod->List Pc × List Nod)
def aT:Nat->List Nod->List Nod
 | 0,R=>R
 | k+1,R=>(V (aT k R)).2
def gO:List Nod->List (List Pc)
 | []=>[]
 | n::R=>bI n.L++(nB n++[(V (n::R)).1])
def itK:Nat->List Nod->List (List Pc)
 | 0,_=>[]
 | k+1,R=>itK k R++((if k=0 then [] else [aG [44],aI 2])++gO V (aT V k R))
end
def iT (k:Int):Int:=if k=6 then 123 else 91
def iY (k:Int):Int:=if k=6 then 125 else 93
def nH (k:Int):Int:=if k=6 then 2 else 3
def aA3:List Pc:=[⟨1,[44],0⟩,⟨0,[],0⟩,⟨9,[],0⟩]
def iU (k:Int) (items:List (List Pc)) (tail:List Cm):List (List Pc):=aI (nH k)::(items++(aA3::cW tail))
def fM (ind:Int) (dss:List (List Pc)):List Pc:=cT dss++[⟨7,[],ind⟩]
def iZ (ind:Int) (n:Nod) (items:List (List Pc)):List Pc:=
 if n.C=0 then
  if n.tail=[] then aG [iT n.k,iY n.k]
  else cT [aG [iT n.k],fM ind (cW n.tail),aI 4,aG [iY n.k]]
 else cT [aG [iT n.k],fM ind (iU n.k items n.tail),aI (nH n.k),aG [iY n.k]]++[⟨8,[],0⟩]
def aF (ind:Int):Nat->List Nod->List Pc × List Nod
 | 0,R=>([],R)
 | _+1,[]=>([],[])
 | d+1,n::R=>if n.k<5 then (fF n,R) else (iZ ind n (itK (aF ind d) n.C.toNat R),aT (aF ind d) n.C.toNat R)
theorem oG {d:Nat} {m:Bool} {ind:Int} (ih:∀ R u,aD aZ d m (R,())=some (u,())->(∀ n∈R,n.k<5->n.C=0)->(aF ind d R).2=u) :
  ∀ (k:Nat) (R u:List Nod),aN (aD aZ d m) k (R,())=some (u,())->(∀ n∈R,n.k<5->n.C=0)->∀ j,j<=k->aN (aD aZ d m) j (R,())=some (aT (aF ind d) j R,()):=by
 intro k R u h J j N
 induction j with
 | zero=>rfl
 | succ j ihj=>
   have D:=ihj (by omega);obtain ⟨P,M⟩:=(iH (bV aZ d m).1 (bV aZ d m).2 j).2 _ _ D
   have G:aN (aD aZ d m) (j+1) (R,())=(aN (aD aZ d m) j (R,())).bind (aD aZ d m):=by
    have:∀ (f:List Nod × Unit->Option (List Nod × Unit)) (k:Nat) (s:List Nod × Unit),aN f (k+1) s=(aN f k s).bind f:=by
     intro f k
     induction k with
     | zero=>intro s;simp [aN]
     | succ k ih=>intro s;rw [aN];simp only [aN];cases f s with
       | none=>rfl
       | some x=>exact ih x
    exact this _ _ _
   rw [G,D,Option.bind_some];cases E:aD aZ d m (aT (aF ind d) j R,()) with
   | none=>
     exfalso
     have L:∀ i,aN (aD aZ d m) (j+1+i) (R,())=none:=by
      intro i
      have A:∀ (f:List Nod × Unit->Option (List Nod × Unit)) (a b:Nat) (s:List Nod × Unit),aN f (a+b) s=(aN f a s).bind (aN f b):=by
       intro f a
       induction a with
       | zero=>intro b s;simp [aN]
       | succ a ih=>intro b s;rw [show a+1+b=(a+b)+1 by omega];simp only [aN];cases f s with
         | none=>rfl
         | some x=>exact ih b x
      rw [A,G,D,Option.bind_some,E];rfl
     have:=L (k - (j+1));rw [show j+1+(k - (j+1))=k by omega,h] at this;cases this
   | some x=>
     obtain ⟨H,⟨⟩⟩:=x;have:=ih _ H E (fun n y=>J n (by rw [M];exact List.mem_append_right _ y));simp only [aT,this]
theorem qT (ind:Int):∀ (d:Nat) (m:Bool) (R j:List Nod),aD aZ d m (R,())=some (j,())->(∀ n∈R,n.k<5->n.C=0)->(aF ind d R).2=j
 | 0,m,R,j,h,_=>by simp [aD] at h
 | d+1,m,[],j,h,_=>by simp [aD] at h
 | d+1,m,n::R,j,h,hn=>by
   by_cases y:n.mem≠m
   ·simp [aD,y] at h
   ·by_cases D:5<=n.k/\d=0
    ·simp [aD,y,D,aZ] at h
    ·simp only [aD,if_neg y,if_neg D,aZ,Option.bind_some] at h
     by_cases A:n.k<5
     ·have E:=hn n (by simp) A;rw [E] at h;simp only [Int.toNat_zero,aN,Option.some.injEq,Prod.mk.injEq,and_true] at h;simp only [aF,if_pos A,h]
     ·simp only [aF,if_neg A];have:=oG (ind:=ind) (fun R j h G=>qT ind d _ R j h G) _ R j h (fun n u=>hn n (by simp [u])) _ (Nat.le_refl _);rw [h] at this;simpa using this.symm
def mes:List Pc->Nat
 | []=>0
 | p::ps=>1+p.t.length+mes ps
theorem fD (a b:List Pc):mes (a++b)=mes a+mes b:=by
 induction a with
 | nil=>simp [mes]
 | cons p a ih=>simp only [List.cons_append,mes,ih];omega
theorem pN (a:List Pc):a.length<=mes a:=by
 induction a with
 | nil=>simp
 | cons p a ih=>simp only [List.length_cons,mes];omega
theorem wB (a:List Pc):(mes a:Int)=a.length+cR a:=by
 induction a with
 | nil=>simp [mes,cR]
 | cons p a ih=>simp only [List.length_cons,mes,cR];omega
theorem aGz (a:List Pc):∀ p∈a,p.t.length<=mes a:=by
 induction a with
 | nil=>simp
 | cons p a ih=>
   intro q j;simp only [mes];rcases List.mem_cons.1 j with rfl | h
   ·omega
   ·have:=ih q h;omega
def bO:List (List Pc)->Nat
 | []=>0
 | ds::dss=>mes ds+1+bO dss
theorem cP (a b:List (List Pc)):bO (a++b)=bO a+bO b:=by
 induction a with
 | nil=>simp [bO]
 | cons p a ih=>simp only [List.cons_append,bO,ih];omega
theorem cU (a:List (List Pc)):a.length<=bO a:=by
 induction a with
 | nil=>simp
 | cons p a ih=>simp only [List.length_cons,bO];omega
theorem aEa (a:List (List Pc)):∀ p∈a,mes p<=bO a:=by
 induction a with
 | nil=>simp
 | cons p a ih=>
   intro q j;simp only [bO];rcases List.mem_cons.1 j with rfl | h
   ·omega
   ·have:=ih q h;omega
theorem aAK (h:List (List Pc)):mes (jA h)=bO h:=by
 induction h with
 | nil=>rfl
 | cons ds h ih=>rw [show jA (ds::h)=(ds++[vD])++jA h by simp [jA],fD,fD,ih];simp [bO,mes,vD]
theorem jF (h:List (List Pc)):mes (cT h)<=bO h+1:=by
 cases h with
 | nil=>simp [cT,aI,mes,bO]
 | cons ds h=>simp only [cT,fD,aAK,bO];omega
def oR:List (List Int)->Nat
 | []=>0
 | l::ls=>l.length+1+oR ls
theorem rP (h xs:List Int):oR (spl h xs)=h.length+xs.length+1:=by
 induction xs generalizing h with
 | nil=>simp [spl,oR]
 | cons x xs ih=>
   simp only [spl]
   split
   ·simp only [oR,ih,List.length_cons,List.length_nil];omega
   ·rw [ih];simp only [List.length_append,List.length_cons,List.length_nil];omega
theorem aIP (h:List (List Int)):bO (sX h)<=4*oR h:=by
 induction h with
 | nil=>simp [sX,bO]
 | cons l h ih=>
   cases h with
   | nil=>simp only [sX,bO,aG,mes,oR];omega
   | cons m h=>simp only [sX,bO,aG,aI,mes,oR,List.length_nil] at ih ⊢;omega
theorem aGT (c:Cm):mes (jP c)<=4*c.t.length+24:=by
 unfold jP
 split
 ·have:=jF (sX (spl [] (47::42::c.t++[42,47])));have h:=aIP (spl [] (47::42::c.t++[42,47]));rw [rP] at h;simp only [List.length_nil,List.length_append,List.length_cons] at h;omega
 ·simp only [aG,mes,List.length_cons];omega
def wC:List Cm->Nat
 | []=>0
 | c::cs=>4*c.t.length+30+wC cs
theorem gY (h:List Cm):bO (bI h)<=wC h:=by
 induction h with
 | nil=>simp [bI,bO,wC]
 | cons c h ih=>
   rw [show bI (c::h)=[jP c,aI 4]++bI h by simp [bI],cP];have:=aGT c;simp only [bO,aI,mes,List.length_nil,wC];omega
theorem lD (h:List Cm):bO (cW h)<=wC h:=by
 induction h with
 | nil=>simp [cW,bO,wC]
 | cons c h ih=>
   rw [show cW (c::h)=[aI 4,jP c]++cW h by simp [cW],cP];have:=aGT c;simp only [bO,aI,mes,List.length_nil,wC];omega
theorem aDl (h:List Int):(quR h).1.length<=6*h.length+2:=by
 unfold quR
 split
 ·have:=zJ (fuR h).1;have:=aCQ h;simp only [List.length_append,List.length_cons,List.length_nil];omega
 ·simp
theorem sM (h:List Int):(cO h).length<=6*h.length+2:=by
 unfold cO
 split
 ·omega
 ·exact aDl h
def wN (n:Nod):Nat:=100+wC n.L+wC n.tail+6*n.key.length+6*n.U.length+n.X.length
def wNs:List Nod->Nat
 | []=>0
 | n::R=>wN n+wNs R
theorem vO (a b:List Nod):wNs (a++b)=wNs a+wNs b:=by
 induction a with
 | nil=>simp [wNs]
 | cons p a ih=>simp only [List.cons_append,wNs,ih];omega
theorem aJC (n:Nod):mes (fF n)+40+wC n.L+wC n.tail+6*n.key.length<=wN n:=by
 have:=aDl n.U;unfold fF wN
 repeat' split
 all_goals simp only [aG,mes,List.length_cons,List.length_nil]
 all_goals omega
theorem aCg {V:List Nod->List Pc × List Nod} (n:Nod) (R:List Nod) (x:Nat) (h:mes (V (n::R)).1+40+wC n.L+6*n.key.length<=x):bO (gO V (n::R))+20<=x:=by
 have u:=gY n.L;have j:=sM n.key;simp only [gO,cP,bO];unfold nB
 split
 ·simp only [bO,aG,mes,List.length_append,List.length_cons,List.length_nil];omega
 ·simp only [bO];omega
theorem nS {σ:Type} (f:σ->Option σ):∀ (k:Nat) (s:σ),aN f (k+1) s=(aN f k s).bind f
 | 0,s=>by simp [aN]
 | k+1,s=>by
   rw [aN];simp only [aN];cases f s with
   | none=>rfl
   | some x=>exact nS f k x
theorem vS {d:Nat} {m:Bool} {ind:Int} (ih:∀ R j,aD aZ d m (R,())=some (j,())->(∀ n∈R,n.k<5->n.C=0)->∃ n P,R=n::(P++j)/\mes (aF ind d R).1+40+wC n.L+6*n.key.length<=wN n+wNs P) :
  ∀ (k:Nat) (R j:List Nod),aN (aD aZ d m) k (R,())=some (j,())->(∀ n∈R,n.k<5->n.C=0)->∃ P,R=P++j/\bO (itK (aF ind d) k R)<=wNs P
 | 0,R,j,h,_=>by
   simp only [aN,Option.some.injEq,Prod.mk.injEq,and_true] at h;exact ⟨[],by simpa using h,by simp [itK,bO]⟩
 | k+1,R,j,h,hn=>by
   have G:=oG (ind:=ind) (fun R j h M=>qT ind d _ R j h M) _ R j h hn k (by omega);obtain ⟨H,y,N⟩:=vS ih k R _ G hn;rw [nS,G,Option.bind_some] at h;obtain ⟨n,E,u,D⟩:=ih _ j h (fun n A=>hn n (by rw [y];exact List.mem_append_right _ A));refine ⟨H++(n::E),by rw [List.append_assoc,List.cons_append,<- u];exact y,?_⟩;simp only [itK,cP,vO,wNs];have J:=aCg (V:=aF ind d) n (E++j) (wN n+wNs E) (by rw [<- u];exact D);rw [<- u] at J
   split
   ·simp only [bO];omega
   ·simp only [bO,aG,aI,mes,List.length_cons,List.length_nil];omega
theorem aHX (ind:Int) (n:Nod) (h:List (List Pc)):mes (iZ ind n h)<=bO h+wC n.tail+40:=by
 have y:=lD n.tail;unfold iZ
 split
 ·split
  ·simp only [aG,mes,List.length_cons,List.length_nil];omega
  ·refine Nat.le_trans (jF _) ?_;have j:=jF (cW n.tail);simp only [bO,aG,aI,mes,fM,fD,List.length_cons,List.length_nil];omega
 ·rw [fD];have u:=jF [aG [iT n.k],fM ind (iU n.k h n.tail),aI (nH n.k),aG [iY n.k]];have j:=jF (iU n.k h n.tail);simp only [iU,bO,cP,aG,aI,mes,fM,fD,aA3,List.length_cons,List.length_nil] at j u ⊢;omega
theorem sS (ind:Int):∀ (d:Nat) (m:Bool) (R j:List Nod),aD aZ d m (R,())=some (j,())->(∀ n∈R,n.k<5->n.C=0)->∃ n P,R=n::(P++j)/\mes (aF ind d R).1+40+wC n.L+6*n.key.length<=wN n+wNs P
 | 0,m,R,j,h,_=>by simp [aD] at h
 | d+1,m,[],j,h,_=>by simp [aD] at h
 | d+1,m,n::R,j,h,hn=>by
   by_cases u:n.mem≠m
   ·simp [aD,u] at h
   ·by_cases D:5<=n.k/\d=0
    ·simp [aD,u,D,aZ] at h
    ·simp only [aD,if_neg u,if_neg D,aZ,Option.bind_some] at h
     by_cases A:n.k<5
     ·have E:=hn n (by simp) A;rw [E] at h;simp only [Int.toNat_zero,aN,Option.some.injEq,Prod.mk.injEq,and_true] at h;refine ⟨n,[],by rw [h];rfl,?_⟩;simp only [aF,if_pos A,wNs];have:=aJC n;omega
     ·obtain ⟨P,G,u⟩:=vS (ind:=ind) (fun R j h H=>sS ind d _ R j h H) _ R j h (fun n y=>hn n (by simp [y]));refine ⟨n,P,by rw [G],?_⟩;simp only [aF,if_neg A];have:=aHX ind n (itK (aF ind d) n.C.toNat R);unfold wN;omega
def dZ (ind:Int) (t:Tre):List Pc:=
 match t.N with
 | []=>[]
 | n::R=>cT (bI n.L++((aF ind 201 (n::R)).1::aI 4::bI t.tail))
theorem aDF:∀ (j:List Int),(∀ u∈j,u<128)->fu j=j
 | [],_=>rfl
 | [x],h=>rfl
 | x::y::r,h=>by
   have D:=h x (by simp);have ih:=aDF (y::r) (fun u A=>h u (by simp at A ⊢;right;exact A));rw [fu,if_neg (by simp [lU];omega),ih]
theorem aAx (y:List Int) (h:nmR y=true):∀ u∈y,iA u=true\/aK u=true:=by
 intro u D;obtain ⟨j,A,rfl⟩:=List.getElem_of_mem D;unfold nmR tS at h;simp only [Bool.and_eq_true,List.all_eq_true,List.mem_range] at h;have:=h.1 j A;simp only [A,List.getElem?_eq_getElem,Option.getD_some,vT,Bool.or_eq_true,Bool.and_eq_true] at this;rcases this with h | h
 ·exact .inl h
 ·exact .inr h.2
theorem aA5 (u:Int) (h:iA u=true\/aK u=true):fT u=[u]/\0<=u/\u<128:=by
 have A:36<=u/\u<123/\u≠92:=by
  simp only [iA,aK,decide_eq_true_eq] at h;omega
 refine ⟨?_,by omega,by omega⟩
 have y:qM u=[]:=by unfold qM;repeat' split
                    all_goals first | omega | rfl
 have j:nC u=false:=(by simp [nC,bW];omega);unfold fT;rw [y,if_neg (by simp),j];simp only [Bool.false_eq_true,if_false];unfold enc
 first | (rw [if_pos (by omega)]) | simp [show u<128 by omega] | (split<;>first | rfl | omega)
theorem aKl (j:List Int) (h:nmR j=true):quR j=(34::j++[34],0):=by
 have A:=aAx j h;have E:fu j=j:=aDF j (fun u y=>(aA5 u (A u y)).2.2)
 have y:j.all bZ=true:=by
  rw [List.all_eq_true];intro u y;have:=(aA5 u (A u y)).2;simp [bZ];omega
 have G:∀ (l:List Int),(∀ u∈l,iA u=true\/aK u=true)->jM l=l:=by
  intro l
  induction l with
  | nil=>intro _;rfl
  | cons x l ih=>intro D;rw [show jM (x::l)=fT x++jM l by simp [jM],(aA5 x (D x (by simp))).1,ih (fun u y=>D u (by simp [y]))];rfl
 unfold quR fuR;rw [if_pos y,E];simp only [if_true,G j A]
def bhO (T:Tr) (b:Int):Int:=if (leadT T).2=true then (leadT T).1 else (leadT T).1+b
def bhL:List Tr->Int->Int
 | [],b=>b
 | T::r,b=>bhO T (bhL r b)
def ly (width:Int):Tr->Int->Int->Int->List Int × Int
 | .leaf p,ind,col,_=>
   if p.k=1 then (p.t,col+aH p.t) else if p.k=5 then ([10],0) else if p.k=2\/p.k=3\/p.k=4 then (aJ ind,ind) else ([],col)
 | .bin p x y,ind,col,b=>
   if p.k=6 then ((ly width x ind col (bhO y b)).1++(ly width y ind (ly width x ind col (bhO y b)).2 b).1,(ly width y ind (ly width x ind col (bhO y b)).2 b).2)
   else ly width x ind col b
 | .un p x,ind,col,b=>
   if p.k=7 then ly width x (ind+p.n) col b
   else match aE x [] with
    | some text=>if col+aH text+b<=width then (text,col+aH text) else ly width x ind col b
    | none=>ly width x ind col b
def lyL (width:Int):List Tr->Int->Int->Int->List Int × Int
 | [],_,col,_=>([],col)
 | T::r,ind,col,b=>((ly width T ind col (bhL r b)).1++(lyL width r ind (ly width T ind col (bhL r b)).2 b).1,(lyL width r ind (ly width T ind col (bhL r b)).2 b).2)
def lyS (width:Int):List pZ->Int->List Int
 | [],_=>[]
 | it::r,col=>(ly width it.T it.ind col (kB (r.map (·.T)))).1++lyS width r (ly width it.T it.ind col (kB (r.map (·.T)))).2
theorem mZ (width:Int):∀ (f:Nat) (its:List pZ) (out met:List Int) (col:Int) (r:List Int × List Int),lay width none f its out met col=some r->r.1=out++lyS width its col
 | 0,_,_,_,_,_,h=>by simp [lay] at h
 | f+1,[],out,met,col,r,h=>by simp only [lay,Option.some.injEq] at h;subst h;simp [lyS]
 | f+1,⟨.leaf p,n,ind⟩::rest,out,met,col,r,h=>by
   simp only [lay] at h;simp only [lyS,ly]
   split at h
   ·rename_i h1
    rw [mZ width f _ _ _ _ _ h];simp [h1]
   ·rename_i h1
    split at h
    ·rename_i h2
     rw [mZ width f _ _ _ _ _ h];simp [h2]
    ·rename_i h2
     split at h
     ·rename_i h3
      rw [mZ width f _ _ _ _ _ h];simp [h1,h2,h3]
     ·rename_i h3
      rw [mZ width f _ _ _ _ _ h];simp [h1,h2,h3]
 | f+1,⟨.bin p x y,n,ind⟩::rest,out,met,col,r,h=>by
   simp only [lay] at h;simp only [lyS,ly]
   split at h
   ·rename_i h1
    rw [mZ width f _ _ _ _ _ h];simp only [lyS,List.map_cons,kB,h1,if_true,bhO,List.append_assoc]
   ·rename_i h1
    rw [mZ width f _ _ _ _ _ h];simp only [lyS,h1,if_false]
 | f+1,⟨.un p x,n,ind⟩::rest,out,met,col,r,h=>by
   simp only [lay] at h;simp only [lyS,ly]
   split at h
   ·rename_i h1
    rw [mZ width f _ _ _ _ _ h];simp only [lyS,h1,if_true]
   ·rename_i h1
    simp only [h1,if_false];cases j:aE x [] with
    | some text=>
      rw [j] at h;simp only at h ⊢
      split at h
      ·rename_i h2
       rw [mZ width f _ _ _ _ _ h];simp only [h2,if_true,List.append_assoc]
      ·rename_i h2
       rw [mZ width f _ _ _ _ _ h];simp only [lyS,h2,if_false]
    | none=>
      rw [j] at h;simp only at h ⊢;rw [mZ width f _ _ _ _ _ h];simp only [lyS]
theorem aLo (xs ys:List Tr) (b:Int):bhL (xs++ys) b=bhL xs (bhL ys b):=by
 induction xs with
 | nil=>rfl
 | cons T r ih=>simp only [List.cons_append,bhL,ih]
theorem aLk (width:Int) (xs ys:List Tr) (ind col b:Int):lyL width (xs++ys) ind col b=((lyL width xs ind col (bhL ys b)).1++(lyL width ys ind (lyL width xs ind col (bhL ys b)).2 b).1,(lyL width ys ind (lyL width xs ind col (bhL ys b)).2 b).2):=by
 induction xs generalizing col with
 | nil=>simp [lyL]
 | cons T r ih=>simp only [List.cons_append,lyL,ih,aLo,List.append_assoc]
def uF (a b:Tr):Tr:=.bin vD a b
def iP:List Tr->Tr
 | []=>.leaf ⟨0,[],0⟩
 | T::r=>r.foldl uF T
theorem aK9 (width:Int) (r:List Tr):∀ (T:Tr) (ind col b:Int),ly width (r.foldl uF T) ind col b=lyL width (T::r) ind col b:=by
 induction r with
 | nil=>intro T ind col b;simp [lyL,bhL]
 | cons U r ih=>
   intro T ind col b;rw [List.foldl_cons,ih];simp only [lyL,bhL,uF,ly,vD,if_true,List.append_assoc]
theorem aIW (width:Int) (h:List Tr) (ind col b:Int):ly width (iP h) ind col b=lyL width h ind col b:=by
 cases h with
 | nil=>simp [iP,ly,lyL]
 | cons T r=>exact aK9 width r T ind col b
def Bl (ps:List Pc) (T:Tr):Prop:=∀ st,bd ps st=some (T::st)
theorem uI:∀ (ps qs:List Pc) (st:List Tr),bd (ps++qs) st=(bd ps st).bind (bd qs)
 | [],qs,st=>rfl
 | p::ps,qs,st=>by
   simp only [List.cons_append,bd];cases dE st p with
   | none=>rfl
   | some s=>simp only [Option.bind_some];exact uI ps qs s
theorem aCK (p:Pc) (h:ar p.k=0):Bl [p] (.leaf p):=fun st=>by simp [bd,dE,h]
theorem aJx {ps:List Pc} {T:Tr} (h:Bl ps T) (p:Pc) (j:ar p.k=1):Bl (ps++[p]) (.un p T):=fun st=>by
 rw [uI,h,Option.bind_some];simp [bd,dE,j]
theorem aMH {ps qs:List Pc} {T U:Tr} (h:Bl ps T) (j:Bl qs U) (p:Pc) (u:ar p.k=2):Bl (ps++(qs++[p])) (.bin p T U):=fun st=>by
 rw [uI,h,Option.bind_some,uI,j,Option.bind_some];simp [bd,dE,u]
inductive BlL:List (List Pc)->List Tr->Prop where
 | nil:BlL [] []
 | cons {ds T dss Ts} : Bl ds T->BlL dss Ts->BlL (ds::dss) (T::Ts)
theorem BlL.app {a b:List (List Pc)} {x y:List Tr} (h:BlL a x) (j:BlL b y):BlL (a++b) (x++y):=by
 induction h with
 | nil=>exact j
 | cons h1 _ ih=>exact .cons h1 ih
theorem BlL.one {a:List Pc} {x:Tr} (h:Bl a x):BlL [a] [x]:=.cons h .nil
theorem aLg {j:List (List Pc)} {u:List Tr} (h:BlL j u):∀ (T:Tr) (st:List Tr),bd (jA j) (T::st)=some (u.foldl uF T::st):=by
 induction h with
 | nil=>intro T st;rfl
 | @cons ds U j u h1 _ ih=>
   intro T st;have e:jA (ds::j)=(ds++[vD])++jA j:=(by simp [jA]);rw [e,uI,uI,h1,Option.bind_some];simp only [bd,dE,vD,ar];exact ih (uF T U) st
theorem xE {j:List (List Pc)} {u:List Tr} (h:BlL j u):Bl (cT j) (iP u):=by
 intro st;cases h with
 | nil=>exact aCK ⟨0,[],0⟩ (by simp [ar]) st
 | cons h1 h2=>rw [cT,uI,h1,Option.bind_some];exact aLg h2 _ st
def Vt (t:List Int):Prop:=∃ q:List Int,q.all bW=true/\t=aQ q
theorem aAP (q r:List Int):aQ (q++r)=aQ q++aQ r:=by simp [aQ]
theorem mN:Vt []:=⟨[],rfl,rfl⟩
theorem kT {a b:List Int} (y:Vt a) (h:Vt b):Vt (a++b):=by
 obtain ⟨q,j,rfl⟩:=y;obtain ⟨r,u,rfl⟩:=h;exact ⟨q++r,by rw [List.all_append,j,u];rfl,(aAP q r).symm⟩
theorem kH {q:List Int} (h:q.all bW=true):aH (aQ q)=q.length:=by
 have:=aAi h;rw [qH _ h] at this;exact this
theorem aL8 {t:List Int} (h:Vt t):0<=aH t:=by
 obtain ⟨q,j,rfl⟩:=h;rw [kH j];omega
theorem aHN {a b:List Int} (y:Vt a) (u:Vt b):aH (a++b)=aH a+aH b:=by
 obtain ⟨q,h,rfl⟩:=y;obtain ⟨r,j,rfl⟩:=u;rw [<- aAP,kH h,kH j,kH (by rw [List.all_append,h,j];rfl)];simp
theorem jD {t:List Int} (h:∀ x∈t,0<=x/\x<128):Vt t:=by
 induction t with
 | nil=>exact mN
 | cons x t ih=>
   have j:=h x (by simp);have:Vt [x]:=⟨[x],by simp [bW];omega,by simp [aQ,xO x j.2]⟩;exact kT this (ih (fun y u=>h y (by simp [u])))
theorem aM6 {a:List Int} (A:Bys a) (h:0<=aH a):Vt a:=by
 have D:(eM a).2.1=0:=by
  apply Classical.byContradiction;intro y;rw [aB6 y] at h;omega
 have u:=uB A D
 by_cases j:(eM a).1.all bW=true
 ·rw [qH _ j] at u;exact ⟨_,j,(by simpa using congrArg Prod.fst u.symm)⟩
 ·rw [aDV _ (by simpa using j)] at u;simp at u
theorem aGq {p:Int} (h:bW p=true):0<=p/\p<=1114111:=by
 simp [bW] at h;omega
theorem aJl (p:Int) (h:128<=p) (u:p<=1114111):∀ x∈enc p,128<=x:=by
 by_cases a:p<2048
 ·rw [aER p (by omega) a];intro x j;simp only [List.mem_cons,List.not_mem_nil,or_false] at j;rcases j with rfl | rfl<;>omega
 ·by_cases b:p<65536
  ·rw [aEP p a b];intro x j;simp only [List.mem_cons,List.not_mem_nil,or_false] at j;rcases j with rfl | rfl | rfl<;>omega
  ·rw [aE5 p b];intro x j;simp only [List.mem_cons,List.not_mem_nil,or_false] at j;rcases j with rfl | rfl | rfl | rfl<;>omega
theorem aDr {p:Int} (h:bW p=true) (y:p≠10):10 ∉ enc p:=by
 by_cases u:p<128
 ·rw [xO p u];simp;omega
 ·intro j;have:=aJl p (by omega) (aGq h).2 10 j;omega
def fK:List Int->List Int->List Int
 | cur,[]=>cur
 | cur,x::xs=>if x=10 then fK [] xs else fK (cur++[x]) xs
theorem nA (h a b:List Int):fK h (a++b)=fK (fK h a) b:=by
 induction a generalizing h with
 | nil=>rfl
 | cons x a ih=>simp only [List.cons_append,fK];split<;>exact ih _
theorem nQ {a:List Int} (h:10 ∉ a) (j:List Int):fK j a=j++a:=by
 induction a generalizing j with
 | nil=>simp [fK]
 | cons x a ih=>
   simp only [List.mem_cons,not_or] at h;simp only [fK,if_neg (fun e=>h.1 (Eq.symm e)),ih h.2];simp
theorem aFN (h a:List Int):fK h (10::a)=fK [] a:=by simp [fK]
theorem aDA {p:Int} {q:List Int} (h:(p::q).all bW=true):bW p=true/\q.all bW=true:=by simpa using h
theorem aNa {h t:List Int} (u:Vt h) (A:Vt t):Vt (fK h t):=by
 obtain ⟨q,E,rfl⟩:=A
 induction q generalizing h with
 | nil=>exact u
 | cons p q ih=>
   obtain ⟨y,D⟩:=aDA E;rw [show aQ (p::q)=enc p++aQ q by simp [aQ],nA];refine ih ?_ D
   by_cases j:p=10
   ·subst j;rw [xO 10 (by omega)];simp only [fK,if_true];exact mN
   ·rw [nQ (aDr y j)];exact kT u ⟨[p],by simp [y],by simp [aQ]⟩
def eE (out:List Int):Int:=aH (fK [] out)
theorem aMf {q:List Int} (h:q.all bW=true):∀ (j:List Int),Vt j->10 ∉ j->∀ l∈spl j (aQ q),Vt l/\10 ∉ l:=by
 induction q with
 | nil=>intro j E G l u;simp [aQ,spl] at u;subst u;exact ⟨E,G⟩
 | cons p q ih=>
   intro j E G l u;obtain ⟨L,J⟩:=aDA h;rw [show aQ (p::q)=enc p++aQ q by simp [aQ]] at u
   by_cases A:p=10
   ·subst A;rw [xO 10 (by omega)] at u;simp only [List.cons_append,List.nil_append,spl,if_true,List.mem_cons] at u;rcases u with rfl | u
    ·exact ⟨E,G⟩
    ·exact ih J [] mN (by simp) l u
   ·have D:=aDr L A
    have y:∀ (e j:List Int),10 ∉ e->spl j (e++aQ q)=spl (j++e) (aQ q):=by
     intro e
     induction e with
     | nil=>intro j _;simp
     | cons x e ihe=>
       intro j H;simp only [List.mem_cons,not_or] at H;simp only [List.cons_append,spl,if_neg (fun e=>H.1 (Eq.symm e)),ihe _ H.2];simp
    rw [y _ _ D] at u;exact ih J _ (kT E ⟨[p],by simp [L],by simp [aQ]⟩) (by simp only [List.mem_append,not_or];exact ⟨G,D⟩) l u
def aAC:List (List Int)->List Int
 | []=>[]
 | [l]=>l
 | l::ls=>l++10::aAC ls
theorem aJv (xs:List Int):∀ j,aAC (spl j xs)=j++xs:=by
 induction xs with
 | nil=>intro j;simp [spl,aAC]
 | cons x xs ih=>
   intro j;simp only [spl]
   split
   ·rename_i h
    subst h;have y:=ih [];cases u:spl [] xs with
    | nil=>exact absurd u (aJR _ _)
    | cons l ls=>rw [u] at y;simp only [aAC,y];simp
   ·rw [ih];simp
def OkT:Tr->Prop
 | .leaf p=>p.k=1->Vt p.t/\10 ∉ p.t
 | .un p x=>0<=p.n/\OkT x
 | .bin _ x y=>OkT x/\OkT y
theorem mX:∀ (T:Tr) (out:List Int),aE T out=(aE T []).map (out++·)
 | .leaf p,out=>by
   simp only [aE]
   split
   ·simp
   ·split
    ·simp
    ·split<;>simp
 | .un p x,out=>by simp only [aE];exact mX x out
 | .bin p x y,out=>by
   simp only [aE]
   split
   ·rw [mX x out];cases aE x [] with
    | none=>rfl
    | some o=>
      simp only [Option.map_some,Option.bind_some];rw [mX y (out++o),mX y o];cases aE y [] with
      | none=>rfl
      | some o2=>simp
   ·exact mX y out
theorem aIp (x y:Tr):aE (uF x y) []=(aE x []).bind fun a=>(aE y []).map (a++·):=by
 simp only [uF,aE,vD,if_true];cases aE x [] with
 | none=>rfl
 | some o=>simp only [Option.bind_some];exact mX y o
theorem sI:∀ (T:Tr) (o:List Int),OkT T->aE T []=some o->Vt o/\10 ∉ o
 | .leaf p,o,h,hf=>by
   simp only [aE] at hf
   split at hf
   ·cases hf;exact ⟨mN,by simp⟩
   ·split at hf
    ·rename_i hk;cases hf;simpa using h hk
    ·split at hf
     ·cases hf;exact ⟨jD (by simp),by simp⟩
     ·cases hf
 | .un p x,o,h,hf=>sI x o h.2 hf
 | .bin p x y,o,h,hf=>by
   simp only [aE] at hf
   split at hf
   ·cases j:aE x [] with
    | none=>rw [j] at hf;cases hf
    | some a=>
      rw [j,Option.bind_some,mX] at hf;cases u:aE y [] with
      | none=>rw [u] at hf;cases hf
      | some b=>
        rw [u] at hf;cases hf;obtain ⟨a1,a2⟩:=sI x a h.1 j;obtain ⟨A,D⟩:=sI y b h.2 u;exact ⟨kT a1 A,by simp only [List.mem_append,not_or];exact ⟨a2,D⟩⟩
   ·exact sI y o h.2 hf
theorem aMQ (n:Nat):Vt (List.replicate n 32):=jD (fun x h=>by simp at h;omega)
theorem aM7 (n:Nat):10 ∉ List.replicate n (32:Int):=fun h=>by simp at h
theorem aIB (n:Nat):aH (List.replicate n 32)=n:=by
 have h:(List.replicate n (32:Int)).all bW=true:=by simp [bW]
 have e:aQ (List.replicate n 32)=List.replicate n 32:=by
  induction n with
  | zero=>rfl
  | succ n ih=>
    have:=ih (by simp [bW]);simp only [List.replicate_succ,aQ,List.flatMap_cons] at this ⊢;rw [this,xO 32 (by omega)];rfl
 rw [<- e,kH h];simp
theorem uH (width:Int):∀ (T:Tr) (ind b:Int) (j:List Int),OkT T->0<=ind->Vt j->
  (ly width T ind (aH j) b).2=aH (fK j (ly width T ind (aH j) b).1)/\Vt (fK j (ly width T ind (aH j) b).1)
 | .leaf p,ind,b,j,h,hi,hc=>by
   simp only [ly]
   split
   ·rename_i hk
    obtain ⟨u,A⟩:=h hk;simp only [nQ A];exact ⟨(aHN hc u).symm,kT hc u⟩
   ·split
    ·exact ⟨by simp only [fK,if_true];have:=kH (q:=[]) rfl;simpa [aQ] using this.symm,by simp only [fK,if_true];exact mN⟩
    ·split
     ·simp only [aJ,aFN,nQ (aM7 _),List.nil_append,aIB];exact ⟨by omega,aMQ _⟩
     ·exact ⟨rfl,hc⟩
 | .bin p x y,ind,b,j,h,hi,hc=>by
   simp only [ly]
   split
   ·obtain ⟨u,A⟩:=uH width x ind (bhO y b) j h.1 hi hc;rw [u];obtain ⟨E,D⟩:=uH width y ind b _ h.2 hi A;simp only [nA];exact ⟨E,D⟩
   ·exact uH width x ind b j h.1 hi hc
 | .un p x,ind,b,j,h,hi,hc=>by
   simp only [ly]
   split
   ·exact uH width x _ b j h.2 (by have:=h.1;omega) hc
   ·cases G:aE x [] with
    | none=>exact uH width x ind b j h.2 hi hc
    | some text=>
      simp only
      split
      ·obtain ⟨u,A⟩:=sI x text h.2 G;simp only [nQ A];exact ⟨(aHN hc u).symm,kT hc u⟩
      ·exact uH width x ind b j h.2 hi hc
end Go.Proofs.YtgifkcpdihphlaaGreatDoor
