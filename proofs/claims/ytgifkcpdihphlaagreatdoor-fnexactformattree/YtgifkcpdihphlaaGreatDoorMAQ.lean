import Derived.Test.YtgifkcpdihphlaaGreatDoorMAI
import Derived.Test.YtgifkcpdihphlaaGreatDoorMAP
set_option maxHeartbeats 16000000
set_option maxRecDepth 100000
namespace Go.Proofs.YtgifkcpdihphlaaGreatDoor
open Tryz
def bC (k:Int):Tr:=.leaf ⟨k,[],0⟩
def bR (t:List Int):Tr:=.leaf ⟨1,t,0⟩
def yE:List (List Int)->List Tr
 | []=>[]
 | [l]=>[bR l]
 | l::ls=>bR l::bC 5::yE ls
def jE (c:Cm):List Int:=if c.b then 47::42::c.t++[42,47] else 47::47::c.t
def qQ (c:Cm):Tr:=if c.b then iP (yE (spl [] (47::42::c.t++[42,47]))) else bR (47::47::c.t)
def fL (cs:List Cm):List Tr:=cs.flatMap fun c=>[qQ c,bC 4]
def iW (cs:List Cm):List Tr:=cs.flatMap fun c=>[bC 4,qQ c]
def qK (n:Nod):List Tr:=if n.mem then [bR (cO n.key++[58,32])] else []
def aBJ (n:Nod):List Int:=
 if n.k=3 then n.X else if n.k=4 then (quR n.U).1
 else if n.k=0 then [110,117,108,108] else if n.k=1 then [116,114,117,101] else [102,97,108,115,101]
section
variable (V:List Nod->Tr) (P:List Nod->List Pc × List Nod)
def nT:List Nod->List Tr
 | []=>[]
 | n::R=>fL n.L++(qK n++[V (n::R)])
def pO:Nat->List Nod->List Tr
 | 0,_=>[]
 | k+1,R=>pO k R++((if k=0 then [] else [bR [44],bC 2])++nT V (aT P k R))
end
def aAJ:Tr:=.bin ⟨9,[],0⟩ (bR [44]) (bC 0)
def aH5 (k:Int) (items:List Tr) (tail:List Cm):List Tr:=bC (nH k)::(items++(aAJ::iW tail))
def lW (ind:Int) (Ts:List Tr):Tr:=.un ⟨7,[],ind⟩ (iP Ts)
def tD (ind:Int) (n:Nod) (items:List Tr):Tr:=iP [bR [iT n.k],lW ind (aH5 n.k items n.tail),bC (nH n.k),bR [iY n.k]]
def oX (ind:Int) (n:Nod) (items:List Tr):Tr:=
 if n.C=0 then
  if n.tail=[] then bR [iT n.k,iY n.k]
  else iP [bR [iT n.k],lW ind (iW n.tail),bC 4,bR [iY n.k]]
 else .un ⟨8,[],0⟩ (tD ind n items)
def aR (ind:Int):Nat->List Nod->Tr
 | 0,_=>bC 0
 | _+1,[]=>bC 0
 | d+1,n::R=>if n.k<5 then bR (aBJ n) else oX ind n (pO (aR ind d) (aF ind d) n.C.toNat R)
theorem kG (k:Int) (h:ar k=0):Bl (aI k) (bC k):=aCK ⟨k,[],0⟩ h
theorem jI (t:List Int):Bl (aG t) (bR t):=aCK ⟨1,t,0⟩ (by simp [ar])
theorem aIE:∀ h,BlL (sX h) (yE h)
 | []=>.nil
 | [l]=>.cons (jI l) .nil
 | l::m::h=>.cons (jI l) (.cons (kG 5 (by simp [ar])) (aIE (m::h)))
theorem aIh (c:Cm):Bl (jP c) (qQ c):=by
 unfold jP qQ
 split
 ·exact xE (aIE _)
 ·exact jI _
theorem aCJ:∀ h,BlL (bI h) (fL h)
 | []=>.nil
 | c::h=>by
   rw [show bI (c::h)=[jP c,aI 4]++bI h by simp [bI],show fL (c::h)=[qQ c,bC 4]++fL h by simp [fL]];exact .cons (aIh c) (.cons (kG 4 (by simp [ar])) (aCJ h))
theorem aFv:∀ h,BlL (cW h) (iW h)
 | []=>.nil
 | c::h=>by
   rw [show cW (c::h)=[aI 4,jP c]++cW h by simp [cW],show iW (c::h)=[bC 4,qQ c]++iW h by simp [iW]];exact .cons (kG 4 (by simp [ar])) (.cons (aIh c) (aFv h))
theorem aLU (n:Nod):BlL (nB n) (qK n):=by
 unfold nB qK
 split
 ·exact .one (jI _)
 ·exact .nil
theorem aK3 (n:Nod):fF n=aG (aBJ n):=by
 unfold fF aBJ
 split
 ·rfl
 ·split
  ·rfl
  ·split
   ·rfl
   ·split<;>rfl
theorem aL2:Bl aA3 aAJ:=aMH (ps:=[⟨1,[44],0⟩]) (qs:=[⟨0,[],0⟩]) (jI [44]) (kG 0 (by simp [ar])) ⟨9,[],0⟩ (by simp [ar])
theorem aHM (k:Int):ar (nH k)=0:=by unfold nH;split<;>simp [ar]
theorem aKc {ind:Int} {n:Nod} {j:List (List Pc)} {u:List Tr} (h:BlL j u):Bl (iZ ind n j) (oX ind n u):=by
 unfold iZ oX
 split
 ·split
  ·exact jI _
  ·exact xE (.cons (jI _) (.cons (aJx (xE (aFv _)) ⟨7,[],ind⟩ (by simp [ar])) (.cons (kG 4 (by simp [ar])) (.cons (jI _) .nil))))
 ·refine aJx (xE (.cons (jI _) (.cons (aJx (xE (.cons (kG _ (aHM _)) (h.app (.cons aL2 (aFv _))))) ⟨7,[],ind⟩ (by simp [ar])) (.cons (kG _ (aHM _)) (.cons (jI _) .nil))))) ⟨8,[],0⟩ (by simp [ar])
theorem sR {d:Nat} {m:Bool} {ind:Int} {k:Nat} {R u:List Nod} (h:aN (aD aZ d m) k (R,())=some (u,())) (E:∀ n∈R,n.k<5->n.C=0) {j:Nat} (H:j<k) :
  aD aZ d m (aT (aF ind d) j R,())=some (aT (aF ind d) (j+1) R,())/\∃ Q,R=Q++aT (aF ind d) j R:=by
 have y:=oG (ind:=ind) (fun R u h G=>qT ind d m R u h G) k R u h E;have A:=y j (by omega);have D:=y (j+1) (by omega);rw [qI,A,Option.bind_some] at D;exact ⟨D,(iH (bV aZ d m).1 (bV aZ d m).2 j).2 _ _ A⟩
theorem oL {d:Nat} {m:Bool} {n:Nod} {R y:List Nod} (h:aD aZ (d+1) m (n::R,())=some (y,())):n.mem=m/\¬ (5<=n.k/\d=0)/\aN (aD aZ d (decide (n.k=6))) n.C.toNat (R,())=some (y,()):=by
 by_cases j:n.mem≠m
 ·simp [aD,j] at h
 ·by_cases u:5<=n.k/\d=0
  ·simp [aD,j,u,aZ] at h
  ·simp only [aD,if_neg j,if_neg u,aZ,Option.bind_some] at h;exact ⟨by simpa using j,u,h⟩
theorem vZ {d:Nat} {m:Bool} {R u:List Nod} (h:aD aZ d m (R,())=some (u,())):∃ n j,R=n::j:=by
 rcases R with _ | ⟨n,j⟩
 ·cases d<;>simp [aD] at h
 ·exact ⟨n,j,rfl⟩
theorem aMU {V:List Nod->Tr} {P:List Nod->List Pc × List Nod} (R:List Nod) (h:Bl (P R).1 (V R)):BlL (gO P R) (nT V R):=by
 cases R with
 | nil=>exact .nil
 | cons n R=>exact (aCJ _).app ((aLU n).app (.one h))
theorem aI0 {V:List Nod->Tr} {P:List Nod->List Pc × List Nod} (R:List Nod):∀ k,(∀ j,j<k->Bl (P (aT P j R)).1 (V (aT P j R)))->BlL (itK P k R) (pO V P k R)
 | 0,_=>.nil
 | k+1,h=>by
   refine (aI0 R k (fun j u=>h j (by omega))).app (BlL.app ?_ (aMU _ (h k (by omega))))
   split
   ·exact .nil
   ·exact .cons (jI _) (.one (kG 2 (by simp [ar])))
theorem aDh (ind:Int):∀ (d:Nat) (m:Bool) (R y:List Nod),aD aZ d m (R,())=some (y,())->(∀ n∈R,n.k<5->n.C=0)->Bl (aF ind d R).1 (aR ind d R)
 | 0,m,R,y,h,_=>by simp [aD] at h
 | d+1,m,[],y,h,_=>by simp [aD] at h
 | d+1,m,n::R,y,h,hn=>by
   obtain ⟨_,_,D⟩:=oL h;have u:∀ p∈R,p.k<5->p.C=0:=fun p A=>hn p (by simp [A]);simp only [aF,aR]
   split
   ·rw [aK3];exact jI _
   ·refine aKc (aI0 R _ fun j H=>?_);obtain ⟨E,Q,G⟩:=sR (ind:=ind) D u H;exact aDh ind d _ _ _ E (fun p A=>u p (by rw [G];exact List.mem_append_right _ A))
theorem rZ (width:Int) (t:List Int) (ind col b:Int):ly width (bR t) ind col b=(t,col+aH t):=by simp [ly,bR]
theorem sE (width:Int) {k:Int} (h:k=2\/k=3\/k=4) (ind col b:Int):ly width (bC k) ind col b=(aJ ind,ind):=by
 simp only [ly,bC];rw [if_neg (by omega),if_neg (by omega),if_pos h]
theorem aIk (width:Int):∀ (h:List (List Int)) (ind col b:Int),(lyL width (yE h) ind col b).1=aAC h
 | [],_,_,_=>rfl
 | [l],ind,col,b=>by simp [yE,lyL,rZ,aAC]
 | l::m::h,ind,col,b=>by
   simp only [yE,lyL,rZ,aAC];rw [aIk width (m::h)];simp [ly,bC]
theorem aI7 (width:Int) (c:Cm) (ind col b:Int):(ly width (qQ c) ind col b).1=jE c:=by
 unfold qQ jE
 split
 ·rw [aIW,aIk,aJv];simp
 ·rw [rZ]
def aP (cs:List Cm) (ind:Int):List Int:=cs.flatMap fun c=>jE c++aJ ind
def cA (cs:List Cm) (ind:Int):List Int:=cs.flatMap fun c=>aJ ind++jE c
def lR (n:Nod):List Int:=if n.mem then cO n.key++[58,32] else []
theorem aCi (width:Int):∀ (h:List Cm) (ind col b:Int),(lyL width (fL h) ind col b).1=aP h ind
 | [],_,_,_=>rfl
 | c::h,ind,col,b=>by
   rw [show fL (c::h)=qQ c::bC 4::fL h by simp [fL]];simp only [lyL,sE width (.inr (.inr rfl)),aCi width h,aI7];simp [aP]
theorem aFs (width:Int):∀ (h:List Cm) (ind col b:Int),(lyL width (iW h) ind col b).1=cA h ind
 | [],_,_,_=>rfl
 | c::h,ind,col,b=>by
   rw [show iW (c::h)=bC 4::qQ c::iW h by simp [iW]];simp only [lyL,sE width (.inr (.inr rfl)),aFs width h,aI7];simp [cA]
theorem aMb (width:Int) (n:Nod) (ind col b:Int):(lyL width (qK n) ind col b).1=lR n:=by
 unfold qK lR
 split
 ·simp [lyL,rZ]
 ·rfl
def Cu (out:List Int):Prop:=Vt (fK [] out)
def LX (width:Int) (T:Tr) (ind:Int) (out:List Int) (b:Int):List Int:=(ly width T ind (eE out) b).1
def LXL (width:Int) (Ts:List Tr) (ind:Int) (out:List Int) (b:Int):List Int:=(lyL width Ts ind (eE out) b).1
def OkL (Ts:List Tr):Prop:=∀ T∈Ts,OkT T
theorem pQ {width:Int} {T:Tr} {ind b:Int} {out:List Int} (h:OkT T) (u:0<=ind) (j:Cu out):(ly width T ind (eE out) b).2=eE (out++LX width T ind out b)/\Cu (out++LX width T ind out b):=by
 obtain ⟨A,y⟩:=uH width T ind b _ h u j;unfold eE Cu LX;rw [nA];exact ⟨A,y⟩
theorem kC {width:Int} {T:Tr} {r:List Tr} {ind b:Int} {out:List Int} (h:OkT T) (u:0<=ind) (j:Cu out):LXL width (T::r) ind out b=LX width T ind out (bhL r b)++LXL width r ind (out++LX width T ind out (bhL r b)) b:=by
 simp only [LXL,lyL,LX];rw [(pQ (width:=width) (b:=bhL r b) h u j).1];rfl
theorem uD {width:Int} {ind b:Int} (u:0<=ind):∀ {j:List Tr} {out:List Int},OkL j->Cu out->(lyL width j ind (eE out) b).2=eE (out++LXL width j ind out b)/\Cu (out++LXL width j ind out b)
 | [],out,_,hc=>by simp only [LXL,lyL,List.append_nil];exact ⟨trivial,hc⟩
 | T::r,out,h,hc=>by
   have y:=h T (by simp);obtain ⟨E,G⟩:=pQ (width:=width) (b:=bhL r b) y u hc;obtain ⟨D,A⟩:=uD (width:=width) (b:=b) u (fun U H=>h U (by simp [H]):OkL r) G;rw [kC y u hc,<- List.append_assoc];refine ⟨?_,A⟩;simp only [lyL];rw [E];exact D
theorem vF {width:Int} {xs ys:List Tr} {ind b:Int} {out:List Int} (h:OkL xs) (u:0<=ind) (j:Cu out):LXL width (xs++ys) ind out b=LXL width xs ind out (bhL ys b)++LXL width ys ind (out++LXL width xs ind out (bhL ys b)) b:=by
 simp only [LXL,aLk];rw [(uD (width:=width) (b:=bhL ys b) u h j).1];rfl
theorem aE8 (width:Int) (h:List Tr) (ind:Int) (out:List Int) (b:Int):LX width (iP h) ind out b=LXL width h ind out b:=by unfold LX LXL;rw [aIW]
theorem zF {k:Int} (j:k=2\/k=3\/k=4) (b:Int):bhO (bC k) b=0:=by
 have h:leadT (bC k)=(0,true):=(by unfold bC;simp only [leadT];rw [if_neg (by omega),if_neg (by omega)]);unfold bhO;rw [h];rfl
theorem aB1 {x:Int} (j:0<=x) (h:x<128):aH [x]=1:=by
 have:=kH (q:=[x]) (by simp [bW];omega);simpa [aQ,xO x h] using this
theorem aHU (b:Int):bhO (bR [44]) b=1+b:=by
 unfold bhO bR;simp [leadT,aB1 (x:=44) (by omega) (by omega)]
theorem aMk (b:Int):bhO aAJ b=1+b:=by
 unfold bhO aAJ;simp [leadT,bR,aB1 (x:=44) (by omega) (by omega)]
theorem aAn (k:Int):nH k=2\/nH k=3\/nH k=4:=by unfold nH;split<;>simp
theorem aLn (tail:List Cm) (e:Int) (h:e=2\/e=3\/e=4) (r:List Tr) (b:Int):bhL (aAJ::iW tail) (bhL (bC e::r) b)=1:=by
 simp only [bhL,aMk,zF h];cases tail with
 | nil=>simp [iW,bhL]
 | cons c tail=>
   rw [show iW (c::tail)=bC 4::qQ c::iW tail by simp [iW]];simp only [bhL,zF (.inr (.inr rfl))];rfl
def wrI (width:Int) (V:List Nod->Tr) (ind:Int) (o:List Int):List Nod->List Int
 | []=>o
 | n::R=>(o++aP n.L ind++lR n)++LX width (V (n::R)) ind (o++aP n.L ind++lR n) 1
def kK (width:Int) (V:List Nod->Tr) (P:List Nod->List Pc × List Nod) (ind:Int) (o:List Int) (R:List Nod):Nat->List Int
 | 0=>o
 | k+1=>wrI width V ind (kK width V P ind o R k++aJ ind) (aT P k R)++[44]
theorem aLt {width:Int} {V:List Nod->Tr} {ind:Int} {o:List Int} {n:Nod} {R:List Nod} (D:OkL (fL n.L)) (y:OkL (qK n)) (h:0<=ind) (u:Cu o):o++LXL width (nT V (n::R)) ind o 1=wrI width V ind o (n::R):=by
 have E:∀ b,LXL width (fL n.L) ind o b=aP n.L ind:=fun b=>aCi _ _ _ _ _;have G:∀ A b,LXL width (qK n) ind A b=lR n:=fun A b=>aMb _ _ _ _ _;have j:=(uD (width:=width) (b:=bhL (qK n++[V (n::R)]) 1) h D u).2;rw [E] at j;have H:=(uD (width:=width) (b:=bhL [V (n::R)] 1) h y j).2;rw [G] at H;simp only [nT,wrI];rw [vF D h u,E,vF y h j,G];simp only [LXL,lyL,bhL,List.append_nil,LX,List.append_assoc]
theorem aCx {width:Int} {V:List Nod->Tr} {P:List Nod->List Pc × List Nod} {ind e:Int} {o:List Int} {R:List Nod} (U:e=2\/e=3\/e=4) (A:0<=ind) (H:Cu o) :
  ∀ k,(∀ j,j<k->OkL (nT V (aT P j R))/\∃ n R',aT P j R=n::R'/\OkL (fL n.L)/\OkL (qK n))->
   OkL (bC e::pO V P k R)/\(1<=k->(o++LXL width (bC e::pO V P k R) ind o 1)++[44]=kK width V P ind o R k)
 | 0,_=>⟨fun T u=>by simp [pO] at u;subst u;intro h;simp at h;omega,fun h=>by omega⟩
 | k+1,h=>by
   obtain ⟨y,X⟩:=aCx (width:=width) (P:=P) (V:=V) (R:=R) U A H k (fun j hj=>h j (by omega));obtain ⟨hit,n,R',hR,hb,Z⟩:=h k (by omega);have D:OkT (bC 2):=fun h=>by simp at h
   have E:OkT (bR [44]):=fun _=>⟨jD (by simp),by simp⟩;refine ⟨fun T u=>?_,fun _=>?_⟩
   ·simp only [pO,List.mem_cons,List.mem_append] at u;rcases u with rfl | u | u | u
    ·exact y _ (by simp)
    ·exact y _ (by simp [u])
    ·split at u
     ·simp at u
     ·simp at u;rcases u with rfl | rfl
      ·exact E
      ·exact D
    ·exact hit T u
   ·simp only [kK];rcases Nat.eq_zero_or_pos k with rfl | a8
    ·simp only [pO,if_true,List.nil_append,kK]
     have c1:Cu (o++aJ ind):=by
      have:=(pQ (width:=width) (T:=bC e) (b:=0) (y _ (by simp)) A H).2;unfold LX at this
      rwa [sE width U] at this
     rw [kC (y _ (by simp)) A H];have M:∀ b,LX width (bC e) ind o b=aJ ind:=fun b=>by unfold LX;rw [sE width U]
     rw [M,hR,<- List.append_assoc,aLt hb Z A c1]
    ·have ih:=X (by omega)
     have N:bhL ([bR [44],bC 2]++nT V (aT P k R)) 1=1:=by
      simp only [List.cons_append,List.nil_append,bhL,aHU,zF (.inl rfl)];rfl
     have S:¬ k=0:=(by omega);simp only [pO,if_neg S];rw [<- List.cons_append,vF y A H,N];have G:=(uD (width:=width) (b:=1) A y H).2;rw [show [bR [44],bC 2]++nT V (aT P k R)=bR [44]::bC 2::nT V (aT P k R) from rfl,kC E A G];have M:∀ J b,LX width (bR [44]) ind J b=[44]:=fun J b=>by unfold LX;rw [rZ]
     have Y:∀ J b,LX width (bC 2) ind J b=aJ ind:=fun J b=>by unfold LX;rw [sE width (.inl rfl)]
     have O:=(pQ (width:=width) (T:=bR [44]) (b:=0) E A G).2;rw [M,ih] at O;have c3:=(pQ (width:=width) (T:=bC 2) (b:=0) D A O).2;rw [Y] at c3;rw [M,<- List.append_assoc,<- List.append_assoc,ih,kC D A O,Y,<- List.append_assoc,hR,aLt hb Z A c3]
structure NdX (n:Nod):Prop where
 bef:OkL (fL n.L)
 aft:OkL (iW n.tail)
 key:OkL (qK n)
 scal:OkT (bR (aBJ n))
theorem aF5:∀ (r:List Tr) (T:Tr),OkT T->OkL r->OkT (r.foldl uF T)
 | [],T,h,_=>h
 | U::r,T,h,hr=>aF5 r (uF T U) ⟨h,hr U (by simp)⟩ (fun X j=>hr X (by simp [j]))
theorem tZ {j:List Tr} (h:OkL j):OkT (iP j):=by
 cases j with
 | nil=>intro h;simp at h
 | cons T r=>exact aF5 r T (h T (by simp)) (fun X u=>h X (by simp [u]))
theorem kJ {k:Int} (h:k≠1):OkT (bC k):=fun e=>absurd e h
theorem aEV {x:Int} (j:0<=x) (u:x<128) (h:x≠10):OkT (bR [x]):=fun _=>⟨jD (by simp;omega),by simp;omega⟩
theorem aI5 (k:Int):iT k=123\/iT k=91:=by unfold iT;split<;>simp
theorem aJb (k:Int):iY k=125\/iY k=93:=by unfold iY;split<;>simp
theorem aAZ (k:Int):OkT (bR [iT k]):=by rcases aI5 k with h | h<;>(rw [h];exact aEV (by omega) (by omega) (by omega))
theorem aFz (k:Int):OkT (bR [iY k]):=by rcases aJb k with h | h<;>(rw [h];exact aEV (by omega) (by omega) (by omega))
theorem aJ5 (k:Int):OkT (bR [iT k,iY k]):=by
 intro _;rcases aI5 k with h | h<;>rcases aJb k with j | j<;>(rw [h,j];exact ⟨jD (by simp),by simp⟩)
theorem aIQ:OkT aAJ:=⟨aEV (by omega) (by omega) (by omega),kJ (by omega)⟩
theorem aCq {a b:List Tr} (h:OkL a) (u:OkL b):OkL (a++b):=fun T j=>by
 rcases List.mem_append.1 j with j | j
 ·exact h T j
 ·exact u T j
theorem eT {T:Tr} {r:List Tr} (h:OkT T) (u:OkL r):OkL (T::r):=fun U j=>by
 rcases List.mem_cons.1 j with rfl | j
 ·exact h
 ·exact u U j
theorem uJ:OkL []:=fun T h=>by simp at h
theorem aIi (k:Int):nH k≠1:=by have:=aAn k;omega
theorem aI2 {k:Int} {j:List Tr} {tail:List Cm} (h:OkL j) (u:OkL (iW tail)):OkL (aH5 k j tail):=eT (kJ (aIi k)) (aCq h (eT aIQ u))
theorem aKW {ind:Int} {n:Nod} {j:List Tr} (u:0<=ind) (h:OkL j) (y:OkL (iW n.tail)):OkT (tD ind n j):=
 tZ (eT (aAZ _) (eT ⟨u,tZ (aI2 h y)⟩ (eT (kJ (aIi _)) (eT (aFz _) uJ))))
theorem aLx {V:List Nod->Tr} {n:Nod} {R:List Nod} (h:NdX n) (j:OkT (V (n::R))):OkL (nT V (n::R)):=aCq h.bef (aCq h.key (eT j uJ))
theorem aCm {ind:Int} (J:0<=ind):∀ (d:Nat) (m:Bool) (R H:List Nod),aD aZ d m (R,())=some (H,())->(∀ n∈R,n.k<5->n.C=0)->(∀ n∈R,NdX n)->OkT (aR ind d R)
 | 0,m,R,H,h,_,_=>by simp [aD] at h
 | d+1,m,[],H,h,_,_=>by simp [aD] at h
 | d+1,m,n::R,H,h,hn,hx=>by
   obtain ⟨_,_,O⟩:=oL h;have A:∀ p∈R,p.k<5->p.C=0:=fun p E=>hn p (by simp [E]);have y:=hx n (by simp);simp only [aR]
   split
   ·exact y.scal
   ·unfold oX
    split
    ·split
     ·exact aJ5 _
     ·exact tZ (eT (aAZ _) (eT ⟨J,tZ y.aft⟩ (eT (kJ (by omega)) (eT (aFz _) uJ))))
    ·refine ⟨Int.le_refl 0,aKW J ?_ y.aft⟩;have:=(aCx (width:=0) (V:=aR ind d) (P:=aF ind d) (ind:=0) (e:=2) (o:=[]) (R:=R) (.inl rfl) (Int.le_refl 0) mN n.C.toNat (fun j U=>?_)).1
     ·exact fun T N=>this T (by simp [N])
     ·obtain ⟨L,Q,S⟩:=sR (ind:=ind) O A U;obtain ⟨p,M,G⟩:=vZ L;have u:∀ q∈aT (aF ind d) j R,q∈R:=fun q D=>by rw [S];exact List.mem_append_right _ D
      have hv:=aCm J d _ _ _ L (fun q D=>A q (u q D)) (fun q D=>hx q (by simp [u q D]));have E:=hx p (by simp [u p (by rw [G];simp)]);rw [G] at hv ⊢;exact ⟨aLx E hv,p,M,rfl,E.bef,E.key⟩
def BRK (width ind:Int) (d:Nat) (n:Nod) (R:List Nod) (level:Int) (out:List Int):List Int:=
 kK width (aR ind d) (aF ind d) (level+ind) (out++[iT n.k]) R n.C.toNat++cA n.tail (level+ind)++aJ level++[iY n.k]
theorem aMi {ind:Int} {d:Nat} {n:Nod} {R M:List Nod} (J:0<=ind) (N:aN (aD aZ d (decide (n.k=6))) n.C.toNat (R,())=some (M,())) (E:∀ p∈R,p.k<5->p.C=0) (G:∀ p∈R,NdX p) :
  ∀ j,j<n.C.toNat->OkL (nT (aR ind d) (aT (aF ind d) j R))/\∃ p D,aT (aF ind d) j R=p::D/\OkL (fL p.L)/\OkL (qK p):=fun j S=>by
 obtain ⟨H,Q,O⟩:=sR (ind:=ind) N E S;obtain ⟨p,D,y⟩:=vZ H;have h:∀ q∈aT (aF ind d) j R,q∈R:=fun q u=>by rw [O];exact List.mem_append_right _ u
 have hv:=aCm J d _ _ _ H (fun q u=>E q (h q u)) (fun q u=>G q (h q u));have A:=G p (h p (by rw [y];simp));rw [y] at hv ⊢;exact ⟨aLx A hv,p,D,rfl,A.bef,A.key⟩
theorem wJ (width:Int) (t:List Int) (ind:Int) (o:List Int) (b:Int):LX width (bR t) ind o b=t:=by unfold LX;rw [rZ]
theorem aCu (width:Int) {k:Int} (h:k=2\/k=3\/k=4) (ind:Int) (o:List Int) (b:Int):LX width (bC k) ind o b=aJ ind:=by unfold LX;rw [sE width h]
theorem aFW (width ind:Int) (h:List Tr) (level:Int) (o:List Int) (b:Int):LX width (lW ind h) level o b=LXL width h (level+ind) o b:=by
 unfold LX lW;simp only [ly,if_true];exact aE8 width h (level+ind) o b
theorem aGd {t o:List Int} (h:OkT (bR t)) (j:Cu o):Cu (o++t):=by
 have:=(pQ (width:=0) (T:=bR t) (ind:=0) (b:=0) h (Int.le_refl 0) j).2
 rwa [wJ] at this
theorem aLr {ind:Int} {o:List Int} (j:0<=ind) (h:Cu o):Cu (o++aJ ind):=by
 have:=(pQ (width:=0) (T:=bC 2) (ind:=ind) (b:=0) (kJ (by omega)) j h).2
 rwa [aCu 0 (.inl rfl)] at this
theorem aGm {width ind level e:Int} {k:Int} {j:List Tr} {out:List Int} {b:Int} (G:e=2\/e=3\/e=4) (E:0<=ind) (h:0<=level) (J:OkL j) (y:Cu out) :
  out++LX width (iP [bR [iT k],lW ind j,bC e,bR [iY k]]) level out b=((out++[iT k])++LXL width j (level+ind) (out++[iT k]) (bhL [bC e,bR [iY k]] b))++aJ level++[iY k]:=by
 have A:=aGd (aAZ k) y;have D:OkT (lW ind j):=⟨E,tZ J⟩;have u:=(pQ (width:=width) (T:=lW ind j) (ind:=level) (b:=bhL [bC e,bR [iY k]] b) D h A).2;rw [aFW] at u;have H:=aLr h u;rw [aE8,kC (aAZ k) h y,wJ,kC D h A,aFW,kC (kJ (by omega)) h u,aCu width G,kC (aFz k) h H,wJ];simp [LXL,lyL]
theorem aLq {width ind:Int} {d:Nat} {n:Nod} {R U:List Nod} {level b:Int} {out:List Int} (E:0<=ind) (j:0<=level) (G:Cu out) (H:1<=n.C)
  (hl:aN (aD aZ d (decide (n.k=6))) n.C.toNat (R,())=some (U,())) (L:∀ p∈R,p.k<5->p.C=0) (S:∀ p∈R,NdX p) (A:NdX n) :
  out++LX width (tD ind n (pO (aR ind d) (aF ind d) n.C.toNat R)) level out b=BRK width ind d n R level out:=by
 have h:0<=level+ind:=(by omega);have D:=aGd (aAZ n.k) G;obtain ⟨y,Y⟩:=aCx (width:=width) (V:=aR ind d) (P:=aF ind d) (R:=R) (aAn n.k) h D n.C.toNat (aMi E hl L S);have Z:=Y (by omega);have O:OkL (aH5 n.k (pO (aR ind d) (aF ind d) n.C.toNat R) n.tail):=aI2 (fun T M=>y T (by simp [M])) A.aft;rw [tD,aGm (aAn n.k) E j O G];have u:=aLn n.tail (nH n.k) (aAn n.k) [bR [iY n.k]] b;have X:=(uD (width:=width) (b:=1) h y D).2;rw [aH5,<- List.cons_append,vF y h D,u,kC aIQ h X];have N:∀ o b,LX width aAJ (level+ind) o b=[44]:=fun o b=>by unfold LX aAJ;simp only [ly];rw [if_neg (by omega)];simp [bR,ly]
 have J:∀ o b,LXL width (iW n.tail) (level+ind) o b=cA n.tail (level+ind):=fun o b=>aFs _ _ _ _ _;rw [N,J];unfold BRK;rw [<- Z];simp only [List.append_assoc]
theorem aKe {width ind:Int} {d:Nat} {n:Nod} {R:List Nod} {level b:Int} {out:List Int} (D:0<=ind) (j:0<=level) (y:Cu out) (h:n.C=0) (u:NdX n) :
  out++LX width (iP [bR [iT n.k],lW ind (iW n.tail),bC 4,bR [iY n.k]]) level out b=BRK width ind d n R level out:=by
 rw [aGm (.inr (.inr rfl)) D j u.aft y];have A:∀ o b,LXL width (iW n.tail) (level+ind) o b=cA n.tail (level+ind):=fun o b=>aFs _ _ _ _ _;rw [A];unfold BRK;rw [h];rfl
def eH:List Tr->Option (List Int)
 | []=>some []
 | T::r=>(aE T []).bind fun a=>(eH r).map (a++·)
theorem wM (xs ys:List Tr):eH (xs++ys)=(eH xs).bind fun a=>(eH ys).map (a++·):=by
 induction xs with
 | nil=>simp [eH]
 | cons T r ih=>
   simp only [List.cons_append,eH,ih];cases aE T [] with
   | none=>rfl
   | some a=>
     simp only [Option.bind_some];cases eH r with
     | none=>rfl
     | some o=>
       simp only [Option.bind_some,Option.map_some];cases eH ys with
       | none=>rfl
       | some z=>simp
theorem aBF:∀ (r:List Tr) (T:Tr),aE (r.foldl uF T) []=eH (T::r)
 | [],T=>by simp only [List.foldl_nil,eH];cases aE T []<;>simp
 | U::r,T=>by
   rw [List.foldl_cons,aBF r (uF T U)];simp only [eH,aIp];cases aE T [] with
   | none=>rfl
   | some a=>
     simp only [Option.bind_some];cases aE U [] with
     | none=>rfl
     | some u=>
       simp only [Option.map_some,Option.bind_some];cases eH r with
       | none=>rfl
       | some z=>simp
theorem qY (h:List Tr):aE (iP h) []=eH h:=by
 cases h with
 | nil=>simp [iP,aE,eH]
 | cons T r=>exact aBF r T
theorem pA (t:List Int):aE (bR t) []=some t:=by simp [aE,bR]
theorem aHQ (h:List Cm):eH (fL h)=if h=[] then some [] else none:=by
 cases h with
 | nil=>rfl
 | cons c h=>
   rw [show fL (c::h)=qQ c::bC 4::fL h by simp [fL],if_neg (by simp)];simp only [eH];have j:aE (bC 4) []=none:=(by simp [aE,bC]);rw [j];cases aE (qQ c) []<;>rfl
theorem aIZ (h:List Cm):eH (iW h)=if h=[] then some [] else none:=by
 cases h with
 | nil=>rfl
 | cons c h=>
   rw [show iW (c::h)=bC 4::qQ c::iW h by simp [iW],if_neg (by simp)];simp only [eH];have j:aE (bC 4) []=none:=(by simp [aE,bC]);rw [j];rfl
theorem aH1 (n:Nod):eH (qK n)=some (lR n):=by
 unfold qK lR
 split
 ·simp [eH,pA]
 ·rfl
def aHd (k:Int):List Int:=if k=6 then [32] else []
theorem aJS (k:Int):aE (bC (nH k)) []=some (aHd k):=by
 unfold nH aHd
 split<;>simp [aE,bC]
theorem aKo (V:List Nod->Tr) (n:Nod) (R:List Nod):eH (nT V (n::R))=if n.L=[] then (aE (V (n::R)) []).map (lR n++·) else none:=by
 simp only [nT,wM,aHQ,aH1]
 split
 ·simp only [Option.bind_some,eH,Option.map_some];cases aE (V (n::R)) []<;>simp
 ·rfl
def gR (V:List Nod->Tr) (P:List Nod->List Pc × List Nod) (R:List Nod):Nat->Option (List Int)
 | 0=>some []
 | k+1=>(gR V P R k).bind fun o=>match aT P k R with
   | []=>some (o++(if k=0 then [] else [44,32]))
   | n::R'=>if n.L=[] then (aE (V (n::R')) []).map fun s=>(o++(if k=0 then [] else [44,32]))++lR n++s else none
theorem aD8 (V:List Nod->Tr) (P:List Nod->List Pc × List Nod) (R:List Nod):∀ k,eH (pO V P k R)=gR V P R k
 | 0=>rfl
 | k+1=>by
   have j:eH (if k=0 then [] else [bR [44],bC 2])=some (if k=0 then [] else [44,32]):=by
    split
    ·rfl
    ·simp [eH,pA,aE,bC]
   simp only [pO,wM,aD8 V P R k,j,gR,Option.bind_some];cases gR V P R k with
   | none=>rfl
   | some o=>
     simp only [Option.bind_some];cases aT P k R with
     | nil=>simp [nT,eH]
     | cons n R'=>
       rw [aKo]
       by_cases h:n.L=[]
       ·simp only [h,if_true];cases aE (V (n::R')) []<;>simp
       ·simp [h]
theorem xR (ind:Int) (n:Nod) (V:List Nod->Tr) (P:List Nod->List Pc × List Nod) (R:List Nod) (k:Nat):aE (tD ind n (pO V P k R)) []=if n.tail=[] then (gR V P R k).map fun o=>([iT n.k]++aHd n.k++o)++(aHd n.k++[iY n.k]) else none:=by
 have u:aE aAJ []=some []:=(by simp [aAJ,aE,bC]);have j:∀ h,aE (lW ind h) []=eH h:=fun h=>by unfold lW;simp only [aE];exact qY h
 rw [tD,qY];simp only [eH,pA,j,aJS,aH5,wM,aD8,u,aIZ,Option.bind_some]
 split
 ·cases gR V P R k<;>simp
 ·cases gR V P R k<;>simp
def As7 (t:List Int):Prop:=∀ x∈t,32<=x/\x<128
theorem As7.vt {t:List Int} (h:As7 t):Vt t/\10 ∉ t:=⟨jD (fun x u=>by have:=h x u;omega),fun j=>by have:=h 10 j;omega⟩
theorem As7.app {a b:List Int} (h:As7 a) (u:As7 b):As7 (a++b):=fun x j=>by
 rcases List.mem_append.1 j with j | j
 ·exact h x j
 ·exact u x j
theorem aCM {s:List Int} (h:aW s=true):As7 s:=fun x j=>by
 have:=List.all_eq_true.1 h x j;simp [aK] at this;omega
theorem aKx {s:List Int} (h:s.all eK=true):As7 s:=fun x j=>by
 have:=List.all_eq_true.1 h x j;simp only [eK,jK,aK,decide_eq_true_eq] at this
 split at this
 ·rename_i h1;omega
 ·split at this
  ·omega
  ·split at this
   ·omega
   ·omega
theorem aFO (p:Int->Bool) {s:List Int} (y:As7 (s.takeWhile p)) (u:As7 (s.dropWhile p).tail) (A:∀ x,p x=false->32<=x/\x<128):As7 s:=by
 have e:s.takeWhile p++s.dropWhile p=s:=List.takeWhile_append_dropWhile;rw [<- e];refine y.app ?_;cases j:s.dropWhile p with
 | nil=>exact fun x h=>by simp at h
 | cons a r=>
   rw [j] at u
   have D:p a=false:=by
    have:=List.head?_dropWhile_not p s;rw [j] at this;simpa using this
   intro x h;rcases List.mem_cons.1 h with rfl | h
   ·exact A x D
   ·exact u x h
theorem aEo {s:List Int} (h:cN s=true):As7 s:=by
 unfold cN at h;simp only at h
 split at h
 ·cases h
 ·rename_i hd
  simp only [Bool.or_eq_true,Bool.not_eq_true',not_or,Bool.not_eq_false] at hd;exact aFO (· != 46) (aCM hd.1) (aCM hd.2) (fun x j=>by simp at j;omega)
theorem aB2 {s:List Int} (h:As7 (eB s)):As7 s:=by
 cases s with
 | nil=>exact h
 | cons c r=>
   simp only [eB] at h
   split at h
   ·rename_i hs
    simp [aAr] at hs;intro x j;rcases List.mem_cons.1 j with rfl | j
    ·omega
    ·exact h x j
   ·exact h
theorem aJ3 {s:List Int} (h:oC s=true):As7 s:=by
 refine aB2 ?_;unfold oC dM at h;generalize eB s=z at h ⊢
 split at h
 ·rename_i hs
  rcases hs with rfl | rfl
  ·intro x j;simp [oO] at j;omega
  ·intro x j;simp [nan] at j;omega
 ·split at h
  ·rename_i j
   obtain ⟨D,y,u⟩:=j
   match z,D,y,u,h with
   | a::b::r,_,y,u,h=>
     simp at y u h;have A:=aKx (s:=r) (by simpa using h);simp [isX] at u;intro x j;simp only [List.mem_cons] at j;rcases j with rfl | rfl | j
     ·omega
     ·omega
     ·exact A x j
  ·split at h
   ·simp only [Bool.and_eq_true,oK] at h;exact aFO (fun c=>!isE c) (aEo h.1) (aB2 (aCM h.2.2)) (fun x j=>by simp [isE] at j;omega)
   ·exact aEo h
theorem aIj {u:List Int} (h:nmR u=true):As7 u:=by
 intro x A;obtain ⟨j,y,rfl⟩:=List.getElem_of_mem A;simp only [nmR,Bool.and_eq_true,tS,List.all_eq_true,List.mem_range] at h;have:=h.1 j y;simp [vT,iA,aK,y] at this;omega
theorem aKO (p:Int):Vt (fT p)/\10 ∉ fT p:=by
 unfold fT
 split
 ·rename_i hs
  refine As7.vt ?_;unfold qM at hs ⊢;intro x h
  repeat' split at h
  all_goals (simp at h;try omega)
 ·split
  ·refine As7.vt ?_;have j:∀ n:Int,0<=n->n<16->32<=nG n/\nG n<128:=fun n E u=>by unfold nG;split<;>omega
   have u:=j (p / 4096%16) (by omega) (by omega);have D:=j (p / 256%16) (by omega) (by omega);have A:=j (p / 16%16) (by omega) (by omega);have y:=j (p%16) (by omega) (by omega);intro x h;simp only [dN,List.mem_cons,List.not_mem_nil,or_false] at h;rcases h with rfl | rfl | rfl | rfl | rfl | rfl<;>first | omega | assumption
  ·rename_i hb
   simp [nC] at hb;exact ⟨⟨[p],by simp [hb.2],by simp [aQ]⟩,aDr hb.2 (by omega)⟩
theorem aFL:∀ ps,Vt (jM ps)/\10 ∉ jM ps
 | []=>⟨mN,by simp [jM]⟩
 | p::ps=>by
   obtain ⟨j,u⟩:=aKO p;obtain ⟨y,h⟩:=aFL ps;rw [show jM (p::ps)=fT p++jM ps by simp [jM]];exact ⟨kT j y,by simp only [List.mem_append,not_or];exact ⟨u,h⟩⟩
theorem aLu (h:List Int):Vt (quR h).1/\10 ∉ (quR h).1:=by
 unfold quR
 split
 ·obtain ⟨u,y⟩:=aFL (fuR h).1;have j:Vt [34]:=jD (by simp);refine ⟨kT (kT j u) j,?_⟩;simp only [List.cons_append,List.mem_cons,List.mem_append,List.not_mem_nil,or_false,not_or];exact ⟨by omega,y,by omega⟩
 ·exact ⟨mN,by simp⟩
theorem vX {t:List Int} (h:Vt t/\10 ∉ t):OkT (bR t):=fun _=>h
theorem vt2 {a b:List Int} (h:Vt a/\10 ∉ a) (j:Vt b/\10 ∉ b):Vt (a++b)/\10 ∉ a++b:=⟨kT h.1 j.1,by simp only [List.mem_append,not_or];exact ⟨h.2,j.2⟩⟩
theorem aLT (j:List Int):Vt (cO j)/\10 ∉ cO j:=by
 unfold cO
 split
 ·rename_i h;exact (aIj h).vt
 ·exact aLu j
theorem aMc (n:Nod):OkL (qK n):=by
 unfold qK
 split
 ·exact eT (vX (vt2 (aLT _) (As7.vt (fun x h=>by simp at h;omega)))) uJ
 ·exact uJ
theorem aKF {n:Nod} (h:n.k=3->oC n.X=true):OkT (bR (aBJ n)):=by
 refine vX ?_;unfold aBJ
 split
 ·rename_i hk;exact (aJ3 (h hk)).vt
 ·split
  ·exact aLu _
  ·split
   ·exact As7.vt (fun x j=>by simp at j;omega)
   ·split
    ·exact As7.vt (fun x j=>by simp at j;omega)
    ·exact As7.vt (fun x j=>by simp at j;omega)
theorem aD4:∀ (j:List (List Int)),(∀ l∈j,Vt l/\10 ∉ l)->OkL (yE j)
 | [],_=>uJ
 | [l],h=>eT (vX (h l (by simp))) uJ
 | l::m::j,h=>eT (vX (h l (by simp))) (eT (kJ (by omega)) (aD4 (m::j) (fun x u=>h x (by simp at u ⊢;exact .inr u))))
theorem aMs {c:Cm} (U:Bys c.t) (h:gE c=true):Vt c.t/\(c.b=false->10 ∉ c.t):=by
 simp only [gE,Bool.and_eq_true,decide_eq_true_eq] at h;obtain ⟨X,J⟩:=h;have hv:Vt c.t:=aM6 U (by unfold aH;rw [if_pos X];omega);refine ⟨hv,fun M u=>?_⟩;obtain ⟨q,D,G⟩:=hv
 have O:(eM c.t).1=q:=by
  have:=aB7 D;rw [qH _ D,<- G] at this;rw [this]
 rw [O,M] at J;rw [G] at u;simp only [aQ,List.mem_flatMap] at u;obtain ⟨p,H,N⟩:=u
 have y:p=10:=by
  apply Classical.byContradiction;intro E;exact aDr (List.all_eq_true.1 D p H) E N
 obtain ⟨j,L,A⟩:=List.getElem_of_mem H;have:=List.all_eq_true.1 J j (List.mem_range.2 L);have S:q[j]?.getD 0=10:=(by rw [List.getElem?_eq_getElem L,A,y];rfl);simp [cAt,S,lnE] at this
theorem aJq {c:Cm} (A:Bys c.t) (h:gE c=true):OkT (qQ c):=by
 obtain ⟨j,E⟩:=aMs A h;unfold qQ
 split
 ·refine tZ (aD4 _ ?_);have hv:Vt (47::42::c.t++[42,47]):=kT (kT (jD (t:=[47,42]) (by simp)) j) (jD (by simp));obtain ⟨q,u,y⟩:=hv;rw [y];exact aMf u [] mN (by simp)
 ·rename_i hf
  exact vX (vt2 (As7.vt (t:=[47,47]) (fun x D=>by simp at D;omega)) ⟨j,E (by simpa using hf)⟩)
theorem aIy {j:List Cm} (D:∀ c∈j,Bys c.t) (h:j.all gE=true):OkL (fL j):=by
 intro T A;simp only [fL,List.mem_flatMap] at A;obtain ⟨c,u,y⟩:=A;simp at y;rcases y with rfl | rfl
 ·exact aJq (D c u) (List.all_eq_true.1 h c u)
 ·exact kJ (by omega)
theorem aMu {j:List Cm} (D:∀ c∈j,Bys c.t) (h:j.all gE=true):OkL (iW j):=by
 intro T A;simp only [iW,List.mem_flatMap] at A;obtain ⟨c,u,y⟩:=A;simp at y;rcases y with rfl | rfl
 ·exact kJ (by omega)
 ·exact aJq (D c u) (List.all_eq_true.1 h c u)
theorem aHR {n:Nod} (h:fJ gE oC n) (u:zP n):NdX n:=by
 obtain ⟨_,A,D,_,_,_,y,_⟩:=h;exact ⟨aIy (fun c j=>(u.l.2 c j).2) A,aMu (fun c j=>(u.t.2 c j).2) D,aMc n,aKF y⟩
def ShT:Tr->Prop
 | .leaf p=>(0<=p.k/\p.k<=5)/\p.n=0/\(p.k≠1->p.t=[])
 | .un p x=>((p.k=7/\0<=p.n)\/(p.k=8/\p.n=0))/\p.t=[]/\ShT x
 | .bin p x y=>(p.k=6\/p.k=9)/\p.t=[]/\p.n=0/\ShT x/\ShT y
def Sh (B:Int) (T:Tr):Prop:=ShT T/\kA T<=B
def ShL (B:Int) (Ts:List Tr):Prop:=∀ T∈Ts,Sh B T
theorem jY (B:Int):ShL B []:=fun T h=>by simp at h
theorem dC {B:Int} {T:Tr} {r:List Tr} (h:Sh B T) (u:ShL B r):ShL B (T::r):=fun U j=>by
 rcases List.mem_cons.1 j with rfl | j
 ·exact h
 ·exact u U j
theorem sL {B:Int} {a b:List Tr} (h:ShL B a) (u:ShL B b):ShL B (a++b):=fun U j=>by
 rcases List.mem_append.1 j with j | j
 ·exact h U j
 ·exact u U j
theorem kI {B k:Int} (j:0<=B) (h:0<=k/\k<=5):Sh B (bC k):=⟨⟨h,rfl,fun _=>rfl⟩,j⟩
theorem jH {B:Int} (j:0<=B) (t:List Int):Sh B (bR t):=⟨⟨by simp,rfl,fun h=>absurd rfl h⟩,j⟩
theorem aMv {B:Int} {x y:Tr} (h:Sh B x) (j:Sh B y):Sh B (uF x y):=by
 refine ⟨⟨.inl rfl,rfl,rfl,h.1,j.1⟩,?_⟩;simp only [uF,kA]
 split
 ·exact h.2
 ·exact j.2
theorem aF0 {B:Int} : ∀ (r:List Tr) (T:Tr),Sh B T->ShL B r->Sh B (r.foldl uF T)
 | [],T,h,_=>h
 | U::r,T,h,hr=>aF0 r (uF T U) (aMv h (hr U (by simp))) (fun X j=>hr X (by simp [j]))
theorem zG {B:Int} (u:0<=B) {j:List Tr} (h:ShL B j):Sh B (iP j):=by
 cases j with
 | nil=>exact ⟨⟨by simp,rfl,fun _=>rfl⟩,u⟩
 | cons T r=>exact aF0 r T (h T (by simp)) (fun X y=>h X (by simp [y]))
theorem aGu {B ind:Int} (u:0<=B) (y:0<=ind) (D:B+ind<=4000) {j:List Tr} (h:ShL B j):Sh (B+ind) (lW ind j):=by
 obtain ⟨A,E⟩:=zG u h;refine ⟨⟨.inl ⟨rfl,y⟩,rfl,A⟩,?_⟩;simp only [lW,kA];rw [if_neg (by omega)];omega
theorem aF4 {B:Int} (h:0<=B):∀ j,ShL B (yE j)
 | []=>jY B
 | [l]=>dC (jH h l) (jY B)
 | l::m::j=>dC (jH h l) (dC (kI h (by omega)) (aF4 h (m::j)))
theorem aJV {B:Int} (h:0<=B) (c:Cm):Sh B (qQ c):=by
 unfold qQ
 split
 ·exact zG h (aF4 h _)
 ·exact jH h _
theorem aCR {B:Int} (h:0<=B) (y:List Cm):ShL B (fL y):=by
 intro T u;simp only [fL,List.mem_flatMap] at u;obtain ⟨c,A,j⟩:=u;simp at j;rcases j with rfl | rfl
 ·exact aJV h c
 ·exact kI h (by omega)
theorem aGS {B:Int} (h:0<=B) (y:List Cm):ShL B (iW y):=by
 intro T u;simp only [iW,List.mem_flatMap] at u;obtain ⟨c,A,j⟩:=u;simp at j;rcases j with rfl | rfl
 ·exact kI h (by omega)
 ·exact aJV h c
theorem aKd {B:Int} (h:0<=B) (n:Nod):ShL B (qK n):=by
 unfold qK
 split
 ·exact dC (jH h _) (jY B)
 ·exact jY B
theorem aLI {B:Int} (h:0<=B) {V:List Nod->Tr} (j:∀ R,Sh B (V R)):∀ R,ShL B (nT V R)
 | []=>jY B
 | n::_=>sL (aCR h _) (sL (aKd h n) (dC (j _) (jY B)))
theorem aGg {B:Int} (h:0<=B) {V:List Nod->Tr} (j:∀ R,Sh B (V R)) (P:List Nod->List Pc × List Nod) (R:List Nod):∀ k,ShL B (pO V P k R)
 | 0=>jY B
 | k+1=>by
   refine sL (aGg h j P R k) (sL ?_ (aLI h j _))
   split
   ·exact jY B
   ·exact dC (jH h _) (dC (kI h (by omega)) (jY B))
theorem aJL (k:Int):0<=nH k/\nH k<=5:=by have:=aAn k;omega
theorem aFa {ind:Int} (u:0<=ind) (y:ind<=16):∀ (d:Nat),d<=201->∀ R,Sh (ind*d) (aR ind d R)
 | 0,_,_=>kI (by simp) (by omega)
 | d+1,hd,[]=>kI (Int.mul_nonneg u (by omega)) (by omega)
 | d+1,hd,n::R=>by
   have j:0<=ind*(d:Int):=Int.mul_nonneg u (by omega);have e:ind*((d+1:Nat):Int)=ind*d+ind:=by push_cast;rw [Int.mul_add,Int.mul_one]
   have D:ind*(d:Int)+ind<=4000:=by
    have:ind*(d:Int)<=16*d:=Int.mul_le_mul_of_nonneg_right y (by omega);omega
   have h:0<=ind*(d:Int)+ind:=(by omega);rw [e];simp only [aR]
   split
   ·exact jH h _
   ·unfold oX
    split
    ·split
     ·exact jH h _
     ·exact zG h (dC (jH h _) (dC (aGu j u D (aGS j _)) (dC (kI h (by omega)) (dC (jH h _) (jY _)))))
    ·have A:Sh (ind*d+ind) (tD ind n (pO (aR ind d) (aF ind d) n.C.toNat R)):=by
      refine zG h (dC (jH h _) (dC (aGu j u D ?_) (dC (kI h (aJL _)) (dC (jH h _) (jY _)))));refine dC (kI j (aJL _)) (sL (aGg j (fun R=>aFa u y d (by omega) R) _ _ _) (dC ?_ (aGS j _)));exact ⟨⟨.inr rfl,rfl,rfl,(jH j _).1,(kI j (by omega)).1⟩,by simp only [aAJ,kA,bR,bC];simpa using j⟩
     refine ⟨⟨.inr ⟨rfl,rfl⟩,rfl,A.1⟩,?_⟩;have:=A.2;simp only [kA];rw [if_neg (by omega)];omega
def PcT:Tr->Prop
 | .leaf p=>lY p=true
 | .un p x=>lY p=true/\PcT x
 | .bin p x y=>lY p=true/\PcT x/\PcT y
theorem zK:∀ (T:Tr),OkT T->ShT T->PcT T
 | .leaf p,h,⟨h1,h2,h3⟩=>by
   refine (fE p).2 ⟨⟨h1.1,by omega⟩,fun j=>?_,fun j=>by rw [h3 j];rfl,fun j=>by omega,fun _=>h2⟩;obtain ⟨u,A⟩:=h j;exact ⟨by simpa using A,aL8 u⟩
 | .un p x,h,⟨h1,h2,h3⟩=>⟨(fE p).2 ⟨by omega,fun j=>by omega,fun _=>by rw [h2];rfl,fun j=>by omega,fun j=>by omega⟩,zK x h.2 h3⟩
 | .bin p x y,h,⟨h1,h2,h3,h4,h5⟩=>⟨(fE p).2 ⟨by omega,fun j=>by omega,fun _=>by rw [h2];rfl,fun j=>by omega,fun _=>h3⟩,zK x h.1 h4,zK y h.2 h5⟩
theorem aJY:∀ (ps:List Pc) (st u:List Tr),bd ps st=some u->(∀ T∈u,PcT T)->(∀ p∈ps,lY p=true)/\∀ T∈st,PcT T
 | [],st,u,h,j=>by simp [bd] at h;subst h;exact ⟨by simp,j⟩
 | p::ps,st,u,h,j=>by
   simp only [bd] at h;obtain ⟨E,y,G⟩:=Option.bind_eq_some_iff.1 h;obtain ⟨H,A⟩:=aJY ps E u G j
   have:lY p=true/\∀ T∈st,PcT T:=by
    unfold dE at y
    split at y
    ·cases y;exact ⟨A (.leaf p) (by simp),fun T j=>A T (by simp [j])⟩
    ·split at y
     ·split at y
      ·cases y;obtain ⟨a,b⟩:=A _ (List.mem_cons_self ..);exact ⟨a,fun T j=>by rcases List.mem_cons.1 j with rfl | j;exact b;exact A T (by simp [j])⟩
      ·cases y
     ·split at y
      ·cases y;obtain ⟨a,b,c⟩:=A _ (List.mem_cons_self ..);exact ⟨a,fun T j=>by simp only [List.mem_cons] at j;rcases j with rfl | rfl | j;exact c;exact b;exact A T (by simp [j])⟩
      ·cases y
   exact ⟨fun q D=>by rcases List.mem_cons.1 D with rfl | D;exact this.1;exact H q D,this.2⟩
end Go.Proofs.YtgifkcpdihphlaaGreatDoor
namespace Go.Proofs.YtgifkcpdihphlaaGreatDoor
open Tryz
open Go.RowKit
theorem xV (v:Value) (zs:List Int) (w:World) (hv:Rd .u8 w.heap.size w v zs) (hn:zs.length<=4194304) :
  Calls prog 78 #[v] w fun e w'=>∃ Y,e=.returned Y/\Ow .u8 5 w.heap.size w' Y zs/\w.grownBy w' none:=by
 obtain ⟨i0,hi,L,N,S⟩:=info_parts lL;obtain ⟨a,cap,rfl,U⟩:=hv
 go_enter func78,ntmps78
 go_wp2_with (at_make;refine wpList_make_full _ rfl _ _ 27 rfl w.heap.size 5 i0 (.int .u8 0) 1 underlying27 hi L N _ _ _ _ zs.length rfl rfl (by omega) (by omega) ?b2 ?b3 (Nat.le_refl _) ?_)
 case b2=>rw [S];omega
 case b3=>unfold maxLen;omega
 intro w0 E A;go_wp2
 go_loopw [4] (fun i wr=>∃ k:Nat,k<=zs.length/\i=.int .i64 k/\wr.ownsRow w.heap.size 5 1 (.slice (some ⟨w.heap.size,0,none⟩) zs.length zs.length) zs.length ((zs.take k++List.replicate (zs.length - k) 0).map (Value.int .u8))/\w.grownBy wr none)
  (fun i _=>zs.length - (intOf i).toNat)
 case atStart=>
  refine ⟨0,Nat.zero_le _,rfl,?_,A⟩;simpa [toList_madeCells_one,Value.cells] using E
 case round=>
  obtain ⟨k,hk,rfl,u,H⟩:=hrel
  by_cases G:k<zs.length
  ·obtain ⟨b,off,rfl,hb,X⟩:=U (fun h=>by simp [h] at G);have M:wr.cell? ⟨b,off+k,none⟩=some (.int .u8 (zs[k]?.getD 0)):=H.cell (X k G) (by simp)
   have a4:wr.cell? ⟨w.heap.size,k,none⟩=some (.int .u8 0):=by
    rw [World.ownsRow.cellAt u k (by omega)];simp [List.getElem?_append,List.getElem?_replicate,Nat.min_eq_left hk];omega
   have a7:=World.ownsRow.frozenAt u k;have y:=World.ownsRow.stored u k (.int .u8 (zs[k]?.getD 0));rw [aBR _ zs k G] at y;have J:=aU H y.2 (fun j Z=>by cases Z;exact Nat.le_refl _);have D:=y.1;clear y X U u hb;generalize zs[k]?.getD 0=z at M D J;go_wp2
   go_roundw
   case rel=>exact ⟨k+1,by omega,by go_num,D,J⟩
   case measure=>simp [intOf];omega
  ·go_wp2;go_ret;have O:k=zs.length:=(by omega);subst O;exact ⟨_,rfl,by unfold Ow;simpa using u,H⟩
end Go.Proofs.YtgifkcpdihphlaaGreatDoor
