import Derived.Test.YtmfehflibkokbaaGreatDoorMAU
set_option maxHeartbeats 16000000
set_option maxRecDepth 100000
namespace Go.Proofs.YtmfehflibkokbaaGreatDoor
open Go.Proofs.Tryz
def bD (k:Int):Tr:=.leaf ⟨k,[],0⟩
def bT (t:List Int):Tr:=.leaf ⟨1,t,0⟩
def wS:List (List Int)->List Tr
 | []=>[]
 | [l]=>[bT l]
 | l::ls=>bT l::bD 5::wS ls
def aIe (c:Cm):List Int:=if c.b then 47::42::c.t++[42,47] else 47::47::c.t
def pU (c:Cm):Tr:=if c.b then iV (wS (spl [] (47::42::c.t++[42,47]))) else bT (47::47::c.t)
def fD (cs:List Cm):List Tr:=cs.flatMap fun c=>[pU c,bD 4]
def jK (cs:List Cm):List Tr:=cs.flatMap fun c=>[bD 4,pU c]
def nG (n:Nod):List Tr:=if n.mem then [bT (fS n.key++[58,32])] else []
def aBm (n:Nod):List Int:=
 if n.k=3 then n.X else if n.k=4 then (quR n.U).1
 else if n.k=0 then [110,117,108,108] else if n.k=1 then [116,114,117,101] else [102,97,108,115,101]
section
variable (V:List Nod->Tr) (P:List Nod->List Pc × List Nod)
def mW:List Nod->List Tr
 | []=>[]
 | n::R=>fD n.L++(nG n++[V (n::R)])
def oZ:Nat->List Nod->List Tr
 | 0,_=>[]
 | k+1,R=>oZ k R++((if k=0 then [] else [bT [44],bD 2])++mW V (bF P k R))
end
def yH:Tr:=.bin ⟨9,[],0⟩ (bT [44]) (bD 0)
def aIB (k:Int) (items:List Tr) (tail:List Cm):List Tr:=bD (oD k)::(items++(yH::jK tail))
def oH (ind:Int) (Ts:List Tr):Tr:=.un ⟨7,[],ind⟩ (iV Ts)
def sE (ind:Int) (n:Nod) (items:List Tr):Tr:=iV [bT [jY n.k],oH ind (aIB n.k items n.tail),bD (oD n.k),bT [kW n.k]]
def pQ (ind:Int) (n:Nod) (items:List Tr):Tr:=
 if n.C=0 then
  if n.tail=[] then bT [jY n.k,kW n.k]
  else iV [bT [jY n.k],oH ind (jK n.tail),bD 4,bT [kW n.k]]
 else .un ⟨8,[],0⟩ (sE ind n items)
def dZ (ind:Int):Nat->List Nod->Tr
 | 0,_=>bD 0
 | _+1,[]=>bD 0
 | d+1,n::R=>if n.k<5 then bT (aBm n) else pQ ind n (oZ (dZ ind d) (aJ ind d) n.C.toNat R)
theorem jU (k:Int) (h:ar k=0):Bl (aH k) (bD k):=aBN ⟨k,[],0⟩ h
theorem jA (t:List Int):Bl (aG t) (bT t):=aBN ⟨1,t,0⟩ (by simp [ar])
theorem aIr:∀ h,BlL (rW h) (wS h)
 | []=>.nil
 | [l]=>.cons (jA l) .nil
 | l::m::h=>.cons (jA l) (.cons (jU 5 (by simp [ar])) (aIr (m::h)))
theorem aIf (c:Cm):Bl (jJ c) (pU c):=by
 unfold jJ pU
 split
 ·exact wH (aIr _)
 ·exact jA _
theorem aCk:∀ h,BlL (bM h) (fD h)
 | []=>.nil
 | c::h=>by
   rw [show bM (c::h)=[jJ c,aH 4]++bM h by simp [bM],show fD (c::h)=[pU c,bD 4]++fD h by simp [fD]];exact .cons (aIf c) (.cons (jU 4 (by simp [ar])) (aCk h))
theorem aEg:∀ h,BlL (cU h) (jK h)
 | []=>.nil
 | c::h=>by
   rw [show cU (c::h)=[aH 4,jJ c]++cU h by simp [cU],show jK (c::h)=[bD 4,pU c]++jK h by simp [jK]];exact .cons (jU 4 (by simp [ar])) (.cons (aIf c) (aEg h))
theorem aLb (n:Nod):BlL (pB n) (nG n):=by
 unfold pB nG
 split
 ·exact .one (jA _)
 ·exact .nil
theorem aJd (n:Nod):fA n=aG (aBm n):=by
 unfold fA aBm
 split
 ·rfl
 ·split
  ·rfl
  ·split
   ·rfl
   ·split<;>rfl
theorem aLc:Bl yC yH:=aKU (ps:=[⟨1,[44],0⟩]) (qs:=[⟨0,[],0⟩]) (jA [44]) (jU 0 (by simp [ar])) ⟨9,[],0⟩ (by simp [ar])
theorem aHv (k:Int):ar (oD k)=0:=by unfold oD;split<;>simp [ar]
theorem aI7 {ind:Int} {n:Nod} {y:List (List Pc)} {A:List Tr} (h:BlL y A):Bl (kB ind n y) (pQ ind n A):=by
 unfold kB pQ
 split
 ·split
  ·exact jA _
  ·exact wH (.cons (jA _) (.cons (aHt (wH (aEg _)) ⟨7,[],ind⟩ (by simp [ar])) (.cons (jU 4 (by simp [ar])) (.cons (jA _) .nil))))
 ·refine aHt (wH (.cons (jA _) (.cons (aHt (wH (.cons (jU _ (aHv _)) (h.app (.cons aLc (aEg _))))) ⟨7,[],ind⟩ (by simp [ar])) (.cons (jU _ (aHv _)) (.cons (jA _) .nil))))) ⟨8,[],0⟩ (by simp [ar])
theorem nY {d:Nat} {m:Bool} {ind:Int} {k:Nat} {R y:List Nod} (h:aO (aE bC d m) k (R,())=some (y,())) (J:∀ n∈R,n.k<5->n.C=0) {j:Nat} (M:j<k) :
  aE bC d m (bF (aJ ind d) j R,())=some (bF (aJ ind d) (j+1) R,())/\∃ Q,R=Q++bF (aJ ind d) j R:=by
 have D:=lX (ind:=ind) (fun R y h G=>oJ ind d m R y h G) k R y h J;have A:=D j (by omega);have E:=D (j+1) (by omega);rw [oL,A,Option.bind_some] at E;exact ⟨E,(gK (bU bC d m).1 (bU bC d m).2 j).2 _ _ A⟩
theorem nW {d:Nat} {m:Bool} {n:Nod} {R D:List Nod} (h:aE bC (d+1) m (n::R,())=some (D,())):n.mem=m/\¬ (5<=n.k/\d=0)/\aO (aE bC d (decide (n.k=6))) n.C.toNat (R,())=some (D,()):=by
 by_cases y:n.mem≠m
 ·simp [aE,y] at h
 ·by_cases A:5<=n.k/\d=0
  ·simp [aE,y,A,bC] at h
  ·simp only [aE,if_neg y,if_neg A,bC,Option.bind_some] at h;exact ⟨by simpa using y,A,h⟩
theorem mV {d:Nat} {m:Bool} {R A:List Nod} (h:aE bC d m (R,())=some (A,())):∃ n y,R=n::y:=by
 rcases R with _ | ⟨n,y⟩
 ·cases d<;>simp [aE] at h
 ·exact ⟨n,y,rfl⟩
theorem aL4 {V:List Nod->Tr} {P:List Nod->List Pc × List Nod} (R:List Nod) (h:Bl (P R).1 (V R)):BlL (iN P R) (mW V R):=by
 cases R with
 | nil=>exact .nil
 | cons n R=>exact (aCk _).app ((aLb n).app (.one h))
theorem aIS {V:List Nod->Tr} {P:List Nod->List Pc × List Nod} (R:List Nod):∀ k,(∀ j,j<k->Bl (P (bF P j R)).1 (V (bF P j R)))->BlL (itK P k R) (oZ V P k R)
 | 0,_=>.nil
 | k+1,h=>by
   refine (aIS R k (fun j y=>h j (by omega))).app (BlL.app ?_ (aL4 _ (h k (by omega))))
   split
   ·exact .nil
   ·exact .cons (jA _) (.one (jU 2 (by simp [ar])))
theorem aEA (ind:Int):∀ (d:Nat) (m:Bool) (R A:List Nod),aE bC d m (R,())=some (A,())->(∀ n∈R,n.k<5->n.C=0)->Bl (aJ ind d R).1 (dZ ind d R)
 | 0,m,R,A,h,_=>by simp [aE] at h
 | d+1,m,[],A,h,_=>by simp [aE] at h
 | d+1,m,n::R,A,h,hn=>by
   obtain ⟨_,_,E⟩:=nW h;have y:∀ p∈R,p.k<5->p.C=0:=fun p D=>hn p (by simp [D]);simp only [aJ,dZ]
   split
   ·rw [aJd];exact jA _
   ·refine aI7 (aIS R _ fun j M=>?_);obtain ⟨G,Q,J⟩:=nY (ind:=ind) E y M;exact aEA ind d _ _ _ G (fun p D=>y p (by rw [J];exact List.mem_append_right _ D))
theorem rS (width:Int) (t:List Int) (ind col b:Int):ly width (bT t) ind col b=(t,col+aI t):=by simp [ly,bT]
theorem rM (width:Int) {k:Int} (h:k=2\/k=3\/k=4) (ind col b:Int):ly width (bD k) ind col b=(bR ind,ind):=by
 simp only [ly,bD];rw [if_neg (by omega),if_neg (by omega),if_pos h]
theorem aIs (width:Int):∀ (h:List (List Int)) (ind col b:Int),(lyL width (wS h) ind col b).1=aAc h
 | [],_,_,_=>rfl
 | [l],ind,col,b=>by simp [wS,lyL,rS,aAc]
 | l::m::h,ind,col,b=>by
   simp only [wS,lyL,rS,aAc];rw [aIs width (m::h)];simp [ly,bD]
theorem aHW (width:Int) (c:Cm) (ind col b:Int):(ly width (pU c) ind col b).1=aIe c:=by
 unfold pU aIe
 split
 ·rw [aG0,aIs,aIg];simp
 ·rw [rS]
def dO (cs:List Cm) (ind:Int):List Int:=cs.flatMap fun c=>aIe c++bR ind
def vP (cs:List Cm) (ind:Int):List Int:=cs.flatMap fun c=>bR ind++aIe c
def pS (n:Nod):List Int:=if n.mem then fS n.key++[58,32] else []
theorem aCp (width:Int):∀ (h:List Cm) (ind col b:Int),(lyL width (fD h) ind col b).1=dO h ind
 | [],_,_,_=>rfl
 | c::h,ind,col,b=>by
   rw [show fD (c::h)=pU c::bD 4::fD h by simp [fD]];simp only [lyL,rM width (.inr (.inr rfl)),aCp width h,aHW];simp [dO]
theorem aED (width:Int):∀ (h:List Cm) (ind col b:Int),(lyL width (jK h) ind col b).1=vP h ind
 | [],_,_,_=>rfl
 | c::h,ind,col,b=>by
   rw [show jK (c::h)=bD 4::pU c::jK h by simp [jK]];simp only [lyL,rM width (.inr (.inr rfl)),aED width h,aHW];simp [vP]
theorem aLa (width:Int) (n:Nod) (ind col b:Int):(lyL width (nG n) ind col b).1=pS n:=by
 unfold nG pS
 split
 ·simp [lyL,rS]
 ·rfl
def Cu (out:List Int):Prop:=Vt (kZ [] out)
def LX (width:Int) (T:Tr) (ind:Int) (out:List Int) (b:Int):List Int:=(ly width T ind (lJ out) b).1
def LXL (width:Int) (Ts:List Tr) (ind:Int) (out:List Int) (b:Int):List Int:=(lyL width Ts ind (lJ out) b).1
def OkL (Ts:List Tr):Prop:=∀ T∈Ts,OkT T
theorem pF {width:Int} {T:Tr} {ind b:Int} {out:List Int} (h:OkT T) (A:0<=ind) (D:Cu out):(ly width T ind (lJ out) b).2=lJ (out++LX width T ind out b)/\Cu (out++LX width T ind out b):=by
 obtain ⟨y,E⟩:=tI width T ind b _ h A D;unfold lJ Cu LX;rw [pZ];exact ⟨y,E⟩
theorem jT {width:Int} {T:Tr} {r:List Tr} {ind b:Int} {out:List Int} (h:OkT T) (A:0<=ind) (y:Cu out):LXL width (T::r) ind out b=LX width T ind out (bhL r b)++LXL width r ind (out++LX width T ind out (bhL r b)) b:=by
 simp only [LXL,lyL,LX];rw [(pF (width:=width) (b:=bhL r b) h A y).1];rfl
theorem sM {width:Int} {ind b:Int} (A:0<=ind):∀ {y:List Tr} {out:List Int},OkL y->Cu out->(lyL width y ind (lJ out) b).2=lJ (out++LXL width y ind out b)/\Cu (out++LXL width y ind out b)
 | [],out,_,hc=>by simp only [LXL,lyL,List.append_nil];exact ⟨trivial,hc⟩
 | T::r,out,h,hc=>by
   have D:=h T (by simp);obtain ⟨J,M⟩:=pF (width:=width) (b:=bhL r b) D A hc;obtain ⟨G,E⟩:=sM (width:=width) (b:=b) A (fun U N=>h U (by simp [N]):OkL r) M;rw [jT D A hc,<- List.append_assoc];refine ⟨?_,E⟩;simp only [lyL];rw [J];exact G
theorem tX {width:Int} {xs ys:List Tr} {ind b:Int} {out:List Int} (h:OkL xs) (A:0<=ind) (y:Cu out):LXL width (xs++ys) ind out b=LXL width xs ind out (bhL ys b)++LXL width ys ind (out++LXL width xs ind out (bhL ys b)) b:=by
 simp only [LXL,aJx];rw [(sM (width:=width) (b:=bhL ys b) A h y).1];rfl
theorem aEh (width:Int) (h:List Tr) (ind:Int) (out:List Int) (b:Int):LX width (iV h) ind out b=LXL width h ind out b:=by unfold LX LXL;rw [aG0]
theorem xX {k:Int} (y:k=2\/k=3\/k=4) (b:Int):bhO (bD k) b=0:=by
 have h:leadT (bD k)=(0,true):=(by unfold bD;simp only [leadT];rw [if_neg (by omega),if_neg (by omega)]);unfold bhO;rw [h];rfl
theorem aBw {x:Int} (y:0<=x) (h:x<128):aI [x]=1:=by
 have:=iR (q:=[x]) (by simp [bW];omega);simpa [aP,wB x h] using this
theorem aHu (b:Int):bhO (bT [44]) b=1+b:=by
 unfold bhO bT;simp [leadT,aBw (x:=44) (by omega) (by omega)]
theorem aLe (b:Int):bhO yH b=1+b:=by
 unfold bhO yH;simp [leadT,bT,aBw (x:=44) (by omega) (by omega)]
theorem zL (k:Int):oD k=2\/oD k=3\/oD k=4:=by unfold oD;split<;>simp
theorem aJb (tail:List Cm) (e:Int) (h:e=2\/e=3\/e=4) (r:List Tr) (b:Int):bhL (yH::jK tail) (bhL (bD e::r) b)=1:=by
 simp only [bhL,aLe,xX h];cases tail with
 | nil=>simp [jK,bhL]
 | cons c tail=>
   rw [show jK (c::tail)=bD 4::pU c::jK tail by simp [jK]];simp only [bhL,xX (.inr (.inr rfl))];rfl
def wrI (width:Int) (V:List Nod->Tr) (ind:Int) (o:List Int):List Nod->List Int
 | []=>o
 | n::R=>(o++dO n.L ind++pS n)++LX width (V (n::R)) ind (o++dO n.L ind++pS n) 1
def xI (width:Int) (V:List Nod->Tr) (P:List Nod->List Pc × List Nod) (ind:Int) (o:List Int) (R:List Nod):Nat->List Int
 | 0=>o
 | k+1=>wrI width V ind (xI width V P ind o R k++bR ind) (bF P k R)++[44]
theorem aKA {width:Int} {V:List Nod->Tr} {ind:Int} {o:List Int} {n:Nod} {R:List Nod} (M:OkL (fD n.L)) (G:OkL (nG n)) (h:0<=ind) (D:Cu o):o++LXL width (mW V (n::R)) ind o 1=wrI width V ind o (n::R):=by
 have E:∀ b,LXL width (fD n.L) ind o b=dO n.L ind:=fun b=>aCp _ _ _ _ _;have J:∀ A b,LXL width (nG n) ind A b=pS n:=fun A b=>aLa _ _ _ _ _;have y:=(sM (width:=width) (b:=bhL (nG n++[V (n::R)]) 1) h M D).2;rw [E] at y;have N:=(sM (width:=width) (b:=bhL [V (n::R)] 1) h G y).2;rw [J] at N;simp only [mW,wrI];rw [tX M h D,E,tX G h y,J];simp only [LXL,lyL,bhL,List.append_nil,LX,List.append_assoc]
theorem aCJ {width:Int} {V:List Nod->Tr} {P:List Nod->List Pc × List Nod} {ind e:Int} {o:List Int} {R:List Nod} (U:e=2\/e=3\/e=4) (D:0<=ind) (J:Cu o) :
  ∀ k,(∀ j,j<k->OkL (mW V (bF P j R))/\∃ n R',bF P j R=n::R'/\OkL (fD n.L)/\OkL (nG n))->
   OkL (bD e::oZ V P k R)/\(1<=k->(o++LXL width (bD e::oZ V P k R) ind o 1)++[44]=xI width V P ind o R k)
 | 0,_=>⟨fun T y=>by simp [oZ] at y;subst y;intro h;simp at h;omega,fun h=>by omega⟩
 | k+1,h=>by
   obtain ⟨A,S⟩:=aCJ (width:=width) (P:=P) (V:=V) (R:=R) U D J k (fun j hj=>h j (by omega));obtain ⟨hit,n,R',hR,hb,hk⟩:=h k (by omega);have G:OkT (bD 2):=fun h=>by simp at h
   have E:OkT (bT [44]):=fun _=>⟨iW (by simp),by simp⟩;refine ⟨fun T y=>?_,fun _=>?_⟩
   ·simp only [oZ,List.mem_cons,List.mem_append] at y;rcases y with rfl | y | y | y
    ·exact A _ (by simp)
    ·exact A _ (by simp [y])
    ·split at y
     ·simp at y
     ·simp at y;rcases y with rfl | rfl
      ·exact E
      ·exact G
    ·exact hit T y
   ·simp only [xI];rcases Nat.eq_zero_or_pos k with rfl | b0
    ·simp only [oZ,if_true,List.nil_append,xI]
     have c1:Cu (o++bR ind):=by
      have:=(pF (width:=width) (T:=bD e) (b:=0) (A _ (by simp)) D J).2;unfold LX at this
      rwa [rM width U] at this
     rw [jT (A _ (by simp)) D J];have O:∀ b,LX width (bD e) ind o b=bR ind:=fun b=>by unfold LX;rw [rM width U]
     rw [O,hR,<- List.append_assoc,aKA hb hk D c1]
    ·have ih:=S (by omega)
     have X:bhL ([bT [44],bD 2]++mW V (bF P k R)) 1=1:=by
      simp only [List.cons_append,List.nil_append,bhL,aHu,xX (.inl rfl)];rfl
     have Y:¬ k=0:=(by omega);simp only [oZ,if_neg Y];rw [<- List.cons_append,tX A D J,X];have N:=(sM (width:=width) (b:=1) D A J).2;rw [show [bT [44],bD 2]++mW V (bF P k R)=bT [44]::bD 2::mW V (bF P k R) from rfl,jT E D N];have O:∀ M b,LX width (bT [44]) ind M b=[44]:=fun M b=>by unfold LX;rw [rS]
     have e2:∀ M b,LX width (bD 2) ind M b=bR ind:=fun M b=>by unfold LX;rw [rM width (.inl rfl)]
     have Z:=(pF (width:=width) (T:=bT [44]) (b:=0) E D N).2;rw [O,ih] at Z;have c3:=(pF (width:=width) (T:=bD 2) (b:=0) G D Z).2;rw [e2] at c3;rw [O,<- List.append_assoc,<- List.append_assoc,ih,jT G D Z,e2,<- List.append_assoc,hR,aKA hb hk D c3]
structure NdX (n:Nod):Prop where
 bef:OkL (fD n.L)
 aft:OkL (jK n.tail)
 key:OkL (nG n)
 scal:OkT (bT (aBm n))
theorem aFf:∀ (r:List Tr) (T:Tr),OkT T->OkL r->OkT (r.foldl sN T)
 | [],T,h,_=>h
 | U::r,T,h,hr=>aFf r (sN T U) ⟨h,hr U (by simp)⟩ (fun X y=>hr X (by simp [y]))
theorem tG {y:List Tr} (h:OkL y):OkT (iV y):=by
 cases y with
 | nil=>intro h;simp at h
 | cons T r=>exact aFf r T (h T (by simp)) (fun X A=>h X (by simp [A]))
theorem jN {k:Int} (h:k≠1):OkT (bD k):=fun e=>absurd e h
theorem aEK {x:Int} (y:0<=x) (h:x<128) (A:x≠10):OkT (bT [x]):=fun _=>⟨iW (by simp;omega),by simp;omega⟩
theorem aHl (k:Int):jY k=123\/jY k=91:=by unfold jY;split<;>simp
theorem aHS (k:Int):kW k=125\/kW k=93:=by unfold kW;split<;>simp
theorem vJ (k:Int):OkT (bT [jY k]):=by rcases aHl k with h | h<;>(rw [h];exact aEK (by omega) (by omega) (by omega))
theorem aBM (k:Int):OkT (bT [kW k]):=by rcases aHS k with h | h<;>(rw [h];exact aEK (by omega) (by omega) (by omega))
theorem aFg (k:Int):OkT (bT [jY k,kW k]):=by
 intro _;rcases aHl k with h | h<;>rcases aHS k with y | y<;>(rw [h,y];exact ⟨iW (by simp),by simp⟩)
theorem aGQ:OkT yH:=⟨aEK (by omega) (by omega) (by omega),jN (by omega)⟩
theorem aCM {a b:List Tr} (h:OkL a) (A:OkL b):OkL (a++b):=fun T y=>by
 rcases List.mem_append.1 y with y | y
 ·exact h T y
 ·exact A T y
theorem eQ {T:Tr} {r:List Tr} (h:OkT T) (A:OkL r):OkL (T::r):=fun U y=>by
 rcases List.mem_cons.1 y with rfl | y
 ·exact h
 ·exact A U y
theorem sO:OkL []:=fun T h=>by simp at h
theorem aGL (k:Int):oD k≠1:=by have:=zL k;omega
theorem aHN {k:Int} {y:List Tr} {tail:List Cm} (h:OkL y) (A:OkL (jK tail)):OkL (aIB k y tail):=eQ (jN (aGL k)) (aCM h (eQ aGQ A))
theorem aKl {ind:Int} {n:Nod} {y:List Tr} (D:0<=ind) (h:OkL y) (A:OkL (jK n.tail)):OkT (sE ind n y):=
 tG (eQ (vJ _) (eQ ⟨D,tG (aHN h A)⟩ (eQ (jN (aGL _)) (eQ (aBM _) sO))))
theorem aKG {V:List Nod->Tr} {n:Nod} {R:List Nod} (h:NdX n) (y:OkT (V (n::R))):OkL (mW V (n::R)):=aCM h.bef (aCM h.key (eQ y sO))
theorem vG {ind:Int} (N:0<=ind):∀ (d:Nat) (m:Bool) (R M:List Nod),aE bC d m (R,())=some (M,())->(∀ n∈R,n.k<5->n.C=0)->(∀ n∈R,NdX n)->OkT (dZ ind d R)
 | 0,m,R,M,h,_,_=>by simp [aE] at h
 | d+1,m,[],M,h,_,_=>by simp [aE] at h
 | d+1,m,n::R,M,h,hn,hx=>by
   obtain ⟨_,_,U⟩:=nW h;have J:∀ p∈R,p.k<5->p.C=0:=fun p G=>hn p (by simp [G]);have A:=hx n (by simp);simp only [dZ]
   split
   ·exact A.scal
   ·unfold pQ
    split
    ·split
     ·exact aFg _
     ·exact tG (eQ (vJ _) (eQ ⟨N,tG A.aft⟩ (eQ (jN (by omega)) (eQ (aBM _) sO))))
    ·refine ⟨Int.le_refl 0,aKl N ?_ A.aft⟩;have:=(aCJ (width:=0) (V:=dZ ind d) (P:=aJ ind d) (ind:=0) (e:=2) (o:=[]) (R:=R) (.inl rfl) (Int.le_refl 0) mO n.C.toNat (fun j Z=>?_)).1
     ·exact fun T S=>this T (by simp [S])
     ·obtain ⟨O,Q,X⟩:=nY (ind:=ind) U J Z;obtain ⟨p,Y,D⟩:=mV O;have y:∀ q∈bF (aJ ind d) j R,q∈R:=fun q E=>by rw [X];exact List.mem_append_right _ E
      have hv:=vG N d _ _ _ O (fun q E=>J q (y q E)) (fun q E=>hx q (by simp [y q E]));have G:=hx p (by simp [y p (by rw [D];simp)]);rw [D] at hv ⊢;exact ⟨aKG G hv,p,Y,rfl,G.bef,G.key⟩
def BRK (width ind:Int) (d:Nat) (n:Nod) (R:List Nod) (level:Int) (out:List Int):List Int:=
 xI width (dZ ind d) (aJ ind d) (level+ind) (out++[jY n.k]) R n.C.toNat++vP n.tail (level+ind)++bR level++[kW n.k]
theorem aLs {ind:Int} {d:Nat} {n:Nod} {R S:List Nod} (U:0<=ind) (N:aO (aE bC d (decide (n.k=6))) n.C.toNat (R,())=some (S,())) (J:∀ p∈R,p.k<5->p.C=0) (M:∀ p∈R,NdX p) :
  ∀ j,j<n.C.toNat->OkL (mW (dZ ind d) (bF (aJ ind d) j R))/\∃ p E,bF (aJ ind d) j R=p::E/\OkL (fD p.L)/\OkL (nG p):=fun j X=>by
 obtain ⟨G,Q,O⟩:=nY (ind:=ind) N J X;obtain ⟨p,E,y⟩:=mV G;have h:∀ q∈bF (aJ ind d) j R,q∈R:=fun q A=>by rw [O];exact List.mem_append_right _ A
 have hv:=vG U d _ _ _ G (fun q A=>J q (h q A)) (fun q A=>M q (h q A));have D:=M p (h p (by rw [y];simp));rw [y] at hv ⊢;exact ⟨aKG D hv,p,E,rfl,D.bef,D.key⟩
theorem pE (width:Int) (t:List Int) (ind:Int) (o:List Int) (b:Int):LX width (bT t) ind o b=t:=by unfold LX;rw [rS]
theorem aCt (width:Int) {k:Int} (h:k=2\/k=3\/k=4) (ind:Int) (o:List Int) (b:Int):LX width (bD k) ind o b=bR ind:=by unfold LX;rw [rM width h]
theorem aFQ (width ind:Int) (h:List Tr) (level:Int) (o:List Int) (b:Int):LX width (oH ind h) level o b=LXL width h (level+ind) o b:=by
 unfold LX oH;simp only [ly,if_true];exact aEh width h (level+ind) o b
theorem aFq {t o:List Int} (h:OkT (bT t)) (y:Cu o):Cu (o++t):=by
 have:=(pF (width:=0) (T:=bT t) (ind:=0) (b:=0) h (Int.le_refl 0) y).2
 rwa [pE] at this
theorem aKv {ind:Int} {o:List Int} (y:0<=ind) (h:Cu o):Cu (o++bR ind):=by
 have:=(pF (width:=0) (T:=bD 2) (ind:=ind) (b:=0) (jN (by omega)) y h).2
 rwa [aCt 0 (.inl rfl)] at this
theorem aFI {width ind level e:Int} {k:Int} {y:List Tr} {out:List Int} {b:Int} (M:e=2\/e=3\/e=4) (O:0<=ind) (h:0<=level) (J:OkL y) (D:Cu out) :
  out++LX width (iV [bT [jY k],oH ind y,bD e,bT [kW k]]) level out b=((out++[jY k])++LXL width y (level+ind) (out++[jY k]) (bhL [bD e,bT [kW k]] b))++bR level++[kW k]:=by
 have E:=aFq (vJ k) D;have G:OkT (oH ind y):=⟨O,tG J⟩;have A:=(pF (width:=width) (T:=oH ind y) (ind:=level) (b:=bhL [bD e,bT [kW k]] b) G h E).2;rw [aFQ] at A;have N:=aKv h A;rw [aEh,jT (vJ k) h D,pE,jT G h E,aFQ,jT (jN (by omega)) h A,aCt width M,jT (aBM k) h N,pE];simp [LXL,lyL]
theorem aKf {width ind:Int} {d:Nat} {n:Nod} {R R2:List Nod} {level b:Int} {out:List Int} (N:0<=ind) (A:0<=level) (M:Cu out) (J:1<=n.C)
  (Z:aO (aE bC d (decide (n.k=6))) n.C.toNat (R,())=some (R2,())) (O:∀ p∈R,p.k<5->p.C=0) (U:∀ p∈R,NdX p) (G:NdX n) :
  out++LX width (sE ind n (oZ (dZ ind d) (aJ ind d) n.C.toNat R)) level out b=BRK width ind d n R level out:=by
 have h:0<=level+ind:=(by omega);have E:=aFq (vJ n.k) M;obtain ⟨D,X⟩:=aCJ (width:=width) (V:=dZ ind d) (P:=aJ ind d) (R:=R) (zL n.k) h E n.C.toNat (aLs N Z O U);have i3:=X (by omega);have hI:OkL (aIB n.k (oZ (dZ ind d) (aJ ind d) n.C.toNat R) n.tail):=aHN (fun T Y=>D T (by simp [Y])) G.aft;rw [sE,aFI (zL n.k) N A hI M];have y:=aJb n.tail (oD n.k) (zL n.k) [bT [kW n.k]] b;have c2:=(sM (width:=width) (b:=1) h D E).2;rw [aIB,<- List.cons_append,tX D h E,y,jT aGQ h c2];have S:∀ o b,LX width yH (level+ind) o b=[44]:=fun o b=>by unfold LX yH;simp only [ly];rw [if_neg (by omega)];simp [bT,ly]
 have hf:∀ o b,LXL width (jK n.tail) (level+ind) o b=vP n.tail (level+ind):=fun o b=>aED _ _ _ _ _;rw [S,hf];unfold BRK;rw [<- i3];simp only [List.append_assoc]
theorem aKb {width ind:Int} {d:Nat} {n:Nod} {R:List Nod} {level b:Int} {out:List Int} (G:0<=ind) (A:0<=level) (D:Cu out) (h:n.C=0) (y:NdX n) :
  out++LX width (iV [bT [jY n.k],oH ind (jK n.tail),bD 4,bT [kW n.k]]) level out b=BRK width ind d n R level out:=by
 rw [aFI (.inr (.inr rfl)) G A y.aft D];have E:∀ o b,LXL width (jK n.tail) (level+ind) o b=vP n.tail (level+ind):=fun o b=>aED _ _ _ _ _;rw [E];unfold BRK;rw [h];rfl
def eL:List Tr->Option (List Int)
 | []=>some []
 | T::r=>(aM T []).bind fun a=>(eL r).map (a++·)
theorem wI (xs ys:List Tr):eL (xs++ys)=(eL xs).bind fun a=>(eL ys).map (a++·):=by
 induction xs with
 | nil=>simp [eL]
 | cons T r ih=>
   simp only [List.cons_append,eL,ih];cases aM T [] with
   | none=>rfl
   | some a=>
     simp only [Option.bind_some];cases eL r with
     | none=>rfl
     | some o=>
       simp only [Option.bind_some,Option.map_some];cases eL ys with
       | none=>rfl
       | some z=>simp
theorem aBi:∀ (r:List Tr) (T:Tr),aM (r.foldl sN T) []=eL (T::r)
 | [],T=>by simp only [List.foldl_nil,eL];cases aM T []<;>simp
 | U::r,T=>by
   rw [List.foldl_cons,aBi r (sN T U)];simp only [eL,aIu];cases aM T [] with
   | none=>rfl
   | some a=>
     simp only [Option.bind_some];cases aM U [] with
     | none=>rfl
     | some u=>
       simp only [Option.map_some,Option.bind_some];cases eL r with
       | none=>rfl
       | some z=>simp
theorem aAs (h:List Tr):aM (iV h) []=eL h:=by
 cases h with
 | nil=>simp [iV,aM,eL]
 | cons T r=>exact aBi r T
theorem kK (t:List Int):aM (bT t) []=some t:=by simp [aM,bT]
theorem aIO (h:List Cm):eL (fD h)=if h=[] then some [] else none:=by
 cases h with
 | nil=>rfl
 | cons c h=>
   rw [show fD (c::h)=pU c::bD 4::fD h by simp [fD],if_neg (by simp)];simp only [eL];have y:aM (bD 4) []=none:=(by simp [aM,bD]);rw [y];cases aM (pU c) []<;>rfl
theorem aH7 (h:List Cm):eL (jK h)=if h=[] then some [] else none:=by
 cases h with
 | nil=>rfl
 | cons c h=>
   rw [show jK (c::h)=bD 4::pU c::jK h by simp [jK],if_neg (by simp)];simp only [eL];have y:aM (bD 4) []=none:=(by simp [aM,bD]);rw [y];rfl
theorem aHM (n:Nod):eL (nG n)=some (pS n):=by
 unfold nG pS
 split
 ·simp [eL,kK]
 ·rfl
def aKa (k:Int):List Int:=if k=6 then [32] else []
theorem aIk (k:Int):aM (bD (oD k)) []=some (aKa k):=by
 unfold oD aKa
 split<;>simp [aM,bD]
theorem aJR (V:List Nod->Tr) (n:Nod) (R:List Nod):eL (mW V (n::R))=if n.L=[] then (aM (V (n::R)) []).map (pS n++·) else none:=by
 simp only [mW,wI,aIO,aHM]
 split
 ·simp only [Option.bind_some,eL,Option.map_some];cases aM (V (n::R)) []<;>simp
 ·rfl
def aCi (V:List Nod->Tr) (P:List Nod->List Pc × List Nod) (R:List Nod):Nat->Option (List Int)
 | 0=>some []
 | k+1=>(aCi V P R k).bind fun o=>match bF P k R with
   | []=>some (o++(if k=0 then [] else [44,32]))
   | n::R'=>if n.L=[] then (aM (V (n::R')) []).map fun s=>(o++(if k=0 then [] else [44,32]))++pS n++s else none
theorem aDT (V:List Nod->Tr) (P:List Nod->List Pc × List Nod) (R:List Nod):∀ k,eL (oZ V P k R)=aCi V P R k
 | 0=>rfl
 | k+1=>by
   have y:eL (if k=0 then [] else [bT [44],bD 2])=some (if k=0 then [] else [44,32]):=by
    split
    ·rfl
    ·simp [eL,kK,aM,bD]
   simp only [oZ,wI,aDT V P R k,y,aCi,Option.bind_some];cases aCi V P R k with
   | none=>rfl
   | some o=>
     simp only [Option.bind_some];cases bF P k R with
     | nil=>simp [mW,eL]
     | cons n R'=>
       rw [aJR]
       by_cases h:n.L=[]
       ·simp only [h,if_true];cases aM (V (n::R')) []<;>simp
       ·simp [h]
theorem aAY (ind:Int) (n:Nod) (V:List Nod->Tr) (P:List Nod->List Pc × List Nod) (R:List Nod) (k:Nat):aM (sE ind n (oZ V P k R)) []=if n.tail=[] then (aCi V P R k).map fun o=>([jY n.k]++aKa n.k++o)++(aKa n.k++[kW n.k]) else none:=by
 have A:aM yH []=some []:=(by simp [yH,aM,bD]);have y:∀ h,aM (oH ind h) []=eL h:=fun h=>by unfold oH;simp only [aM];exact aAs h
 rw [sE,aAs];simp only [eL,kK,y,aIk,aIB,wI,aDT,A,aH7,Option.bind_some]
 split
 ·cases aCi V P R k<;>simp
 ·cases aCi V P R k<;>simp
theorem aIy (width:Int) (x:Tr) (level:Int) (out:List Int) (b:Int):LX width (.un ⟨8,[],0⟩ x) level out b=match aM x [] with | some s=>if lJ out+aI s+b<=width then s else LX width x level out b | none=>LX width x level out b:=by
 unfold LX;simp only [ly];rw [if_neg (by omega)];cases aM x [] with
 | none=>rfl
 | some s=>simp only;split<;>rfl
theorem aGR (X:List Int) (ind:Int):kZ [] (X++bR ind)=List.replicate ind.toNat 32:=by
 unfold bR;rw [pZ,aFa,rD (by simp)];rfl
theorem aBs (ind:Int):∀ (h:List Cm) (X:List Int),kZ [] (X++bR ind++dO h ind)=List.replicate ind.toNat 32
 | [],X=>by simp only [dO,List.flatMap_nil,List.append_nil];exact aGR X ind
 | c::h,X=>by
   have:=aBs ind h (X++bR ind++aIe c);rw [<- this];simp [dO]
theorem aIv (n:Nat):Vt (List.replicate n 32):=iW (by intro x h;have:=List.eq_of_mem_replicate h;omega)
theorem aJV (X:List Int) (ind:Int) (n:Nod) (y:OkL (nG n)):Cu (X++bR ind++dO n.L ind++pS n)/\(kZ [] (X++bR ind++dO n.L ind++pS n)).length<=ind.toNat+(pS n).length:=by
 have h:=aBs ind n.L X;unfold Cu;rw [pZ,h];unfold pS;unfold nG at y
 split
 ·rename_i hm
  rw [if_pos hm] at y;have h:OkT (bT (fS n.key++[58,32])):=y _ (by simp);obtain ⟨A,D⟩:=h rfl;rw [rD D];exact ⟨kH (aIv _) A,by simp⟩
 ·simp only [kZ];exact ⟨aIv _,by simp⟩
theorem aGK {width:Int} {V:List Nod->Tr} {P:List Nod->List Pc × List Nod} {ind:Int} {o:List Int} {R y:List Nod} {n:Nod} {j:Nat} (h:bF P j R=n::y) :
  xI width V P ind o R (j+1)=((xI width V P ind o R j++bR ind++dO n.L ind++pS n)++LX width (V (n::y)) ind (xI width V P ind o R j++bR ind++dO n.L ind++pS n) 1)++[44]:=by
 simp only [xI,h,wrI]
theorem aKu {width ind level b:Int} {d:Nat} {n:Nod} {R:List Nod} {out:List Int} (h:n.k<5\/(n.C=0/\n.tail=[])):∃ s,aM (dZ ind (d+1) (n::R)) []=some s/\LX width (dZ ind (d+1) (n::R)) level out b=s:=by
 simp only [dZ]
 by_cases y:n.k<5
 ·rw [if_pos y];exact ⟨_,kK _,pE _ _ _ _ _⟩
 ·obtain ⟨A,D⟩:n.C=0/\n.tail=[]:=(by rcases h with h | h;exact absurd h y;exact h);rw [if_neg y,pQ,if_pos A,if_pos D];exact ⟨_,kK _,pE _ _ _ _ _⟩
theorem aJO {width ind level b:Int} {d:Nat} {n:Nod} {R:List Nod} {out s:List Int} (J:¬ n.k<5) (G:¬ (n.C=0/\n.tail=[])) (h:aM (dZ ind (d+1) (n::R)) []=some s) (M:lJ out+aI s+b<=width):LX width (dZ ind (d+1) (n::R)) level out b=s:=by
 simp only [dZ,if_neg J,pQ] at h ⊢
 by_cases y:n.C=0
 ·exfalso;have N:n.tail≠[]:=fun e=>G ⟨y,e⟩;rw [if_pos y,if_neg N,aAs] at h;have E:aM (bD 4) []=none:=(by simp [aM,bD]);simp only [eL,E,Option.bind_none] at h;cases D:aM (bT [jY n.k]) [] with
  | none=>rw [D] at h;cases h
  | some a=>
    rw [D] at h;cases A:aM (oH ind (jK n.tail)) [] with
    | none=>rw [A] at h;cases h
    | some a=>rw [A] at h;cases h
 ·rw [if_neg y] at h ⊢;simp only [aM] at h;rw [aIy,h];simp only;rw [if_pos M]
theorem aF7 {width ind level b:Int} {d:Nat} {n:Nod} {R U:List Nod} {out:List Int} {m:Bool} (G:0<=ind) (A:0<=level) (y:Cu out) (a4:0<=n.C) (X:aE bC (d+1) m (n::R,())=some (U,())) (S:∀ p∈R,p.k<5->p.C=0) (hx:∀ p∈R,NdX p) (h:NdX n)
  (M:¬ n.k<5) (N:¬ (n.C=0/\n.tail=[])) (E:∀ s,aM (dZ ind (d+1) (n::R)) []=some s->¬ lJ out+aI s+b<=width):out++LX width (dZ ind (d+1) (n::R)) level out b=BRK width ind d n R level out:=by
 obtain ⟨_,_,J⟩:=nW X;simp only [dZ,if_neg M,pQ] at E ⊢
 by_cases D:n.C=0
 ·have Z:n.tail≠[]:=fun e=>N ⟨D,e⟩;rw [if_pos D,if_neg Z];exact aKb G A y D h
 ·rw [if_neg D] at E ⊢;simp only [aM] at E
  have O:LX width (.un ⟨8,[],0⟩ (sE ind n (oZ (dZ ind d) (aJ ind d) n.C.toNat R))) level out b=LX width (sE ind n (oZ (dZ ind d) (aJ ind d) n.C.toNat R)) level out b:=by
   rw [aIy];cases Y:aM (sE ind n (oZ (dZ ind d) (aJ ind d) n.C.toNat R)) [] with
   | none=>rfl
   | some s=>simp only;rw [if_neg (E s Y)]
  rw [O];exact aKf G A y (by omega) J S hx h
end Go.Proofs.YtmfehflibkokbaaGreatDoor
