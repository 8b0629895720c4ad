import Derived.Test.YtmfehflibkokbaaGreatDoorMAA
set_option maxHeartbeats 16000000
set_option maxRecDepth 100000
namespace Go.Proofs.YtmfehflibkokbaaGreatDoor
open Go.Proofs.Tryz
open Go.RowKit
theorem cI {s:List Int} {m:Nat} (h:lead m (s[0]?.getD 0)<0):hit s m=false:=by
 have:lv s m = -1:=by
  by_cases y:s.length<m
  ·exact yW y
  ·exact aBI (by omega) h
 simp [hit,this]
theorem rG {s:List Int} {m:Nat} (h:lv s m = -1):hit s m=false:=by simp [hit,h]
theorem bN {s:List Int} {n:Nat} (J:1<=n) (G:n<=4) (h:∀ m,1<=m->m<=4->m≠n->hit s m=false):aL s=if hit s n then n else 0:=by
 unfold aL
 by_cases D:n=1
 ·subst D;rw [h 2 (by omega) (by omega) (by omega),h 3 (by omega) (by omega) (by omega),h 4 (by omega) (by omega) (by omega)];simp
 ·rw [h 1 (by omega) (by omega) (by omega)]
  by_cases E:n=2
  ·subst E;rw [h 3 (by omega) (by omega) (by omega),h 4 (by omega) (by omega) (by omega)];simp
  ·rw [h 2 (by omega) (by omega) (by omega)]
   by_cases A:n=3
   ·subst A;rw [h 4 (by omega) (by omega) (by omega)];simp
   ·rw [h 3 (by omega) (by omega) (by omega)];have y:n=4:=(by omega);subst y;simp
theorem aEj {s:List Int} (h:∀ m,1<=m->m<=4->hit s m=false):aL s=0:=by
 unfold aL;rw [h 1 (by omega) (by omega),h 2 (by omega) (by omega),h 3 (by omega) (by omega),h 4 (by omega) (by omega)];simp
theorem aA1 {c:Int} (E:0<=c) (h:c<128):∀ m,1<=m->m<=4->m≠1->lead m c<0:=by
 intro m A D y;rw [kP m c (by omega) (by omega) (by omega) (by omega)];omega
theorem oC {c:Int} (h:c / 32=6):∀ m,1<=m->m<=4->m≠2->lead m c<0:=by
 intro m A D y;rw [kP m c (by omega) (by omega) (by omega) (by omega)];omega
theorem lZ {c:Int} (h:c / 16=14):∀ m,1<=m->m<=4->m≠3->lead m c<0:=by
 intro m A D y;rw [kP m c (by omega) (by omega) (by omega) (by omega)];omega
theorem kJ {c:Int} (h:c / 8=30):∀ m,1<=m->m<=4->m≠4->lead m c<0:=by
 intro m A D y;rw [kP m c (by omega) (by omega) (by omega) (by omega)];omega
theorem aGy {c:Int} (h:128<=c) (G:¬ c / 32=6) (D:¬ c / 16=14) (y:¬ c / 8=30):∀ m,1<=m->m<=4->lead m c<0:=by
 intro m E A;rw [kP m c (by omega) (by omega) (by omega) (by omega)];omega
def eD (s:List Int) (k:Nat):Prop:=k<s.length/\s[k]?.getD 0 / 64=2
theorem wM (x:Int) (s:List Int) (n:Nat):iJ x ((s.drop n).take (n - n))=x:=by simp [iJ]
theorem lv2 {s:List Int} (A:s[0]?.getD 0 / 32=6) (D:eD s 1):lv s 2=s[0]?.getD 0%32*64+s[1]?.getD 0%64:=by
 obtain ⟨E,y⟩:=D;have h:lead 2 (s[0]?.getD 0)=s[0]?.getD 0%32:=zX _ A;rw [jL (by omega) (by rw [h];omega),h,eC (by omega) (by omega),if_pos y,wM]
theorem lv3 {s:List Int} (A:s[0]?.getD 0 / 16=14) (D:eD s 1) (G:eD s 2):lv s 3=(s[0]?.getD 0%16*64+s[1]?.getD 0%64)*64+s[2]?.getD 0%64:=by
 obtain ⟨J,y⟩:=D;obtain ⟨M,E⟩:=G;have h:lead 3 (s[0]?.getD 0)=s[0]?.getD 0%16:=sK _ A;rw [jL (by omega) (by rw [h];omega),h,eC (by omega) (by omega),if_pos y,eC (by omega) (by omega),if_pos E,wM]
theorem lv4 {s:List Int} (A:s[0]?.getD 0 / 8=30) (D:eD s 1) (J:eD s 2) (G:eD s 3) :
  lv s 4=((s[0]?.getD 0%8*64+s[1]?.getD 0%64)*64+s[2]?.getD 0%64)*64+s[3]?.getD 0%64:=by
 obtain ⟨N,y⟩:=D;obtain ⟨O,E⟩:=J;obtain ⟨S,M⟩:=G;have h:lead 4 (s[0]?.getD 0)=s[0]?.getD 0%8:=wG _ A;rw [jL (by omega) (by rw [h];omega),h,eC (by omega) (by omega),if_pos y,eC (by omega) (by omega),if_pos E,eC (by omega) (by omega),if_pos M,wM]
theorem aLt {s:List Int} {n:Nat} (x:Int) (k:Nat) (A:k<n) (y:n<=s.length) (h:¬ s[k]?.getD 0 / 64=2):iJ x ((s.drop k).take (n - k)) = -1:=by
 rw [eC A y,if_neg h]
theorem sV {s:List Int} {n:Nat} (k:Nat) (y:1<=k) (N:k<n) (A:∀ j,1<=j->j<k->eD s j) (h:¬ eD s k):lv s n = -1:=by
 by_cases J:s.length<n
 ·exact yW J
 ·have M:¬ s[k]?.getD 0 / 64=2:=fun e=>h ⟨by omega,e⟩
  by_cases D:lead n (s[0]?.getD 0)<0
  ·exact aBI (by omega) D
  ·rw [jL (by omega) (by omega)];generalize lead n (s[0]?.getD 0)=x
   have E:∀ j,1<=j->j<=k->∀ x,iJ x ((s.drop j).take (n - j)) = -1:=by
    intro j
    induction hj:k - j generalizing j with
    | zero=>
      intro G S x;have:j=k:=by omega
      subst this;exact aLt x j N (by omega) M
    | succ d ih=>
      intro G S x;have O:=A j G (by omega);rw [eC (by omega) (by omega),if_pos O.2];exact ih (j+1) (by omega) (by omega) (by omega) _
   exact E 1 (Nat.le_refl _) y x
theorem vH {y:Int} (h:y<2048):cK y=2 ↔ (¬ y<128/\bW y=true):=by
 unfold cK;cases A:bW y<;>simp<;>split<;>(try split)<;>(try split)<;>omega
theorem vV {y:Int} (h:y<65536):cK y=3 ↔ (¬ y<2048/\bW y=true):=by
 unfold cK;cases A:bW y<;>simp<;>split<;>(try split)<;>(try split)<;>omega
theorem wF {y:Int} : cK y=4 ↔ (¬ y<65536/\bW y=true):=by
 unfold cK;cases h:bW y<;>simp<;>split<;>(try split)<;>(try split)<;>omega
theorem fH {s:List Int} {n:Nat} {y:Int} (hv:lv s n=y) (h:0<=y):hit s n=true ↔ cK y=n:=by
 simp [hit,hv,h]
def fpP (s:List Int):Int:=if aL s=0 then -1 else lv s (aL s)
theorem eM {s:List Int} (h:aL s=0):fpP s = -1:=by simp [fpP,h]
theorem uA {s:List Int} {n:Nat} {y:Int} (A:n≠0) (h:aL s=n) (hv:lv s n=y):fpP s=y:=by simp [fpP,h,A,hv]
def rX:Nat->List Int->Nat->List (Int × Int)
 | 0,_,_=>[]
 | f+1,s,k=>if s=[] then [] else if aL s=0 then [((k:Int),-1)] else ((k:Int),lv s (aL s))::rX f (s.drop (aL s)) (k+aL s)
def jZ (zs:List Int):List (Int × Int):=rX zs.length zs 0
theorem aFT (f k:Nat):rX f [] k=[]:=by cases f<;>simp [rX]
theorem aER {f k:Nat} {s:List Int} (y:s≠[]) (h:aL s≠0):rX (f+1) s k=((k:Int),lv s (aL s))::rX f (s.drop (aL s)) (k+aL s):=by simp [rX,y,h]
theorem aCy {f k:Nat} {s:List Int} (y:s≠[]) (h:aL s=0):rX (f+1) s k=[((k:Int),-1)]:=by simp [rX,y,h]
theorem aFE {s:List Int} {n:Nat} (h:hit s n=true):0<=lv s n:=by
 simp only [hit,Bool.and_eq_true,decide_eq_true_eq] at h;exact h.1
theorem aH0 {s:List Int} (h:aL s≠0):0<=lv s (aL s):=by
 have y:hit s (aL s)=true:=by
  unfold aL at h ⊢
  split
  ·assumption
  ·split
   ·assumption
   ·split
    ·assumption
    ·split
     ·assumption
     ·simp_all
 exact aFE y
theorem aK0 {s:List Int} (h:aL s≠0):0<=fpP s:=by unfold fpP;rw [if_neg h];exact aH0 h
def sQ (zs:List Int) (pre:List (Int × Int)) (k:Nat):Prop:=k<=zs.length/\pre.length<=k/\∃ f,zs.length - k<=f/\pre++rX f (zs.drop k) k=jZ zs
theorem sQ.start (zs:List Int):sQ zs [] 0:=⟨Nat.zero_le _,Nat.le_refl _,zs.length,by omega,by simp [jZ]⟩
theorem sQ.step {zs:List Int} {y:List (Int × Int)} {k:Nat} (h:sQ zs y k) (N:k<zs.length) (E:aL (zs.drop k)≠0) :
  sQ zs (y++[((k:Int),fpP (zs.drop k))]) (k+aL (zs.drop k)):=by
 obtain ⟨M,O,f,S,D⟩:=h;have J:zs.drop k≠[]:=(by rw [ne_eq,List.drop_eq_nil_iff];omega);have G:=tQ (zs.drop k);rw [List.length_drop] at G;obtain ⟨A,rfl⟩:∃ A,f=A+1:=⟨f - 1,by omega⟩;rw [aER J E,List.drop_drop] at D;refine ⟨by omega,by simp only [List.length_append,List.length_singleton];omega,A,by omega,?_⟩;rw [<- D];simp [fpP,E]
theorem sQ.bad {zs:List Int} {y:List (Int × Int)} {k:Nat} (h:sQ zs y k) (M:k<zs.length) (E:aL (zs.drop k)=0):y++[((k:Int),fpP (zs.drop k))]=jZ zs:=by
 obtain ⟨J,N,f,O,D⟩:=h;have G:zs.drop k≠[]:=(by rw [ne_eq,List.drop_eq_nil_iff];omega);obtain ⟨A,rfl⟩:∃ A,f=A+1:=⟨f - 1,by omega⟩;rw [aCy G E] at D;rw [eM E];exact D
theorem sQ.done {zs:List Int} {y:List (Int × Int)} {k:Nat} (h:sQ zs y k) (E:¬ k<zs.length):y=jZ zs:=by
 obtain ⟨D,G,f,J,A⟩:=h;rw [List.drop_eq_nil_of_le (by omega),aFT] at A;simpa using A
theorem sQ.prefix {zs:List Int} {y:List (Int × Int)} {k:Nat} (h:sQ zs y k):y <+: jZ zs:=by
 obtain ⟨D,E,f,G,A⟩:=h;exact ⟨_,A⟩
theorem aG5 (f:Nat):∀ (s:List Int) (k:Nat),(∀ x∈rX f s k,x.2≠-1)->err f s k=none/\(rX f s k).map (·.2)=pts f s:=by
 induction f with
 | zero=>intro s k _;simp [rX,err,pts]
 | succ f ih=>
   intro s k h
   by_cases y:s=[]
   ·simp [rX,err,pts,y]
   ·by_cases A:aL s=0
    ·rw [aCy y A] at h;exact absurd rfl (h _ (List.mem_singleton.2 rfl))
    ·rw [aER y A] at h ⊢;have D:=ih (s.drop (aL s)) (k+aL s) (fun x E=>h x (List.mem_cons_of_mem _ E));rw [zO y A,aCh y A];exact ⟨D.1,by simp [D.2]⟩
theorem aGW (f:Nat):∀ (s:List Int) (k:Nat) (q:List (Int × Int)) (x:Int × Int),q++[x] <+: rX f s k->x.2 = -1->∃ m:Nat,err f s k=some m/\x.1=(m:Int):=by
 induction f with
 | zero=>intro s k q x h _;simp [rX] at h
 | succ f ih=>
   intro s k q x h G
   by_cases E:s=[]
   ·rw [E,aFT] at h;simp at h
   ·by_cases D:aL s=0
    ·rw [aCy E D] at h;refine ⟨k,aBX E D,?_⟩;cases q with
     | nil=>obtain ⟨t,A⟩:=h;simp at A;rw [A.1]
     | cons y q=>obtain ⟨t,A⟩:=h;simp at A
    ·rw [aER E D] at h;rw [zO E D];cases q with
     | nil=>
       obtain ⟨t,A⟩:=h;simp at A;have:=aH0 D;rw [A.1] at G;simp at G;omega
     | cons y q=>
       refine ih (s.drop (aL s)) (k+aL s) q x ?_ G;rw [List.cons_append,List.cons_prefix_cons] at h;exact h.2
theorem aBl {zs:List Int} (h:∀ x∈jZ zs,x.2≠-1):eS zs=((jZ zs).map (·.2),0,0):=by
 have y:=aG5 zs.length zs 0 h;rw [xL y.1];unfold jZ;rw [y.2]
theorem aBj {zs:List Int} {q:List (Int × Int)} {x:Int × Int} (h:q++[x] <+: jZ zs) (D:x.2 = -1):eS zs=([],2,x.1):=by
 obtain ⟨m,y,A⟩:=aGW zs.length zs 0 q x h D;rw [yR y,A]
end Go.Proofs.YtmfehflibkokbaaGreatDoor
namespace Go.Proofs.YtmfehflibkokbaaGreatDoor
open Go.Proofs.Tryz
structure Pc where
 k:Int
 t:List Int
 n:Int
deriving Inhabited
def ar (k:Int):Nat:=if k=6\/k=9 then 2 else if k=7\/k=8 then 1 else 0
def nE (p:Pc):Bool:=
 decide (0<=p.k/\p.k<=9)&&(if p.k=1 then !p.t.contains 10&&decide (0<=aI p.t) else p.t.isEmpty)&&(if p.k=7 then decide (0<=p.n) else decide (p.n=0))
inductive Tr where
 | leaf (p:Pc)
 | un (p:Pc) (x:Tr)
 | bin (p:Pc) (x y:Tr)
def cM:List Pc->Int
 | []=>0
 | p::ps=>p.t.length+cM ps
def wL:List Pc->Nat->List Int->List Int->List Int × List Int
 | [],_,op,out=>(out,op)
 | p::ps,i,op,out=>
   if op.length<ar p.k then (out,op)
   else
    let s:Int:=if ar p.k=0 then (i:Int) else op[ar p.k - 1]?.getD 0
    wL ps (i+1) (s::op.drop (ar p.k)) (out++[s])
def gZ (doc:List Pc):List Int:=if (wL doc 0 [] []).2.length=1 then (wL doc 0 [] []).1 else []
def jH:Tr->Int
 | .leaf _=>0
 | .un p x=>if jH x > 4000\/p.n > 4000 then 4001 else p.n+jH x
 | .bin _ x y=>if jH x > jH y then jH x else jH y
def dK:Tr->Int
 | .leaf _=>0
 | .un p x=>dK x+p.n
 | .bin _ x y=>max (dK x) (dK y)
def dA (st:List Tr) (p:Pc):Option (List Tr):=
 if ar p.k=0 then some (.leaf p::st)
 else if ar p.k=1 then (match st with | x::r=>some (.un p x::r) | []=>none)
 else (match st with | y::x::r=>some (.bin p x y::r) | _=>none)
def bd:List Pc->List Tr->Option (List Tr)
 | [],st=>some st
 | p::ps,st=>(dA st p).bind (bd ps)
def Seg (doc:List Pc) (st:List Int):Tr->Nat->Nat->Prop
 | .leaf p,a,b=>b=a+1/\doc[a]?=some p/\ar p.k=0/\st[a]?=some (a:Int)
 | .un p x,a,b=>∃ m,b=m+1/\doc[m]?=some p/\ar p.k=1/\st[m]?=some (a:Int)/\Seg doc st x a m
 | .bin p x y,a,b=>∃ c m,b=m+1/\doc[m]?=some p/\ar p.k=2/\st[m]?=some (a:Int)/\Seg doc st x a c/\Seg doc st y c m
theorem Seg.lt {doc:List Pc} {st:List Int} : ∀ {T:Tr} {a b:Nat},Seg doc st T a b->a<b
 | .leaf _,_,_,h=>by obtain ⟨h,_⟩:=h;omega
 | .un _ _,_,_,h=>by obtain ⟨m,h,_,_,_,y⟩:=h;have:=y.lt;omega
 | .bin _ _ _,_,_,h=>by obtain ⟨c,m,h,_,_,_,y,A⟩:=h;have:=y.lt;have:=A.lt;omega
theorem Seg.more {doc:List Pc} {st:List Int} (xs:List Int):∀ {T:Tr} {a b:Nat},Seg doc st T a b->Seg doc (st++xs) T a b
 | .leaf _,_,_,h=>by
   obtain ⟨h,A,D,y⟩:=h;exact ⟨h,A,D,by rw [List.getElem?_append_left (List.getElem?_eq_some_iff.1 y).1];exact y⟩
 | .un _ _,_,_,h=>by
   obtain ⟨m,h,A,D,y,E⟩:=h;exact ⟨m,h,A,D,by rw [List.getElem?_append_left (List.getElem?_eq_some_iff.1 y).1];exact y,E.more xs⟩
 | .bin _ _ _,_,_,h=>by
   obtain ⟨c,m,h,A,D,y,E,G⟩:=h;exact ⟨c,m,h,A,D,by rw [List.getElem?_append_left (List.getElem?_eq_some_iff.1 y).1];exact y,E.more xs,G.more xs⟩
def Stk (doc:List Pc) (out:List Int):List Tr->List Int->Nat->Prop
 | [],op,e=>op=[]/\e=0
 | T::st,op,e=>∃ (m:Nat) (r:List Int),op=(m:Int)::r/\Seg doc out T m e/\Stk doc out st r m
theorem Stk.len {doc:List Pc} {out:List Int} : ∀ {st:List Tr} {op:List Int} {e:Nat},Stk doc out st op e->op.length=st.length
 | [],_,_,h=>by rw [h.1];rfl
 | _::_,_,_,h=>by obtain ⟨m,r,rfl,_,y⟩:=h;simp [y.len]
theorem Stk.more {doc:List Pc} {out:List Int} (xs:List Int):∀ {st:List Tr} {op:List Int} {e:Nat},Stk doc out st op e->Stk doc (out++xs) st op e
 | [],_,_,h=>h
 | _::_,_,_,h=>by obtain ⟨m,r,rfl,y,A⟩:=h;exact ⟨m,r,rfl,y.more xs,A.more xs⟩
theorem aD1 (k:Int):ar k=0\/ar k=1\/ar k=2:=by
 unfold ar
 split
 ·simp
 ·split<;>simp
theorem aFh (doc:List Pc):∀ (ps A:List Pc) (op out:List Int) (st:List Tr),doc=A++ps->out.length=A.length->Stk doc out st op A.length->
  ((wL ps A.length op out).1.length=doc.length/\∃ D,bd ps st=some D/\Stk doc (wL ps A.length op out).1 D (wL ps A.length op out).2 doc.length)\/
  ((wL ps A.length op out).1.length<doc.length/\bd ps st=none)
 | [],A,op,out,st,hd,ho,hs=>by
   simp only [List.append_nil] at hd;subst hd;exact .inl ⟨ho,st,rfl,hs⟩
 | p::ps,A,op,out,st,hd,ho,hs=>by
   have J:=hs.len;have N:doc[A.length]?=some p:=(by rw [hd];simp);have a5:doc.length=A.length+(ps.length+1):=(by rw [hd];simp);unfold wL
   by_cases U:op.length<ar p.k
   ·rw [if_pos U];refine .inr ⟨by show out.length<_;omega,?_⟩;rcases aD1 p.k with h | h | h
    ·omega
    ·have:st=[]:=by rw [<- List.length_eq_zero_iff];omega
     subst this;simp [bd,dA,h]
    ·rcases st with _ | ⟨x,_ | ⟨y,r⟩⟩
     ·simp [bd,dA,h]
     ·simp [bd,dA,h]
     ·simp only [List.length_cons] at J;omega
   ·rw [if_neg U];have G:(A++[p]).length=A.length+1:=by simp
    have key:∀ (s:Int) (E:List Tr),dA st p=some E->Stk doc (out++[s]) E (s::op.drop (ar p.k)) (A.length+1)->
      ((wL ps (A.length+1) (s::op.drop (ar p.k)) (out++[s])).1.length=doc.length/\∃ D,bd (p::ps) st=some D/\Stk doc (wL ps (A.length+1) (s::op.drop (ar p.k)) (out++[s])).1 D (wL ps (A.length+1) (s::op.drop (ar p.k)) (out++[s])).2 doc.length)\/
      ((wL ps (A.length+1) (s::op.drop (ar p.k)) (out++[s])).1.length<doc.length/\bd (p::ps) st=none):=by
     intro s E Y h2;have:=aFh doc ps (A++[p]) (s::op.drop (ar p.k)) (out++[s]) E (by rw [hd];simp) (by simp [ho]) (by rw [G];exact h2);rw [G] at this;simpa [bd,Y] using this
    rcases aD1 p.k with h | h | h
    ·simp only [h,if_true];have:=key (A.length:Int) (.leaf p::st) (by simp [dA,h]) ⟨A.length,_,rfl,⟨rfl,N,h,by rw [List.getElem?_append_right (by omega)];simp [ho]⟩,by rw [h];exact hs.more _⟩;simpa [h] using this
    ·rcases st with _ | ⟨x,r⟩
     ·simp only [List.length_nil] at J;omega
     ·obtain ⟨m,X,rfl,O,M⟩:=hs;have:=key (m:Int) (.un p x::r) (by simp [dA,h]) ⟨m,_,rfl,⟨A.length,rfl,N,h,by rw [List.getElem?_append_right (by omega)];simp [ho],O.more _⟩,by rw [h];exact M.more _⟩;simpa [h] using this
    ·rcases st with _ | ⟨y,_ | ⟨x,r⟩⟩
     ·simp only [List.length_nil] at J;omega
     ·simp only [List.length_cons,List.length_nil] at J;omega
     ·obtain ⟨m,X,rfl,Z,S,a6,rfl,O,M⟩:=hs;have:=key (S:Int) (.bin p x y::r) (by simp [dA,h]) ⟨S,_,rfl,⟨m,A.length,rfl,N,h,by rw [List.getElem?_append_right (by omega)];simp [ho],O.more _,Z.more _⟩,by rw [h];exact M.more _⟩;simpa [h] using this
theorem vM (doc:List Pc) (N:doc≠[]) :
  ((gZ doc).length=doc.length/\∃ T,bd doc []=some [T]/\Seg doc (gZ doc) T 0 doc.length)\/((gZ doc).length≠doc.length/\∀ T,bd doc []≠some [T]):=by
 have U:0<doc.length:=List.length_pos_iff.2 N;have:=aFh doc doc [] [] [] [] (by simp) rfl ⟨rfl,rfl⟩;simp only [List.length_nil] at this;unfold gZ;rcases this with ⟨M,J,E,G⟩ | ⟨M,E⟩
 ·by_cases h:(wL doc 0 [] []).2.length=1
  ·rw [if_pos h];have D:=G.len;rcases J with _ | ⟨T,_ | ⟨y,r⟩⟩
   ·simp only [List.length_nil] at D;omega
   ·obtain ⟨m,Y,X,O,Z,S⟩:=G;subst S;exact .inl ⟨M,T,E,O⟩
   ·simp only [List.length_cons] at D;omega
  ·rw [if_neg h];refine .inr ⟨by simp;omega,fun T A=>?_⟩;rw [E] at A;have:=G.len;simp at A;subst A;simp at this;omega
 ·refine .inr ⟨?_,fun T A=>by rw [E] at A;cases A⟩
  split
  ·omega
  ·simp;omega
def eX (doc:List Pc):Bool:=
 decide (1<=doc.length/\doc.length<=40000)&&doc.all nE&&decide (cM doc<=100000)&&decide ((gZ doc).length=doc.length)&&(match bd doc [] with | some [T]=>decide (jH T<=4000) | _=>false)
def bO (room:Int) (st:List (Tr × Int)) (p:Pc):Option (Int × List (Tr × Int)):=
 if (p.k≠1/\0<p.t.length)\/(p.k≠7/\p.n≠0) then none
 else if p.k=1 then (if room<p.t.length then none else if aI p.t<0\/p.t.contains 10=true then none else some (room - p.t.length,(.leaf p,0)::st))
 else if p.k=0\/p.k=2\/p.k=3\/p.k=4\/p.k=5 then some (room,(.leaf p,0)::st)
 else if p.k=6\/p.k=9 then (match st with | (y,ny)::(x,nx)::r=>some (room,(.bin p x y,max nx ny)::r) | _=>none)
 else if p.k=7\/p.k=8 then (match st with | (x,nx)::r=>if p.n<0\/4000 - nx<p.n then none else some (room,(.un p x,nx+p.n)::r) | _=>none)
 else none
def jD:List Pc->Int->List (Tr × Int)->Option (List (Tr × Int))
 | [],_,st=>some st
 | p::ps,room,st=>(bO room st p).bind fun (r,s)=>jD ps r s
def aDf (st:List (Tr × Int)):Prop:=∀ x∈st,x.2=dK x.1/\0<=x.2/\x.2<=4000
def okN:Tr->Prop
 | .leaf _=>True
 | .un p x=>0<=p.n/\okN x
 | .bin _ x y=>okN x/\okN y
theorem oG:∀ (T:Tr),okN T->0<=dK T
 | .leaf _,_=>by simp [dK]
 | .un p x,h=>by have:=oG x h.2;have:=h.1;simp only [dK];omega
 | .bin _ x y,h=>by have:=oG x h.1;simp only [dK];omega
theorem rR:∀ (T:Tr),okN T->(dK T<=4000/\jH T=dK T)\/(4000<dK T/\4000<jH T)
 | .leaf _,_=>by simp [dK,jH]
 | .un p x,h=>by
   have A:=rR x h.2;have D:=oG x h.2;have:=h.1;simp only [dK,jH]
   split<;>omega
 | .bin _ x y,h=>by
   have A:=rR x h.1;have D:=rR y h.2;simp only [dK,jH]
   split<;>omega
theorem aB3:∀ (ps:List Pc) (st r:List Tr),ps.all nE=true->(∀ x∈st,okN x)->bd ps st=some r->∀ x∈r,okN x
 | [],st,r,_,hs,h=>by simp [bd] at h;subst h;exact hs
 | p::ps,st,r,ha,hs,h=>by
   simp only [List.all_cons,Bool.and_eq_true] at ha;simp only [bd] at h;obtain ⟨E,A,G⟩:=Option.bind_eq_some_iff.1 h;refine aB3 ps E r ha.2 ?_ G
   have D:0<=p.n:=by
    have:=ha.1;simp only [nE,Bool.and_eq_true] at this;have:=this.2
    split at this<;>simp at this<;>omega
   unfold dA at A
   split at A
   ·cases A;intro x y;rcases List.mem_cons.1 y with rfl | y
    ·trivial
    ·exact hs x y
   ·split at A
    ·split at A
     ·cases A;intro x y;rcases List.mem_cons.1 y with rfl | y
      ·exact ⟨D,hs _ (by simp)⟩
      ·exact hs x (by simp [y])
     ·cases A
    ·split at A
     ·cases A;intro x y;rcases List.mem_cons.1 y with rfl | y
      ·exact ⟨hs _ (by simp),hs _ (by simp)⟩
      ·exact hs x (by simp [y])
     ·cases A
theorem aFx:∀ (ps:List Pc) (st r:List Tr),ps.all nE=true->(∃ x∈st,4000<dK x)->bd ps st=some r->∃ x∈r,4000<dK x
 | [],st,r,_,hs,h=>by simp [bd] at h;subst h;exact hs
 | p::ps,st,r,ha,hs,h=>by
   simp only [List.all_cons,Bool.and_eq_true] at ha;simp only [bd] at h;obtain ⟨E,y,G⟩:=Option.bind_eq_some_iff.1 h;refine aFx ps E r ha.2 ?_ G
   have J:0<=p.n:=by
    have:=ha.1;simp only [nE,Bool.and_eq_true] at this;have:=this.2
    split at this<;>simp at this<;>omega
   obtain ⟨x,A,D⟩:=hs;unfold dA at y
   split at y
   ·cases y;exact ⟨x,by simp [A],D⟩
   ·split at y
    ·split at y
     ·cases y;rcases List.mem_cons.1 A with rfl | A
      ·exact ⟨_,List.mem_cons_self ..,by simp only [dK];omega⟩
      ·exact ⟨x,by simp [A],D⟩
     ·cases y
    ·split at y
     ·cases y;rcases List.mem_cons.1 A with rfl | A
      ·exact ⟨_,List.mem_cons_self ..,by simp only [dK];omega⟩
      ·rcases List.mem_cons.1 A with rfl | A
       ·exact ⟨_,List.mem_cons_self ..,by simp only [dK];omega⟩
       ·exact ⟨x,by simp [A],D⟩
     ·cases y
theorem fQ (p:Pc):nE p=true ↔ (0<=p.k/\p.k<=9)/\(p.k=1->p.t.contains 10=false/\0<=aI p.t)/\(p.k≠1->p.t.length=0)/\(p.k=7->0<=p.n)/\(p.k≠7->p.n=0):=by
 unfold nE
 by_cases h:p.k=1<;>by_cases y:p.k=7<;>simp [h,y]<;>grind
theorem aBh (A:Int) (st:List (Tr × Int)) (p:Pc) (hr:0<=A) (S:aDf st) :
  (∃ s,bO A st p=some (A - p.t.length,s)/\nE p=true/\(p.t.length:Int)<=A/\dA (st.map (·.1)) p=some (s.map (·.1))/\aDf s)\/
  (bO A st p=none/\(nE p=false\/A<p.t.length\/dA (st.map (·.1)) p=none\/∃ s,dA (st.map (·.1)) p=some s/\∃ x∈s,4000<dK x)):=by
 by_cases hA:(p.k≠1/\0<p.t.length)\/(p.k≠7/\p.n≠0)
 ·refine .inr ⟨by unfold bO;rw [if_pos hA],.inl ?_⟩;rw [<- Bool.not_eq_true,fQ];intro h;rcases hA with M | M
  ·have:=h.2.2.1 M.1;omega
  ·exact M.2 (h.2.2.2.2 M.1)
 ·have E:p.k≠1->p.t.length=0:=fun h=>by omega
  have G:p.k≠7->p.n=0:=fun h=>by omega
  unfold bO;rw [if_neg hA]
  by_cases U:p.k=1
  ·rw [if_pos U]
   by_cases Y:A<p.t.length
   ·rw [if_pos Y];exact .inr ⟨rfl,.inr (.inl Y)⟩
   ·rw [if_neg Y]
    by_cases J:aI p.t<0\/p.t.contains 10=true
    ·rw [if_pos J];refine .inr ⟨rfl,.inl ?_⟩;rw [<- Bool.not_eq_true,fQ];intro h;have:=h.2.1 U;rcases J with J | J
     ·omega
     ·rw [this.1] at J;cases J
    ·rw [if_neg J];refine .inl ⟨_,rfl,?_,by omega,by simp [dA,ar,U],?_⟩
     ·rw [fQ];refine ⟨by omega,fun _=>⟨?_,by omega⟩,E,by omega,G⟩;cases h:p.t.contains 10
      ·rfl
      ·exact absurd (.inr h) J
     ·intro x O;rcases List.mem_cons.1 O with rfl | O
      ·simp [dK]
      ·exact S x O
  ·have ht:=E U;rw [if_neg U]
   by_cases hL:p.k=0\/p.k=2\/p.k=3\/p.k=4\/p.k=5
   ·rw [if_pos hL];refine .inl ⟨_,by rw [ht];simp;rfl,?_,by omega,?_,?_⟩
    ·rw [fQ];exact ⟨by omega,by omega,E,by omega,G⟩
    ·have:ar p.k=0:=by unfold ar;rw [if_neg (by omega),if_neg (by omega)]
     simp [dA,this]
    ·intro x O;rcases List.mem_cons.1 O with rfl | O
     ·simp [dK]
     ·exact S x O
   ·rw [if_neg hL]
    by_cases X:p.k=6\/p.k=9
    ·rw [if_pos X];have D:ar p.k=2:=(by unfold ar;rw [if_pos X]);have a4:nE p=true:=(by rw [fQ];exact ⟨by omega,by omega,E,by omega,G⟩);rcases st with _ | ⟨⟨y,ny⟩,_ | ⟨⟨x,nx⟩,r⟩⟩
     ·exact .inr ⟨rfl,.inr (.inr (.inl (by simp [dA,D])))⟩
     ·exact .inr ⟨rfl,.inr (.inr (.inl (by simp [dA,D])))⟩
     ·refine .inl ⟨_,by rw [ht];simp;rfl,a4,by omega,by simp [dA,D],?_⟩;intro z N;rcases List.mem_cons.1 N with rfl | N
      ·have M:=S (x,nx) (by simp);have h2:=S (y,ny) (by simp);simp only [dK] at M h2 ⊢;omega
      ·exact S z (by simp [N])
    ·rw [if_neg X]
     by_cases Z:p.k=7\/p.k=8
     ·rw [if_pos Z];have D:ar p.k=1:=(by unfold ar;rw [if_neg X,if_pos Z]);rcases st with _ | ⟨⟨x,nx⟩,r⟩
      ·exact .inr ⟨rfl,.inr (.inr (.inl (by simp [dA,D])))⟩
      ·have M:=S (x,nx) (by simp);simp only at M
       by_cases hN:p.n<0\/4000 - nx<p.n
       ·simp only [if_pos hN];refine .inr ⟨trivial,?_⟩
        by_cases hn:p.n<0
        ·refine .inl ?_;rw [<- Bool.not_eq_true,fQ];intro h
         by_cases k7:p.k=7
         ·have:=h.2.2.2.1 k7;omega
         ·have:=h.2.2.2.2 k7;omega
        ·exact .inr (.inr (.inr ⟨.un p x::r.map (·.1),by simp [dA,D],.un p x,by simp,by simp only [dK];omega⟩))
       ·simp only [if_neg hN];refine .inl ⟨_,by rw [ht];simp;rfl,?_,by omega,by simp [dA,D],?_⟩
        ·rw [fQ];exact ⟨by omega,by omega,E,by omega,G⟩
        ·intro z N;rcases List.mem_cons.1 N with rfl | N
         ·simp only [dK];omega
         ·exact S z (by simp [N])
     ·rw [if_neg Z];refine .inr ⟨rfl,.inl ?_⟩;rw [<- Bool.not_eq_true,fQ];intro h;omega
theorem aKC:∀ (ps:List Pc) (y:Int) (st:List (Tr × Int)),0<=y->aDf st->
  (∃ s,jD ps y st=some s/\ps.all nE=true/\cM ps<=y/\bd ps (st.map (·.1))=some (s.map (·.1))/\aDf s)\/
  (jD ps y st=none/\(ps.all nE=false\/y<cM ps\/bd ps (st.map (·.1))=none\/∃ s,bd ps (st.map (·.1))=some s/\∃ x∈s,4000<dK x))
 | [],y,st,hr,hg=>.inl ⟨st,rfl,rfl,by simp [cM];exact hr,rfl,hg⟩
 | p::ps,y,st,hr,hg=>by
   have A:∀ qs:List Pc,0<=cM qs:=by
    intro qs
    induction qs with
    | nil=>simp [cM]
    | cons q qs ih=>simp only [cM];omega
   have Y:=A ps;rcases aBh y st p hr hg with ⟨s,D,G,h3,N,S⟩ | ⟨D,G⟩
   ·have ih:=aKC ps (y - p.t.length) s (by omega) S;simp only [jD,D,Option.bind_some,bd,N,List.all_cons,G,Bool.true_and,cM];rcases ih with ⟨X,J,M,i3,U,Z⟩ | ⟨J,M⟩
    ·exact .inl ⟨X,J,M,by omega,U,Z⟩
    ·refine .inr ⟨J,?_⟩;rcases M with i | i | i | i
     ·exact .inl i
     ·exact .inr (.inl (by omega))
     ·exact .inr (.inr (.inl i))
     ·exact .inr (.inr (.inr i))
   ·simp only [jD,D,Option.bind_none,bd,List.all_cons,cM];refine .inr ⟨trivial,?_⟩;rcases G with h | h | h | ⟨s,h,O⟩
    ·exact .inl (by rw [h];rfl)
    ·exact .inr (.inl (by omega))
    ·exact .inr (.inr (.inl (by rw [h];rfl)))
    ·by_cases E:ps.all nE=true
     ·rw [h,Option.bind_some];cases hb:bd ps s with
      | none=>exact .inr (.inr (.inl rfl))
      | some r=>exact .inr (.inr (.inr ⟨r,rfl,aFx ps s r E O hb⟩))
     ·exact .inl (by simp [Bool.not_eq_true] at E ⊢;exact fun _=>E)
theorem aCO (doc:List Pc) :
  (eX doc=true/\doc.length<=40000/\∃ T n,bd doc []=some [T]/\jD doc 100000 []=some [(T,n)]/\Seg doc (gZ doc) T 0 doc.length)\/
  (eX doc=false/\(40000<doc.length\/jD doc 100000 []=none\/∃ s,jD doc 100000 []=some s/\s.length≠1)):=by
 by_cases U:doc=[]
 ·subst U;exact .inr ⟨rfl,.inr (.inr ⟨[],rfl,by simp⟩)⟩
 have J:1<=doc.length:=List.length_pos_iff.2 U
 by_cases Z:doc.length<=40000
 ·have X:=vM doc U;rcases aKC doc 100000 [] (by omega) (fun x A=>by cases A) with ⟨s,M,N,h3,E,h5⟩ | ⟨M,N⟩
  ·rcases X with ⟨O,T,G,k3⟩ | ⟨O,G⟩
   ·simp only [List.map_nil] at E;rw [G] at E;rcases s with _ | ⟨⟨Y,n⟩,_ | ⟨y,r⟩⟩
    ·simp at E
    ·simp at E;subst E;refine .inl ⟨?_,Z,T,n,G,M,k3⟩;have D:=aB3 doc [] [T] N (fun x A=>by cases A) G T (by simp);have hn:=h5 (T,n) (by simp);simp only at hn;have:=rR T D;simp only [eX,O,G,N,J,Z,h3];simp;omega
    ·simp at E
   ·refine .inr ⟨by simp [eX,O],.inr (.inr ⟨s,M,fun hs=>?_⟩)⟩;rcases s with _ | ⟨⟨Y,n⟩,_ | ⟨y,r⟩⟩
    ·simp at hs
    ·exact G Y (by simpa using E)
    ·simp at hs
  ·refine .inr ⟨?_,.inr (.inl M)⟩;rcases N with h | h | h | ⟨s,h,x,A,a7⟩
   ·simp [eX,h]
   ·simp only [eX];have:¬ (cM doc<=100000):=by omega
    simp [this]
   ·simp only [List.map_nil] at h;simp [eX,h]
   ·simp only [List.map_nil] at h
    by_cases S:doc.all nE=true
    ·have D:=aB3 doc [] s S (fun x A=>by cases A) h;rcases s with _ | ⟨Y,_ | ⟨y,r⟩⟩
     ·simp [eX,h]
     ·simp at A;subst A;have:=rR x (D x (by simp));have h6:¬ (jH x<=4000):=(by omega);simp [eX,h,h6]
     ·simp [eX,h]
    ·simp only [Bool.not_eq_true] at S;simp [eX,S]
 ·refine .inr ⟨?_,.inl (by omega)⟩;simp only [eX];have:¬ (1<=doc.length/\doc.length<=40000):=by omega
  simp [this]
def sz:Tr->Nat
 | .leaf p=>p.t.length+1
 | .un p x=>p.t.length+1+sz x
 | .bin p x y=>p.t.length+1+(sz x+sz y)
def szs:List Tr->Nat
 | []=>0
 | x::r=>sz x+szs r
theorem aH6:∀ (ps:List Pc) (st r:List Tr),bd ps st=some r->(szs r:Int)=szs st+cM ps+ps.length
 | [],st,r,h=>by simp [bd] at h;subst h;simp [cM]
 | p::ps,st,r,h=>by
   simp only [bd] at h;obtain ⟨A,y,D⟩:=Option.bind_eq_some_iff.1 h;have ih:=aH6 ps A r D
   have:(szs A:Int)=szs st+p.t.length+1:=by
    unfold dA at y
    split at y
    ·cases y;simp only [szs,sz];omega
    ·split at y
     ·split at y
      ·cases y;simp only [szs,sz];omega
      ·cases y
     ·split at y
      ·cases y;simp only [szs,sz];omega
      ·cases y
   simp only [cM,List.length_cons];omega
theorem aCc (doc:List Pc) (h:eX doc=true) (T:Tr) (y:bd doc []=some [T]):sz T<=140000:=by
 have:=aH6 doc [] [T] y;simp only [eX,Bool.and_eq_true,decide_eq_true_eq] at h;simp only [szs] at this;omega
def aM:Tr->List Int->Option (List Int)
 | .leaf p,out=>if p.k=0\/p.k=3 then some out else if p.k=1 then some (out++p.t) else if p.k=2 then some (out++[32]) else none
 | .un _ x,out=>aM x out
 | .bin p x y,out=>if p.k=6 then (aM x out).bind (aM y) else aM y out
theorem lY:∀ (T:Tr) (out o:List Int),aM T out=some o->o.length<=out.length+sz T
 | .leaf p,out,o,h=>by
   unfold aM at h;simp only [sz]
   split at h
   ·cases h;omega
   ·split at h
    ·cases h;simp
    ·split at h
     ·cases h;simp
     ·cases h
 | .un p x,out,o,h=>by have:=lY x out o h;simp only [sz];omega
 | .bin p x y,out,o,h=>by
   unfold aM at h;simp only [sz]
   split at h
   ·obtain ⟨A,D,E⟩:=Option.bind_eq_some_iff.1 h;have:=lY x out A D;have:=lY y A o E;omega
   ·have:=lY y out o h;omega
def leadT:Tr->Int × Bool
 | .leaf p=>if p.k=0 then (0,false) else if p.k=1 then (aI p.t,false) else (0,true)
 | .un _ x=>leadT x
 | .bin p x y=>if p.k=9\/(leadT x).2=true then leadT x else ((leadT x).1+(leadT y).1,(leadT y).2)
theorem lA (h:∀ t,-1<=aI t/\aI t<=t.length):∀ (T:Tr),-(sz T:Int)<=(leadT T).1/\(leadT T).1<=sz T
 | .leaf p=>by
   have:=h p.t;unfold leadT;simp only [sz]
   split
   ·simp;omega
   ·split
    ·simp;omega
    ·simp;omega
 | .un p x=>by have:=lA h x;simp only [sz,leadT];omega
 | .bin p x y=>by
   have:=lA h x;have:=lA h y;unfold leadT;simp only [sz]
   split
   ·omega
   ·simp only;omega
def jX (fl:Bool):Tr->List Tr
 | .leaf p=>[.leaf p]
 | .un p x=>.un p x::jX fl x
 | .bin p x y=>.bin p x y::(if p.k=6 then jX fl x++jX fl y else if fl then jX fl y else jX fl x)
def vW (fl:Bool):Tr->List Tr
 | .leaf _=>[]
 | .un _ x=>[x]
 | .bin p x y=>if p.k=6 then [x,y] else if fl then [y] else [x]
def lK (fl:Bool):List Tr->List Tr
 | []=>[]
 | x::r=>jX fl x++lK fl r
theorem tN (fl:Bool) (T:Tr) (r:List Tr):lK fl (T::r)=T::lK fl (vW fl T++r):=by
 cases T with
 | leaf p=>rfl
 | un p x=>rfl
 | bin p x y=>
   simp only [lK,jX,vW]
   split
   ·simp [lK]
   ·split<;>simp [lK]
theorem aI9 (fl:Bool) (T:Tr) (r:List Tr):szs (vW fl T++r)+1<=szs (T::r):=by
 cases T with
 | leaf p=>simp only [vW,szs,sz,List.nil_append];omega
 | un p x=>simp only [vW,szs,sz,List.cons_append,List.nil_append];omega
 | bin p x y=>
   simp only [vW]
   split
   ·simp only [szs,sz,List.cons_append,List.nil_append];omega
   ·split
    ·simp only [szs,sz,List.cons_append,List.nil_append];omega
    ·simp only [szs,sz,List.cons_append,List.nil_append];omega
theorem zU:∀ (r:List Tr),r.length<=szs r
 | []=>by simp [szs]
 | x::r=>by
   have:=zU r;have:1<=sz x:=by cases x<;>simp only [sz]<;>omega
   simp only [szs,List.length_cons];omega
def kA:List Tr->List Int->Option (List Int)
 | [],out=>some out
 | .leaf p::r,out=>if p.k=0\/p.k=3 then kA r out else if p.k=1 then kA r (out++p.t) else if p.k=2 then kA r (out++[32]) else none
 | .un _ _::r,out=>kA r out
 | .bin _ _ _::r,out=>kA r out
theorem tV:∀ (T:Tr) (r:List Tr) (out:List Int),kA (jX true T++r) out=(aM T out).bind (kA r)
 | .leaf p,r,out=>by
   simp only [jX,List.cons_append,List.nil_append,kA,aM]
   split
   ·rfl
   ·split
    ·rfl
    ·split<;>rfl
 | .un p x,r,out=>by simp only [jX,List.cons_append,kA,aM];exact tV x r out
 | .bin p x y,r,out=>by
   simp only [jX,List.cons_append,kA,aM]
   split
   ·rw [List.append_assoc,tV x];cases aM x out with
    | none=>rfl
    | some o=>exact tV y r o
   ·exact tV y r out
def bV:Tr->Nat
 | .leaf _=>0
 | .un p x=>bV x+(if p.k=8 then 1 else 0)
 | .bin _ x y=>bV x+bV y
def grp (doc:List Pc) (i:Nat):Nat:=((doc.take i).filter (fun p=>p.k==8)).length
theorem aId (doc:List Pc):grp doc 0=0:=by simp [grp]
theorem zA (doc:List Pc) (i:Nat) (h:i<doc.length):grp doc (i+1)=grp doc i+(if doc[i].k=8 then 1 else 0):=by
 unfold grp;rw [List.take_add_one,List.getElem?_eq_getElem h,List.filter_append,List.length_append];congr 1
 by_cases y:doc[i].k=8
 ·simp [y]
 ·simp [y]
theorem xW {doc:List Pc} {st:List Int} : ∀ {T:Tr} {a b:Nat},Seg doc st T a b->grp doc b=grp doc a+bV T
 | .leaf p,a,b,h=>by
   obtain ⟨rfl,E,A,_⟩:=h;obtain ⟨G,D⟩:=List.getElem?_eq_some_iff.1 E;rw [zA doc a G,D,if_neg (by intro e;rw [e] at A;simp [ar] at A)];simp [bV]
 | .un p x,a,b,h=>by
   obtain ⟨m,rfl,E,A,_,J⟩:=h;obtain ⟨G,D⟩:=List.getElem?_eq_some_iff.1 E;rw [zA doc m G,D,xW J];simp only [bV];omega
 | .bin p x y,a,b,h=>by
   obtain ⟨c,m,rfl,E,A,_,J,M⟩:=h;obtain ⟨G,D⟩:=List.getElem?_eq_some_iff.1 E;rw [zA doc m G,D,if_neg (by intro e;rw [e] at A;simp [ar] at A),xW M,xW J];simp only [bV];omega
def jW:List Tr->Int
 | []=>0
 | T::r=>if (leadT T).2=true then (leadT T).1 else (leadT T).1+jW r
def pO:Tr->Nat->List Int->List Int
 | .leaf _,_,met=>met
 | .un p x,n,met=>pO x n (if p.k=8 then met.set (n+bV x) 1 else met)
 | .bin p x y,n,met=>pO y (n+bV x) (if p.k=6 then pO x n met else met)
def bR (ind:Int):List Int:=10::List.replicate ind.toNat 32
structure pK where
 T:Tr
 n:Nat
 ind:Int
def lay (width:Int) (given:Option (List Int)):Nat->List pK->List Int->List Int->Int->Option (List Int × List Int)
 | 0,_,_,_,_=>none
 | _+1,[],out,met,_=>some (out,met)
 | f+1,⟨.leaf p,_,ind⟩::rest,out,met,col=>
   if p.k=1 then lay width given f rest (out++p.t) met (col+aI p.t)
   else if p.k=5 then lay width given f rest (out++[10]) met 0
   else if p.k=2\/p.k=3\/p.k=4 then lay width given f rest (out++bR ind) met ind
   else lay width given f rest out met col
 | f+1,⟨.bin p x y,n,ind⟩::rest,out,met,col=>
   if p.k=6 then lay width given f (⟨x,n,ind⟩::⟨y,n+bV x,ind⟩::rest) out met col
   else lay width given f (⟨x,n,ind⟩::rest) out met col
 | f+1,⟨.un p x,n,ind⟩::rest,out,met,col=>
   if p.k=7 then lay width given f (⟨x,n,ind+p.n⟩::rest) out met col
   else
    match given with
    | none=>
      match aM x [] with
      | some text=>
        if col+aI text+jW (rest.map (·.T))<=width then lay width given f rest (out++text) (pO (.un p x) n met) (col+aI text)
        else lay width given f (⟨x,n,ind⟩::rest) out (met.set (n+bV x) 2) col
      | none=>lay width given f (⟨x,n,ind⟩::rest) out (met.set (n+bV x) 2) col
    | some gs=>
      if gs[n+bV x]?.getD 0=1 then
       match aM x [] with
       | some text=>lay width given f rest (out++text) (pO (.un p x) n met) (col+aI text)
       | none=>none
      else if gs[n+bV x]?.getD 0=2 then lay width given f (⟨x,n,ind⟩::rest) out (met.set (n+bV x) 2) col
      else none
end Go.Proofs.YtmfehflibkokbaaGreatDoor
namespace Go.Proofs.YtmfehflibkokbaaGreatDoor
open Go.Proofs.Tryz
open Go.RowKit
theorem aF0 (c:Nat) (n:Nat) (A:c<256) (y:n<256) (h:c ||| n=c+n):bits .or .u8 (c:Int) (n:Int)=(c:Int)+n:=by
 rw [u8_or_nat c n A y,h];omega
theorem aLT (x:Int) (y:0<=x) (A:x<64):bits .or .u8 128 x=128+x:=by
 obtain ⟨n,rfl⟩:=Int.eq_ofNat_of_zero_le y;have h:∀ m:Nat,m<64->128 ||| m=128+m:=(by decide);exact aF0 128 n (by omega) (by omega) (h n (by omega))
theorem aLU (x:Int) (y:0<=x) (A:x<32):bits .or .u8 192 x=192+x:=by
 obtain ⟨n,rfl⟩:=Int.eq_ofNat_of_zero_le y;have h:∀ m:Nat,m<32->192 ||| m=192+m:=(by decide);exact aF0 192 n (by omega) (by omega) (h n (by omega))
theorem aLW (x:Int) (y:0<=x) (A:x<16):bits .or .u8 224 x=224+x:=by
 obtain ⟨n,rfl⟩:=Int.eq_ofNat_of_zero_le y;have h:∀ m:Nat,m<16->224 ||| m=224+m:=(by decide);exact aF0 224 n (by omega) (by omega) (h n (by omega))
theorem aL5 (x:Int) (y:0<=x) (A:x<8):bits .or .u8 240 x=240+x:=by
 obtain ⟨n,rfl⟩:=Int.eq_ofNat_of_zero_le y;have h:∀ m:Nat,m<8->240 ||| m=240+m:=(by decide);exact aF0 240 n (by omega) (by omega) (h n (by omega))
theorem rB (a:Nat) (h:a<4294967296):(BitVec.ofInt 32 (a:Int)).toNat=a:=by
 rw [BitVec.ofInt_natCast,BitVec.toNat_ofNat];exact Nat.mod_eq_of_lt (by omega)
theorem mE (n:Int) (y:0<=n) (h:n<2147483648):IntKind.i32.wrap n=n:=by
 simp [IntKind.wrap,IntKind.bits,IntKind.signed];omega
theorem aDX (a b:Nat) (h:a<2147483648) (y:b<2147483648):bits .and .i32 (a:Int) (b:Int)=((a &&& b:Nat):Int):=by
 have A:a &&& b<2 ^ 31:=Nat.and_lt_two_pow _ (by omega)
 show IntKind.i32.wrap ((BitVec.ofInt 32 (a:Int) &&& BitVec.ofInt 32 (b:Int)).toNat:Int)=_
 rw [BitVec.toNat_and,rB a (by omega),rB b (by omega),mE _ (by omega) (by omega)]
theorem aEo (a b:Nat) (h:a<2147483648) (y:b<2147483648):bits .or .i32 (a:Int) (b:Int)=((a ||| b:Nat):Int):=by
 have A:a ||| b<2 ^ 31:=Nat.or_lt_two_pow (by omega) (by omega)
 show IntKind.i32.wrap ((BitVec.ofInt 32 (a:Int) ||| BitVec.ofInt 32 (b:Int)).toNat:Int)=_
 rw [BitVec.toNat_or,rB a (by omega),rB b (by omega),mE _ (by omega) (by omega)]
theorem nZ (k:Nat) (D:k<31) (p:Int) (h:0<=p) (y:p<2147483648):bits .and .i32 p (((2 ^ k - 1:Nat):Int))=p%((2 ^ k:Nat):Int):=by
 obtain ⟨n,rfl⟩:=Int.eq_ofNat_of_zero_le h;have A:2 ^ k<=2 ^ 30:=Nat.pow_le_pow_right (by omega) (by omega);rw [aDX n _ (by omega) (by omega),Nat.and_two_pow_sub_one_eq_mod];omega
theorem aL6 (p:Int) (y:0<=p) (h:p<2147483648):bits .and .i32 p 63=p%64:=by
 simpa using nZ 6 (by omega) p y h
end Go.Proofs.YtmfehflibkokbaaGreatDoor
