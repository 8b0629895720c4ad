import Derived.Handy
import Derived.Test.YtmfehflibkokbaaGreatDoorMAT
set_option maxHeartbeats 16000000
set_option maxRecDepth 100000
namespace Go.Proofs.YtmfehflibkokbaaGreatDoor
open Go.Proofs.Tryz
theorem mY {σ:Type} (f:σ->Option σ):∀ (k:Nat) (s:σ),aO f (k+1) s=(aO f k s).bind f
 | 0,s=>by simp [aO]
 | k+1,s=>by
   rw [aO];simp only [aO];cases f s with
   | none=>rfl
   | some x=>exact mY f k x
theorem uK {d:Nat} {m:Bool} {ind:Int} (ih:∀ R y,aE bC d m (R,())=some (y,())->(∀ n∈R,n.k<5->n.C=0)->∃ n P,R=n::(P++y)/\mes (aJ ind d R).1+40+wC n.L+6*n.key.length<=wN n+wNs P) :
  ∀ (k:Nat) (R y:List Nod),aO (aE bC d m) k (R,())=some (y,())->(∀ n∈R,n.k<5->n.C=0)->∃ P,R=P++y/\cR (itK (aJ ind d) k R)<=wNs P
 | 0,R,y,h,_=>by
   simp only [aO,Option.some.injEq,Prod.mk.injEq,and_true] at h;exact ⟨[],by simpa using h,by simp [itK,cR]⟩
 | k+1,R,y,h,hn=>by
   have M:=lX (ind:=ind) (fun R y h N=>oJ ind d _ R y h N) _ R y h hn k (by omega);obtain ⟨U,D,S⟩:=uK ih k R _ M hn;rw [mY,M,Option.bind_some] at h;obtain ⟨n,E,A,G⟩:=ih _ y h (fun n J=>hn n (by rw [D];exact List.mem_append_right _ J));refine ⟨U++(n::E),by rw [List.append_assoc,List.cons_append,<- A];exact D,?_⟩;simp only [itK,eO,vC,wNs];have O:=aBk (V:=aJ ind d) n (E++y) (wN n+wNs E) (by rw [<- A];exact G);rw [<- A] at O
   split
   ·simp only [cR];omega
   ·simp only [cR,aG,aH,mes,List.length_cons,List.length_nil];omega
theorem aHq (ind:Int) (n:Nod) (h:List (List Pc)):mes (kB ind n h)<=cR h+wC n.tail+40:=by
 have D:=kS n.tail;unfold kB
 split
 ·split
  ·simp only [aG,mes,List.length_cons,List.length_nil];omega
  ·refine Nat.le_trans (jB _) ?_;have y:=jB (cU n.tail);simp only [cR,aG,aH,mes,iQ,iI,List.length_cons,List.length_nil];omega
 ·rw [iI];have A:=jB [aG [jY n.k],iQ ind (kC n.k h n.tail),aH (oD n.k),aG [kW n.k]];have y:=jB (kC n.k h n.tail);simp only [kC,cR,eO,aG,aH,mes,iQ,iI,yC,List.length_cons,List.length_nil] at y A ⊢;omega
theorem rL (ind:Int):∀ (d:Nat) (m:Bool) (R y:List Nod),aE bC d m (R,())=some (y,())->(∀ n∈R,n.k<5->n.C=0)->∃ n P,R=n::(P++y)/\mes (aJ ind d R).1+40+wC n.L+6*n.key.length<=wN n+wNs P
 | 0,m,R,y,h,_=>by simp [aE] at h
 | d+1,m,[],y,h,_=>by simp [aE] at h
 | d+1,m,n::R,y,h,hn=>by
   by_cases A:n.mem≠m
   ·simp [aE,A] at h
   ·by_cases G:5<=n.k/\d=0
    ·simp [aE,A,G,bC] at h
    ·simp only [aE,if_neg A,if_neg G,bC,Option.bind_some] at h
     by_cases D:n.k<5
     ·have M:=hn n (by simp) D;rw [M] at h;simp only [Int.toNat_zero,aO,Option.some.injEq,Prod.mk.injEq,and_true] at h;refine ⟨n,[],by rw [h];rfl,?_⟩;simp only [aJ,if_pos D,wNs];have:=aH2 n;omega
     ·obtain ⟨P,J,A⟩:=uK (ind:=ind) (fun R y h N=>rL ind d _ R y h N) _ R y h (fun n E=>hn n (by simp [E]));refine ⟨n,P,by rw [J],?_⟩;simp only [aJ,if_neg D];have:=aHq ind n (itK (aJ ind d) n.C.toNat R);unfold wN;omega
def dT (ind:Int) (t:Tre):List Pc:=
 match t.N with
 | []=>[]
 | n::R=>cV (bM n.L++((aJ ind 201 (n::R)).1::aH 4::bM t.tail))
theorem aDW:∀ (A:List Int),(∀ u∈A,u<128)->fu A=A
 | [],_=>rfl
 | [x],h=>rfl
 | x::y::r,h=>by
   have E:=h x (by simp);have ih:=aDW (y::r) (fun u D=>h u (by simp at D ⊢;right;exact D));rw [fu,if_neg (by simp [lH];omega),ih]
theorem aAk (y:List Int) (h:nmR y=true):∀ u∈y,gM u=true\/aK u=true:=by
 intro u D;obtain ⟨j,A,rfl⟩:=List.getElem_of_mem D;unfold nmR sS at h;simp only [Bool.and_eq_true,List.all_eq_true,List.mem_range] at h;have:=h.1 j A;simp only [A,List.getElem?_eq_getElem,Option.getD_some,uC,Bool.or_eq_true,Bool.and_eq_true] at this;rcases this with h | h
 ·exact .inl h
 ·exact .inr h.2
theorem zC (u:Int) (h:gM u=true\/aK u=true):fF u=[u]/\0<=u/\u<128:=by
 have D:36<=u/\u<123/\u≠92:=by
  simp only [gM,aK,decide_eq_true_eq] at h;omega
 refine ⟨?_,by omega,by omega⟩
 have A:pR u=[]:=by unfold pR;repeat' split
                    all_goals first | omega | rfl
 have y:mH u=false:=(by simp [mH,bW];omega);unfold fF;rw [A,if_neg (by simp),y];simp only [Bool.false_eq_true,if_false];unfold enc
 first | (rw [if_pos (by omega)]) | simp [show u<128 by omega] | (split<;>first | rfl | omega)
theorem aJ7 (y:List Int) (h:nmR y=true):quR y=(34::y++[34],0):=by
 have D:=aAk y h;have J:fu y=y:=aDW y (fun u A=>(zC u (D u A)).2.2)
 have A:y.all bZ=true:=by
  rw [List.all_eq_true];intro u A;have:=(zC u (D u A)).2;simp [bZ];omega
 have G:∀ (l:List Int),(∀ u∈l,gM u=true\/aK u=true)->jC l=l:=by
  intro l
  induction l with
  | nil=>intro _;rfl
  | cons x l ih=>intro E;rw [show jC (x::l)=fF x++jC l by simp [jC],(zC x (E x (by simp))).1,ih (fun u A=>E u (by simp [A]))];rfl
 unfold quR fuR;rw [if_pos A,J];simp only [if_true,G y D]
def bhO (T:Tr) (b:Int):Int:=if (leadT T).2=true then (leadT T).1 else (leadT T).1+b
def bhL:List Tr->Int->Int
 | [],b=>b
 | T::r,b=>bhO T (bhL r b)
def ly (width:Int):Tr->Int->Int->Int->List Int × Int
 | .leaf p,ind,col,_=>
   if p.k=1 then (p.t,col+aI p.t) else if p.k=5 then ([10],0) else if p.k=2\/p.k=3\/p.k=4 then (bR ind,ind) else ([],col)
 | .bin p x y,ind,col,b=>
   if p.k=6 then ((ly width x ind col (bhO y b)).1++(ly width y ind (ly width x ind col (bhO y b)).2 b).1,(ly width y ind (ly width x ind col (bhO y b)).2 b).2)
   else ly width x ind col b
 | .un p x,ind,col,b=>
   if p.k=7 then ly width x (ind+p.n) col b
   else match aM x [] with
    | some text=>if col+aI text+b<=width then (text,col+aI text) else ly width x ind col b
    | none=>ly width x ind col b
def lyL (width:Int):List Tr->Int->Int->Int->List Int × Int
 | [],_,col,_=>([],col)
 | T::r,ind,col,b=>((ly width T ind col (bhL r b)).1++(lyL width r ind (ly width T ind col (bhL r b)).2 b).1,(lyL width r ind (ly width T ind col (bhL r b)).2 b).2)
def lyS (width:Int):List pK->Int->List Int
 | [],_=>[]
 | it::r,col=>(ly width it.T it.ind col (jW (r.map (·.T)))).1++lyS width r (ly width it.T it.ind col (jW (r.map (·.T)))).2
theorem mN (width:Int):∀ (f:Nat) (its:List pK) (out met:List Int) (col:Int) (r:List Int × List Int),lay width none f its out met col=some r->r.1=out++lyS width its col
 | 0,_,_,_,_,_,h=>by simp [lay] at h
 | f+1,[],out,met,col,r,h=>by simp only [lay,Option.some.injEq] at h;subst h;simp [lyS]
 | f+1,⟨.leaf p,n,ind⟩::rest,out,met,col,r,h=>by
   simp only [lay] at h;simp only [lyS,ly]
   split at h
   ·rename_i h1
    rw [mN width f _ _ _ _ _ h];simp [h1]
   ·rename_i h1
    split at h
    ·rename_i h2
     rw [mN width f _ _ _ _ _ h];simp [h2]
    ·rename_i h2
     split at h
     ·rename_i h3
      rw [mN width f _ _ _ _ _ h];simp [h1,h2,h3]
     ·rename_i h3
      rw [mN width f _ _ _ _ _ h];simp [h1,h2,h3]
 | f+1,⟨.bin p x y,n,ind⟩::rest,out,met,col,r,h=>by
   simp only [lay] at h;simp only [lyS,ly]
   split at h
   ·rename_i h1
    rw [mN width f _ _ _ _ _ h];simp only [lyS,List.map_cons,jW,h1,if_true,bhO,List.append_assoc]
   ·rename_i h1
    rw [mN width f _ _ _ _ _ h];simp only [lyS,h1,if_false]
 | f+1,⟨.un p x,n,ind⟩::rest,out,met,col,r,h=>by
   simp only [lay] at h;simp only [lyS,ly]
   split at h
   ·rename_i h1
    rw [mN width f _ _ _ _ _ h];simp only [lyS,h1,if_true]
   ·rename_i h1
    simp only [h1,if_false];cases A:aM x [] with
    | some text=>
      rw [A] at h;simp only at h ⊢
      split at h
      ·rename_i h2
       rw [mN width f _ _ _ _ _ h];simp only [h2,if_true,List.append_assoc]
      ·rename_i h2
       rw [mN width f _ _ _ _ _ h];simp only [lyS,h2,if_false]
    | none=>
      rw [A] at h;simp only at h ⊢;rw [mN width f _ _ _ _ _ h];simp only [lyS]
theorem aJy (xs ys:List Tr) (b:Int):bhL (xs++ys) b=bhL xs (bhL ys b):=by
 induction xs with
 | nil=>rfl
 | cons T r ih=>simp only [List.cons_append,bhL,ih]
theorem aJx (width:Int) (xs ys:List Tr) (ind col b:Int):lyL width (xs++ys) ind col b=((lyL width xs ind col (bhL ys b)).1++(lyL width ys ind (lyL width xs ind col (bhL ys b)).2 b).1,(lyL width ys ind (lyL width xs ind col (bhL ys b)).2 b).2):=by
 induction xs generalizing col with
 | nil=>simp [lyL]
 | cons T r ih=>simp only [List.cons_append,lyL,ih,aJy,List.append_assoc]
def sN (a b:Tr):Tr:=.bin nF a b
def iV:List Tr->Tr
 | []=>.leaf ⟨0,[],0⟩
 | T::r=>r.foldl sN T
theorem aJP (width:Int) (r:List Tr):∀ (T:Tr) (ind col b:Int),ly width (r.foldl sN T) ind col b=lyL width (T::r) ind col b:=by
 induction r with
 | nil=>intro T ind col b;simp [lyL,bhL]
 | cons U r ih=>
   intro T ind col b;rw [List.foldl_cons,ih];simp only [lyL,bhL,sN,ly,nF,if_true,List.append_assoc]
theorem aG0 (width:Int) (h:List Tr) (ind col b:Int):ly width (iV h) ind col b=lyL width h ind col b:=by
 cases h with
 | nil=>simp [iV,ly,lyL]
 | cons T r=>exact aJP width r T ind col b
def Bl (ps:List Pc) (T:Tr):Prop:=∀ st,bd ps st=some (T::st)
theorem tD:∀ (ps qs:List Pc) (st:List Tr),bd (ps++qs) st=(bd ps st).bind (bd qs)
 | [],qs,st=>rfl
 | p::ps,qs,st=>by
   simp only [List.cons_append,bd];cases dA st p with
   | none=>rfl
   | some s=>simp only [Option.bind_some];exact tD ps qs s
theorem aBN (p:Pc) (h:ar p.k=0):Bl [p] (.leaf p):=fun st=>by simp [bd,dA,h]
theorem aHt {ps:List Pc} {T:Tr} (h:Bl ps T) (p:Pc) (y:ar p.k=1):Bl (ps++[p]) (.un p T):=fun st=>by
 rw [tD,h,Option.bind_some];simp [bd,dA,y]
theorem aKU {ps qs:List Pc} {T U:Tr} (h:Bl ps T) (A:Bl qs U) (p:Pc) (y:ar p.k=2):Bl (ps++(qs++[p])) (.bin p T U):=fun st=>by
 rw [tD,h,Option.bind_some,tD,A,Option.bind_some];simp [bd,dA,y]
inductive BlL:List (List Pc)->List Tr->Prop where
 | nil:BlL [] []
 | cons {ds T dss Ts} : Bl ds T->BlL dss Ts->BlL (ds::dss) (T::Ts)
theorem BlL.app {a b:List (List Pc)} {x y:List Tr} (h:BlL a x) (A:BlL b y):BlL (a++b) (x++y):=by
 induction h with
 | nil=>exact A
 | cons h1 _ ih=>exact .cons h1 ih
theorem BlL.one {a:List Pc} {x:Tr} (h:Bl a x):BlL [a] [x]:=.cons h .nil
theorem aKw {y:List (List Pc)} {A:List Tr} (h:BlL y A):∀ (T:Tr) (st:List Tr),bd (iS y) (T::st)=some (A.foldl sN T::st):=by
 induction h with
 | nil=>intro T st;rfl
 | @cons ds U y A h1 _ ih=>
   intro T st;have e:iS (ds::y)=(ds++[nF])++iS y:=(by simp [iS]);rw [e,tD,tD,h1,Option.bind_some];simp only [bd,dA,nF,ar];exact ih (sN T U) st
theorem wH {y:List (List Pc)} {A:List Tr} (h:BlL y A):Bl (cV y) (iV A):=by
 intro st;cases h with
 | nil=>exact aBN ⟨0,[],0⟩ (by simp [ar]) st
 | cons h1 h2=>rw [cV,tD,h1,Option.bind_some];exact aKw h2 _ st
def Vt (t:List Int):Prop:=∃ q:List Int,q.all bW=true/\t=aP q
theorem yL (q r:List Int):aP (q++r)=aP q++aP r:=by simp [aP]
theorem mO:Vt []:=⟨[],rfl,rfl⟩
theorem kH {a b:List Int} (y:Vt a) (A:Vt b):Vt (a++b):=by
 obtain ⟨q,h,rfl⟩:=y;obtain ⟨r,D,rfl⟩:=A;exact ⟨q++r,by rw [List.all_append,h,D];rfl,(yL q r).symm⟩
theorem iR {q:List Int} (h:q.all bW=true):aI (aP q)=q.length:=by
 have:=aAb h;rw [oK _ h] at this;exact this
theorem aHK {t:List Int} (h:Vt t):0<=aI t:=by
 obtain ⟨q,y,rfl⟩:=h;rw [iR y];omega
theorem aIN {a b:List Int} (A:Vt a) (D:Vt b):aI (a++b)=aI a+aI b:=by
 obtain ⟨q,h,rfl⟩:=A;obtain ⟨r,y,rfl⟩:=D;rw [<- yL,iR h,iR y,iR (by rw [List.all_append,h,y];rfl)];simp
theorem iW {t:List Int} (h:∀ x∈t,0<=x/\x<128):Vt t:=by
 induction t with
 | nil=>exact mO
 | cons x t ih=>
   have D:=h x (by simp);have:Vt [x]:=⟨[x],by simp [bW];omega,by simp [aP,wB x D.2]⟩;exact kH this (ih (fun y A=>h y (by simp [A])))
theorem aL3 {a:List Int} (G:Bys a) (h:0<=aI a):Vt a:=by
 have D:(eS a).2.1=0:=by
  apply Classical.byContradiction;intro E;rw [aBx E] at h;omega
 have A:=tM G D
 by_cases y:(eS a).1.all bW=true
 ·rw [oK _ y] at A;exact ⟨_,y,(by simpa using congrArg Prod.fst A.symm)⟩
 ·rw [aDn _ (by simpa using y)] at A;simp at A
theorem aE2 {p:Int} (h:bW p=true):0<=p/\p<=1114111:=by
 simp [bW] at h;omega
theorem aHH (p:Int) (h:128<=p) (A:p<=1114111):∀ x∈enc p,128<=x:=by
 by_cases a:p<2048
 ·rw [aEM p (by omega) a];intro x y;simp only [List.mem_cons,List.not_mem_nil,or_false] at y;rcases y with rfl | rfl<;>omega
 ·by_cases b:p<65536
  ·rw [aEr p a b];intro x y;simp only [List.mem_cons,List.not_mem_nil,or_false] at y;rcases y with rfl | rfl | rfl<;>omega
  ·rw [aEV p b];intro x y;simp only [List.mem_cons,List.not_mem_nil,or_false] at y;rcases y with rfl | rfl | rfl | rfl<;>omega
theorem aCa {p:Int} (h:bW p=true) (D:p≠10):10 ∉ enc p:=by
 by_cases y:p<128
 ·rw [wB p y];simp;omega
 ·intro A;have:=aHH p (by omega) (aE2 h).2 10 A;omega
def kZ:List Int->List Int->List Int
 | cur,[]=>cur
 | cur,x::xs=>if x=10 then kZ [] xs else kZ (cur++[x]) xs
theorem pZ (h a b:List Int):kZ h (a++b)=kZ (kZ h a) b:=by
 induction a generalizing h with
 | nil=>rfl
 | cons x a ih=>simp only [List.cons_append,kZ];split<;>exact ih _
theorem rD {a:List Int} (h:10 ∉ a) (y:List Int):kZ y a=y++a:=by
 induction a generalizing y with
 | nil=>simp [kZ]
 | cons x a ih=>
   simp only [List.mem_cons,not_or] at h;simp only [kZ,if_neg (fun e=>h.1 (Eq.symm e)),ih h.2];simp
theorem aFa (h a:List Int):kZ h (10::a)=kZ [] a:=by simp [kZ]
theorem aE6 {p:Int} {q:List Int} (h:(p::q).all bW=true):bW p=true/\q.all bW=true:=by simpa using h
theorem aMg {h t:List Int} (A:Vt h) (J:Vt t):Vt (kZ h t):=by
 obtain ⟨q,G,rfl⟩:=J
 induction q generalizing h with
 | nil=>exact A
 | cons p q ih=>
   obtain ⟨D,E⟩:=aE6 G;rw [show aP (p::q)=enc p++aP q by simp [aP],pZ];refine ih ?_ E
   by_cases y:p=10
   ·subst y;rw [wB 10 (by omega)];simp only [kZ,if_true];exact mO
   ·rw [rD (aCa D y)];exact kH A ⟨[p],by simp [D],by simp [aP]⟩
def lJ (out:List Int):Int:=aI (kZ [] out)
theorem aLN {q:List Int} (h:q.all bW=true):∀ (y:List Int),Vt y->10 ∉ y->∀ l∈spl y (aP q),Vt l/\10 ∉ l:=by
 induction q with
 | nil=>intro y J M l A;simp [aP,spl] at A;subst A;exact ⟨J,M⟩
 | cons p q ih=>
   intro y J M l A;obtain ⟨S,O⟩:=aE6 h;rw [show aP (p::q)=enc p++aP q by simp [aP]] at A
   by_cases G:p=10
   ·subst G;rw [wB 10 (by omega)] at A;simp only [List.cons_append,List.nil_append,spl,if_true,List.mem_cons] at A;rcases A with rfl | A
    ·exact ⟨J,M⟩
    ·exact ih O [] mO (by simp) l A
   ·have D:=aCa S G
    have E:∀ (e y:List Int),10 ∉ e->spl y (e++aP q)=spl (y++e) (aP q):=by
     intro e
     induction e with
     | nil=>intro y _;simp
     | cons x e ihe=>
       intro y N;simp only [List.mem_cons,not_or] at N;simp only [List.cons_append,spl,if_neg (fun e=>N.1 (Eq.symm e)),ihe _ N.2];simp
    rw [E _ _ D] at A;exact ih O _ (kH J ⟨[p],by simp [S],by simp [aP]⟩) (by simp only [List.mem_append,not_or];exact ⟨M,D⟩) l A
def aAc:List (List Int)->List Int
 | []=>[]
 | [l]=>l
 | l::ls=>l++10::aAc ls
theorem aIg (xs:List Int):∀ y,aAc (spl y xs)=y++xs:=by
 induction xs with
 | nil=>intro y;simp [spl,aAc]
 | cons x xs ih=>
   intro y;simp only [spl]
   split
   ·rename_i h
    subst h;have A:=ih [];cases D:spl [] xs with
    | nil=>exact absurd D (aHX _ _)
    | cons l ls=>rw [D] at A;simp only [aAc,A];simp
   ·rw [ih];simp
def OkT:Tr->Prop
 | .leaf p=>p.k=1->Vt p.t/\10 ∉ p.t
 | .un p x=>0<=p.n/\OkT x
 | .bin _ x y=>OkT x/\OkT y
theorem mD:∀ (T:Tr) (out:List Int),aM T out=(aM T []).map (out++·)
 | .leaf p,out=>by
   simp only [aM]
   split
   ·simp
   ·split
    ·simp
    ·split<;>simp
 | .un p x,out=>by simp only [aM];exact mD x out
 | .bin p x y,out=>by
   simp only [aM]
   split
   ·rw [mD x out];cases aM x [] with
    | none=>rfl
    | some o=>
      simp only [Option.map_some,Option.bind_some];rw [mD y (out++o),mD y o];cases aM y [] with
      | none=>rfl
      | some o2=>simp
   ·exact mD y out
theorem aIu (x y:Tr):aM (sN x y) []=(aM x []).bind fun a=>(aM y []).map (a++·):=by
 simp only [sN,aM,nF,if_true];cases aM x [] with
 | none=>rfl
 | some o=>simp only [Option.bind_some];exact mD y o
theorem pJ:∀ (T:Tr) (o:List Int),OkT T->aM T []=some o->Vt o/\10 ∉ o
 | .leaf p,o,h,hf=>by
   simp only [aM] at hf
   split at hf
   ·cases hf;exact ⟨mO,by simp⟩
   ·split at hf
    ·rename_i hk;cases hf;simpa using h hk
    ·split at hf
     ·cases hf;exact ⟨iW (by simp),by simp⟩
     ·cases hf
 | .un p x,o,h,hf=>pJ x o h.2 hf
 | .bin p x y,o,h,hf=>by
   simp only [aM] at hf
   split at hf
   ·cases D:aM x [] with
    | none=>rw [D] at hf;cases hf
    | some a=>
      rw [D,Option.bind_some,mD] at hf;cases A:aM y [] with
      | none=>rw [A] at hf;cases hf
      | some b=>
        rw [A] at hf;cases hf;obtain ⟨a1,a2⟩:=pJ x a h.1 D;obtain ⟨G,E⟩:=pJ y b h.2 A;exact ⟨kH a1 G,by simp only [List.mem_append,not_or];exact ⟨a2,E⟩⟩
   ·exact pJ y o h.2 hf
theorem aL2 (n:Nat):Vt (List.replicate n 32):=iW (fun x h=>by simp at h;omega)
theorem aKB (n:Nat):10 ∉ List.replicate n (32:Int):=fun h=>by simp at h
theorem aHx (n:Nat):aI (List.replicate n 32)=n:=by
 have h:(List.replicate n (32:Int)).all bW=true:=by simp [bW]
 have e:aP (List.replicate n 32)=List.replicate n 32:=by
  induction n with
  | zero=>rfl
  | succ n ih=>
    have:=ih (by simp [bW]);simp only [List.replicate_succ,aP,List.flatMap_cons] at this ⊢;rw [this,wB 32 (by omega)];rfl
 rw [<- e,iR h];simp
theorem tI (width:Int):∀ (T:Tr) (ind b:Int) (A:List Int),OkT T->0<=ind->Vt A->
  (ly width T ind (aI A) b).2=aI (kZ A (ly width T ind (aI A) b).1)/\Vt (kZ A (ly width T ind (aI A) b).1)
 | .leaf p,ind,b,A,h,hi,hc=>by
   simp only [ly]
   split
   ·rename_i hk
    obtain ⟨D,E⟩:=h hk;simp only [rD E];exact ⟨(aIN hc D).symm,kH hc D⟩
   ·split
    ·exact ⟨by simp only [kZ,if_true];have:=iR (q:=[]) rfl;simpa [aP] using this.symm,by simp only [kZ,if_true];exact mO⟩
    ·split
     ·simp only [bR,aFa,rD (aKB _),List.nil_append,aHx];exact ⟨by omega,aL2 _⟩
     ·exact ⟨rfl,hc⟩
 | .bin p x y,ind,b,A,h,hi,hc=>by
   simp only [ly]
   split
   ·obtain ⟨D,E⟩:=tI width x ind (bhO y b) A h.1 hi hc;rw [D];obtain ⟨J,G⟩:=tI width y ind b _ h.2 hi E;simp only [pZ];exact ⟨J,G⟩
   ·exact tI width x ind b A h.1 hi hc
 | .un p x,ind,b,A,h,hi,hc=>by
   simp only [ly]
   split
   ·exact tI width x _ b A h.2 (by have:=h.1;omega) hc
   ·cases M:aM x [] with
    | none=>exact tI width x ind b A h.2 hi hc
    | some text=>
      simp only
      split
      ·obtain ⟨D,E⟩:=pJ x text h.2 M;simp only [rD E];exact ⟨(aIN hc D).symm,kH hc D⟩
      ·exact tI width x ind b A h.2 hi hc
end Go.Proofs.YtmfehflibkokbaaGreatDoor
namespace Go.Proofs.YtmfehflibkokbaaGreatDoor
open Go.Proofs.Tryz
open Go.RowKit
section
variable (cOk:Cm->Bool) (nOk:List Int->Bool)
def bQ:List Cm->Int
 | []=>0
 | c::cs=>c.t.length+bQ cs
theorem bJ:∀ h,0<=bQ h
 | []=>by simp [bQ]
 | c::h=>by have:=bJ h;simp only [bQ];omega
def nr (n:Nod):Int:=n.key.length+n.U.length+n.X.length+(bQ n.L+bQ n.tail)
def nc (n:Nod):Int:=n.L.length+n.tail.length
theorem rQ (n:Nod):0<=nr n:=by have:=bJ n.L;have:=bJ n.tail;unfold nr;omega
theorem rH (n:Nod):0<=nc n:=by unfold nc;omega
def fB (n:Nod):Prop:=
 (0<=n.k/\n.k<=6)/\n.L.all cOk=true/\n.tail.all cOk=true/\n.key.all bZ=true/\n.U.all bZ=true/\(n.mem=true\/n.key=[])/\(n.k=3->nOk n.X=true)/\(n.k≠3->n.X=[])/\(n.k≠4->n.U=[])/\(n.k<5->n.C=0/\n.tail=[])/\0<=n.C
def zB (n:Nod):Prop:=
 (0<=n.k/\n.k<=6)/\(n.mem=true\/n.key=[])/\(n.k≠3->n.X=[])/\(n.k≠4->n.U=[])/\(5<=n.k->0<=n.C)/\(n.k<5->n.C=0/\n.tail=[])
def aEF:List Cm->Int->Option Int
 | [],r=>some r
 | c::cs,r=>if r - c.t.length<0\/cOk c=false then none else aEF cs (r - c.t.length)
theorem aFK:∀ (y:List Cm) (r:Int),0<=r->aEF cOk y r=if y.all cOk=true/\bQ y<=r then some (r - bQ y) else none
 | [],r,h=>by simp [aEF,bQ,h]
 | c::y,r,h=>by
   have M:=bJ y;simp only [aEF,bQ,List.all_cons]
   by_cases G:r - c.t.length<0
   ·rw [if_pos (.inl G)];exact (if_neg (fun h:(cOk c&&y.all cOk)=true/\(c.t.length:Int)+bQ y<=r=>by have:=h.2;omega)).symm
   ·by_cases E:cOk c=true
    ·have J:(if r - c.t.length<0\/cOk c=false then none else aEF cOk y (r - c.t.length))=aEF cOk y (r - c.t.length):=if_neg (fun h=>h.elim G (fun e=>by rw [E] at e;cases e));rw [J,aFK y _ (by omega)]
     by_cases A:y.all cOk=true/\bQ y<=r - c.t.length
     ·rw [if_pos A];refine Eq.trans ?_ (if_pos (show (cOk c&&y.all cOk)=true/\(c.t.length:Int)+bQ y<=r from ⟨by rw [E,A.1];rfl,by have:=A.2;omega⟩)).symm;congr 1;omega
     ·rw [if_neg A];refine (if_neg (fun h:(cOk c&&y.all cOk)=true/\(c.t.length:Int)+bQ y<=r=>A ⟨?_,by have:=h.2;omega⟩)).symm;have:=h.1;rw [E] at this;simpa only [Bool.true_and] using this
    ·have D:cOk c=false:=(by simpa using E);rw [if_pos (.inr D)];exact (if_neg (fun h:(cOk c&&y.all cOk)=true/\(c.t.length:Int)+bQ y<=r=>by have:=h.1;rw [D] at this;simp at this)).symm
def lU (cs:List Cm) (s:Int × Int):Option (Int × Int):=if s.1 - cs.length<0 then none else (aEF cOk cs s.2).map fun r=>(s.1 - cs.length,r)
theorem lS (y:List Cm) (c r:Int) (D:0<=r):lU cOk y (c,r)=if (y.length:Int)<=c/\y.all cOk=true/\bQ y<=r then some (c - y.length,r - bQ y) else none:=by
 unfold lU
 by_cases h:c - (y.length:Int)<0
 ·rw [if_pos h,if_neg (fun E=>by have:=E.1;omega)]
 ·rw [if_neg h,aFK cOk y r D]
  by_cases A:y.all cOk=true/\bQ y<=r
  ·rw [if_pos A,if_pos ⟨by omega,A⟩];rfl
  ·rw [if_neg A,if_neg (fun h=>A h.2)];rfl
open Classical in
noncomputable def dQ (n:Nod) (s:Int × Int):Option (Int × Int):=
 if ¬ zB n then none
 else if s.2 - n.key.length<0\/n.key.all bZ=false then none
 else if s.2 - n.key.length - n.U.length<0\/n.U.all bZ=false then none
 else if s.2 - n.key.length - n.U.length - n.X.length<0 then none
 else if n.k=3/\nOk n.X=false then none
 else (lU cOk n.L (s.1,s.2 - n.key.length - n.U.length - n.X.length)).bind fun s'=>lU cOk n.tail s'
theorem aGu (n:Nod):fB cOk nOk n ↔ zB n/\n.key.all bZ=true/\n.U.all bZ=true/\(n.k=3->nOk n.X=true)/\n.L.all cOk=true/\n.tail.all cOk=true:=by
 unfold fB zB;constructor
 ·rintro ⟨M,S,J,E,G,O,N,D,Y,y,A⟩;exact ⟨⟨M,O,D,Y,fun _=>A,y⟩,E,G,N,S,J⟩
 ·rintro ⟨⟨M,O,D,Y,A,y⟩,E,G,N,S,J⟩;refine ⟨M,S,J,E,G,O,N,D,Y,y,?_⟩
  by_cases h:5<=n.k
  ·exact A h
  ·have:=(y (by omega)).1;omega
open Classical in
theorem aBV (n:Nod) (c r:Int):dQ cOk nOk n (c,r)=if fB cOk nOk n/\nc n<=c/\nr n<=r then some (c - nc n,r - nr n) else none:=by
 have s1:=bJ n.L;have s2:=bJ n.tail;rw [aGu];unfold dQ nc nr
 by_cases D:zB n
 ·rw [if_neg (by simpa using D)]
  by_cases J:r - n.key.length<0\/n.key.all bZ=false
  ·rw [if_pos J,if_neg];rintro ⟨⟨_,O,_⟩,_,b⟩;rcases J with h | h
   ·omega
   ·rw [O] at h;cases h
  ·rw [if_neg J]
   by_cases A:r - n.key.length - n.U.length<0\/n.U.all bZ=false
   ·rw [if_pos A,if_neg];rintro ⟨⟨_,_,N,_⟩,_,b⟩;rcases A with h | h
    ·omega
    ·rw [N] at h;cases h
   ·rw [if_neg A]
    by_cases S:r - n.key.length - n.U.length - n.X.length<0
    ·rw [if_pos S,if_neg (by rintro ⟨_,_,b⟩;omega)]
    ·rw [if_neg S]
     by_cases y:n.k=3/\nOk n.X=false
     ·rw [if_pos y,if_neg];rintro ⟨⟨_,_,_,M,_⟩,_⟩;have:=M y.1;rw [y.2] at this;cases this
     ·rw [if_neg y];have O:n.key.all bZ=true:=eq_true_of_ne_false (fun h=>J (.inr h));have N:n.U.all bZ=true:=eq_true_of_ne_false (fun h=>A (.inr h));have M:n.k=3->nOk n.X=true:=fun Z=>eq_true_of_ne_false (fun h=>y ⟨Z,h⟩);rw [lS cOk n.L c _ (by omega)]
      by_cases G:(n.L.length:Int)<=c/\n.L.all cOk=true/\bQ n.L<=r - n.key.length - n.U.length - n.X.length
      ·rw [if_pos G,Option.bind_some,lS cOk n.tail _ _ (by omega)]
       by_cases E:(n.tail.length:Int)<=c - n.L.length/\n.tail.all cOk=true/\bQ n.tail<=r - n.key.length - n.U.length - n.X.length - bQ n.L
       ·rw [if_pos E,if_pos ⟨⟨D,O,N,M,G.2.1,E.2.1⟩,by omega,by omega⟩];congr 1;rw [Prod.mk.injEq];constructor<;>omega
       ·rw [if_neg E,if_neg];rintro ⟨⟨_,_,_,_,_,a⟩,b,Y⟩;exact E ⟨by omega,a,by omega⟩
      ·rw [if_neg G,Option.bind_none,if_neg];rintro ⟨⟨_,_,_,_,a,_⟩,b,Y⟩;exact G ⟨by omega,a,by omega⟩
 ·rw [if_pos (by simpa using D),if_neg (fun h=>D h.1.1)]
def eY:List Nod->Int
 | []=>0
 | n::ns=>nr n+eY ns
def fR:List Nod->Int
 | []=>0
 | n::ns=>nc n+fR ns
theorem hZ:∀ h,0<=eY h
 | []=>by simp [eY]
 | n::h=>by have:=hZ h;have:=rQ n;simp only [eY];omega
theorem gT:∀ h,0<=fR h
 | []=>by simp [fR]
 | n::h=>by have:=gT h;have:=rH n;simp only [fR];omega
theorem aCL:∀ (y:List Nod) (c r:Int) (x:Int × Int),0<=c->0<=r->(nT (dQ cOk nOk) y (c,r)=some x ↔ (∀ n∈y,fB cOk nOk n)/\fR y<=c/\eY y<=r/\x=(c - fR y,r - eY y))
 | [],c,r,x,hc,hr=>by
   simp only [nT,Option.some.injEq,fR,eY,Int.sub_zero];constructor
   ·intro h;exact ⟨by simp,hc,hr,h.symm⟩
   ·rintro ⟨_,_,_,h⟩;exact h.symm
 | n::y,c,r,x,hc,hr=>by
   have a1:=hZ y;have a2:=gT y;have O:=rQ n;have N:=rH n;simp only [nT,aBV cOk nOk n c r,fR,eY]
   by_cases h:fB cOk nOk n/\nc n<=c/\nr n<=r
   ·rw [if_pos h,Option.bind_some,aCL y _ _ x (by omega) (by omega)];constructor
    ·rintro ⟨D,J,G,E⟩;refine ⟨fun q A=>?_,by omega,by omega,by rw [E,Prod.mk.injEq];constructor<;>omega⟩;simp only [List.mem_cons] at A;rcases A with rfl | A
     ·exact h.1
     ·exact D q A
    ·rintro ⟨D,J,G,E⟩;exact ⟨fun q A=>D q (by simp [A]),by omega,by omega,by rw [E,Prod.mk.injEq];constructor<;>omega⟩
   ·rw [if_neg h,Option.bind_none];constructor
    ·intro M;cases M
    ·rintro ⟨D,J,G,_⟩;exact absurd ⟨D n (by simp),by omega,by omega⟩ h
theorem aEc (y:List Nod) (tail:List Cm) :
  (∃ s x,aE (dQ cOk nOk) 201 false (y,(4000,100000))=some ([],s)/\lU cOk tail s=some x) ↔
  (eY y+bQ tail<=100000/\fR y+tail.length<=4000/\tail.all cOk=true/\(∀ n∈y,fB cOk nOk n)/\gR y.length 201 false y=some []):=by
 have a1:=hZ y;have a2:=gT y;have a3:=bJ tail
 have D:(aE bC 201 false (y,())=some ([],())) ↔ gR y.length 201 false y=some []:=by
  rw [<- qD y.length 201 false y (Nat.le_refl _)];cases gR y.length 201 false y with
  | none=>simp
  | some R=>simp
 constructor
 ·rintro ⟨s,x,O,A⟩;obtain ⟨g,f⟩:=(aDm _ 201 false y (4000,100000) s).1 O;obtain ⟨J,X,S,N⟩:=(aCL cOk nOk y 4000 100000 s (by omega) (by omega)).1 f;subst N;rw [lS cOk tail _ _ (by omega)] at A
  by_cases h:(tail.length:Int)<=4000 - fR y/\tail.all cOk=true/\bQ tail<=100000 - eY y
  ·exact ⟨by omega,by omega,h.2.1,J,D.1 g⟩
  ·rw [if_neg h] at A;cases A
 ·rintro ⟨U,Y,M,E,G⟩;refine ⟨(4000 - fR y,100000 - eY y),(4000 - fR y - tail.length,100000 - eY y - bQ tail),?_,?_⟩
  ·exact (aDm _ 201 false y (4000,100000) _).2 ⟨D.2 G,(aCL cOk nOk y 4000 100000 _ (by omega) (by omega)).2 ⟨E,by omega,by omega,rfl⟩⟩
  ·rw [lS cOk tail _ _ (by omega),if_pos ⟨by omega,M,by omega⟩]
end
theorem rI {σ:Type} (f:σ->Option σ):∀ (a b:Nat) (s:σ),aO f (a+b) s=(aO f a s).bind (aO f b)
 | 0,b,s=>by simp [aO]
 | a+1,b,s=>by
   rw [show a+1+b=(a+b)+1 by omega];simp only [aO];cases f s with
   | none=>rfl
   | some s'=>exact rI f a b s'
theorem oL {σ:Type} (f:σ->Option σ) (k:Nat) (s:σ):aO f (k+1) s=(aO f k s).bind f:=by
 rw [rI f k 1 s];cases aO f k s with
 | none=>rfl
 | some s'=>simp only [Option.bind_some,aO];cases f s'<;>rfl
theorem tF (D d:Nat) (m:Bool) (y:List Nod) (J:y.length<=D) (j:Nat) (R:List Nod) (h:gR D d m (y.drop j)=some R):∃ i,i<=y.length/\R=y.drop i:=by
 have G:=qD D d m (y.drop j) (by simp;omega);rw [h] at G;obtain ⟨P,r⟩:=(bU bC d m).2 (y.drop j) R G.symm;have E:y=(y.take j++P)++R:=(by rw [List.append_assoc,<- r,List.take_append_drop]);generalize y.take j++P=A at E;refine ⟨A.length,by rw [E];simp,by rw [E];simp⟩
def cW (len:Nat):Option (List Nod)->Int
 | none=>-1
 | some R=>len - R.length
theorem aBB (t:Tre) (hn:t.N.length<=1048576) (hc:∀ p∈t.N,p.k<5->p.C=0) (hb:∀ p∈t.N,-9223372036854775808<=p.C/\p.C<=9223372036854775807):∀ (d:Nat),d<=201->∀ (i:Nat) (m:Bool) (nv tv:Value) (w:World),i<=t.N.length->eF w.heap.size w nv tv t->
  Calls prog 36 #[.agg #[nv,tv],.int .i64 i,.bool m,.int .i64 d] w fun e w'=>e=.returned (.int .i64 (cW t.N.length (gR t.N.length (d+1) m (t.N.drop i))))/\w.grownBy w' none:=by
 intro d
 induction d using Nat.strongRecOn with
 | ind d ih=>
   intro hd i m nv tv w hi hv;obtain ⟨c7,c6⟩:=id hv;obtain ⟨na,D,f6,_⟩:=id c7;obtain ⟨ta,A,g0,_⟩:=id c6;have HV:=aB hv;have IH:=aB ih;subst f6 g0;clear c7 c6 hv ih
   by_cases a4:i<t.N.length
   ·obtain ⟨b,off,g5,lv,kv,xv,uv,i4,f7,h6,J⟩:=HV.out.1.at i a4;cases f7;have z0:=J.k;have z1:=J.L;have z2:=J.mem;have z3:=J.key;have z4:=J.X;have z5:=J.U;have z6:=J.C;have z7:=J.tail;obtain ⟨la,a7,b6,_,_⟩:=J.rl.sl;obtain ⟨qa,b1,b9,_,_⟩:=J.rt.sl;obtain ⟨ka,b0,b7,_,_⟩:=J.sk;obtain ⟨xa,a9,c0,_,_⟩:=J.sx;obtain ⟨ua,a6,c5,_,_⟩:=J.su;have b2:=hc _ (List.getElem_mem a4);have b3:=hb _ (List.getElem_mem a4);have Z:t.N.drop i=t.N[i]::t.N.drop (i+1):=List.drop_eq_getElem_cons a4;have aw:∀ (n:Nat),w.grownBy ((w.alloc (Obj.cells #[.slice (some ⟨b,off,none⟩) t.N.length D,.slice ta t.tail.length A] 26)).drewN n) none:=fun n=>cO gWA n;have f9:=(World.grownBy_alloc w (Obj.cells #[.slice (some ⟨b,off,none⟩) t.N.length D,.slice ta t.tail.length A] 26) none).cell z2 (by simp)
    by_cases hm:t.N[i].mem=m
    ·subst hm
     have E:gR t.N.length (d+1) t.N[i].mem (t.N.drop i)=if ((t.N.length:Int)<t.N[i].C\/(5<=t.N[i].k/\d=0)) then none else aO (gR t.N.length d (decide (t.N[i].k=6))) t.N[i].C.toNat (t.N.drop (i+1)):=by
      rw [Z];simp only [gR,ne_eq,not_true_eq_false,if_false]
     subst b6 b9 b7 c0 c5;clear J
     by_cases S:(t.N.length:Int)<t.N[i].C\/(5<=t.N[i].k/\d=0)
     ·rw [if_pos S] at E;have M:Hid (cW t.N.length (gR t.N.length (d+1) t.N[i].mem (t.N.drop i)) = -1):=(by unfold Hid;rw [E];rfl);clear E Z;generalize t.N[i]=p at *
      by_cases d4:(t.N.length:Int)<p.C
      ·go_enter func36,ntmps36
       go_wp2;go_ret;exact ⟨by rw [M.out];rfl,aA gWA gWA⟩
      ·obtain ⟨c4,d2⟩:=S.resolve_left d4;subst d2
       go_enter func36,ntmps36
       go_wp2;go_ret;exact ⟨by rw [M.out];rfl,aA gWA gWA⟩
     ·rw [if_neg S] at E;obtain ⟨c1,a5⟩:=not_or.1 S;have f8:t.N[i].C<=t.N.length:=(by omega);have f4:5<=t.N[i].k->d≠0:=fun h e=>a5 ⟨h,e⟩;have Y:=aB E;have d8:=aB b2;clear E Z S c1 a5 b2;have i2:=b3.1;have h9:=b3.2;generalize t.N[i]=p at *
      by_cases c4:5<=p.k
      ·have g8:=f4 c4;have h0:(0:Int)<d:=(by omega);have h2:((d:Int)==0)=false:=by simp;omega
       go_enter func36,ntmps36
       go_wp2
       have HC:Hid (∀ wr:World,((w.alloc (Obj.cells #[.slice (some ⟨b,off,none⟩) t.N.length D,.slice ta t.tail.length A] 26)).alloc (Obj.cells #[.int .i64 p.k,.slice la p.L.length a7,.bool p.mem,.slice ka p.key.length b0,.slice xa p.X.length a9,.slice ua p.U.length a6,.int .i64 p.C,.slice qa p.tail.length b1] 35)).grownBy wr none->(wr.cell? ⟨w.heap.size,0,none⟩=some (.slice (some ⟨b,off,none⟩) t.N.length D)/\wr.cell? ⟨w.heap.size,1,none⟩=some (.slice ta t.tail.length A))/\wr.cell? ⟨w.heap.size+1,0,none⟩=some (.int .i64 p.k)/\wr.cell? ⟨w.heap.size+1,6,none⟩=some (.int .i64 p.C)):=fun wr g=>
        ⟨⟨g.cell (by simp [go_sem]) (by simp),g.cell (by simp [go_sem]) (by simp)⟩,g.cell (by simp [go_sem]) (by simp),g.cell (by simp [go_sem]) (by simp)⟩
       go_loopw [10,11] (fun c9 kk wr=>∃ k j:Nat,kk=.int .i64 k/\c9=.int .i64 j/\(k:Int)<=p.C.toNat/\j<=t.N.length/\Hid (aO (gR t.N.length d (decide (p.k=6))) k (t.N.drop (i+1))=some (t.N.drop j))/\((w.alloc (Obj.cells #[.slice (some ⟨b,off,none⟩) t.N.length D,.slice ta t.tail.length A] 26)).alloc (Obj.cells #[.int .i64 p.k,.slice la p.L.length a7,.bool p.mem,.slice ka p.key.length b0,.slice xa p.X.length a9,.slice ua p.U.length a6,.int .i64 p.C,.slice qa p.tail.length b1] 35)).grownBy wr none) (fun _ kk _=>p.C.toNat - (intOf kk).toNat)
       case atStart=>exact ⟨0,i+1,rfl,by go_num,by omega,by omega,rfl,World.grownBy.refl _ _⟩
       case round=>
        obtain ⟨k,j,rfl,rfl,hk,hj,HL,O⟩:=hrel;obtain ⟨⟨y0,y1⟩,y2,y3⟩:=HC.out wr O;have G:=aA (aA (World.grownBy_alloc w _ none) (World.grownBy_alloc _ _ none)) O
        by_cases g9:(k:Int)<p.C
        ·have CI:=aB (IH.out (d - 1) (by omega) (by omega) j (decide (p.k=6)) (.slice (some ⟨b,off,none⟩) t.N.length D) (.slice ta t.tail.length A) wr hj ⟨(HV.out.1.K G).wide G.size,(HV.out.2.K G).wide G.size⟩);rw [show d - 1+1=d by omega,show ((d - 1:Nat):Int)=(d:Int) - 1 by omega] at CI;have HG:=aB G;have d6:=aB O;clear O G;cases y:gR t.N.length d (decide (p.k=6)) (t.N.drop j) with
         | none=>
           rw [y] at CI
           have M:Hid (cW t.N.length (gR t.N.length (d+1) p.mem (t.N.drop i)) = -1):=by
            unfold Hid;rw [Y.out,show p.C.toNat=k+((p.C.toNat - k - 1)+1) by omega,rI,HL.out,Option.bind_some];simp only [aO,y,Option.bind_none,cW]
           clear y
           go_wp2_with fail
           refine CI.out.mono ?_;rintro e w2 ⟨rfl,g2⟩;simp only [cW];go_wp2;go_ret;exact ⟨by rw [M.out];rfl,aA HG.out g2⟩
         | some R=>
           rw [y] at CI;obtain ⟨j',d1,hR⟩:=tF t.N.length d _ t.N (Nat.le_refl _) j R y;subst hR;have a8:cW t.N.length (some (t.N.drop j'))=(j':Int):=(by simp only [cW,List.length_drop];omega);rw [a8] at CI
           have f5:Hid (aO (gR t.N.length d (decide (p.k=6))) (k+1) (t.N.drop (i+1))=some (t.N.drop j')):=by
            unfold Hid;rw [oL,HL.out,Option.bind_some];exact y
           clear y a8
           go_wp2_with fail
           refine CI.out.mono ?_;rintro e w2 ⟨rfl,g2⟩;go_wp2
           go_roundw
           case rel=>exact ⟨k+1,j',by go_num,rfl,by omega,d1,f5,aA d6.out g2⟩
           case measure=>simp [intOf];omega
        ·have c3:p.C.toNat=k:=by omega
         have M:Hid (cW t.N.length (gR t.N.length (d+1) p.mem (t.N.drop i))=j):=by
          unfold Hid;rw [Y.out,c3,HL.out];simp only [cW,List.length_drop];omega
         have HG:=aB G;clear O G c3;go_wp2;go_ret;exact ⟨by rw [M.out];rfl,HG.out⟩
      ·have c2:=d8.out (by omega)
       have M:Hid (cW t.N.length (gR t.N.length (d+1) p.mem (t.N.drop i))=(i:Int)+1):=by
        unfold Hid;rw [Y.out,c2];simp only [Int.toNat_zero,aO,cW,List.length_drop];omega
       rw [c2] at z6
       go_enter func36,ntmps36
       go_wp2;refine wp_loop_rounds 1 ?_;rw [rounds_succ];go_wp2;go_ret;exact ⟨by rw [M.out];rfl,aA gWA gWA⟩
    ·have M:Hid (cW t.N.length (gR t.N.length (d+1) m (t.N.drop i)) = -1):=by
      unfold Hid;rw [Z];simp [gR,hm,cW]
     have b8:t.N[i].mem = !m:=(by cases hq:t.N[i].mem<;>cases m<;>simp_all);rw [b8] at z2;clear f9;subst b6 b9 b7 c0 c5;clear J hm b8 b2 b3 Z;generalize t.N[i]=p at *;cases m <;>
     ·simp only [Bool.not_true,Bool.not_false] at z2
      go_enter func36,ntmps36
      go_wp2;go_ret;exact ⟨by rw [M.out];rfl,gWA⟩
   ·have M:Hid (cW t.N.length (gR t.N.length (d+1) m (t.N.drop i)) = -1):=by
     unfold Hid;rw [List.drop_eq_nil_of_le (by omega)];rfl
    have i0:(t.N.length:Int)<=i:=by omega
    go_enter func36,ntmps36
    go_wp2;go_ret;exact ⟨by rw [M.out];rfl,gWA⟩
end Go.Proofs.YtmfehflibkokbaaGreatDoor
