import Derived.Handy
import Derived.Test.YtckcaefnokeodaaGreatDoorMAD
set_option maxHeartbeats 16000000
set_option maxRecDepth 100000
namespace Go.Proofs.YtckcaefnokeodaaGreatDoor
open Go.Proofs.Tryz List World
section
open Go.RowKit
def aN {σ:Type} (f:σ->Option σ):Nat->σ->Option σ
 | 0,s=>some s
 | k+1,s=>(f s).bind (aN f k)
def aE {σ:Type} (chk:Nod->σ->Option σ):Nat->Bool->List Nod × σ->Option (List Nod × σ)
 | 0,_,_=>none
 | _+1,_,([],_)=>none
 | d+1,m,(n::R,s)=>if n.mem≠m then none else (chk n s).bind fun s'=>if 5<=n.k/\d=0 then none else aN (aE chk d (decide (n.k=6))) n.C.toNat (R,s')
def pD {σ:Type} (chk:Nod->σ->Option σ):List Nod->σ->Option σ
 | [],s=>some s
 | n::P,s=>(chk n s).bind (pD chk P)
theorem qK {σ:Type} (h:Nod->σ->Option σ):∀ (P Q:List Nod) (s:σ),pD h (P++Q) s=(pD h P s).bind (pD h Q)
 | [],Q,s=>rfl
 | n::P,Q,s=>by
   simp only [cons_append,pD];cases h n s with
   | none=>rfl
   | some s'=>exact qK h P Q s'
def bD (_:Nod) (u:Unit):Option Unit:=some u
def aFh {σ:Type} (chk:Nod->σ->Option σ) (f:List Nod × σ->Option (List Nod × σ)) (g:List Nod × Unit->Option (List Nod × Unit)):Prop:=
 ∀ (R:List Nod) (s:σ) (R2:List Nod) (s2:σ),f (R,s)=some (R2,s2) ↔ ∃ P,R=P++R2/\g (R,())=some (R2,())/\pD chk P s=some s2
def aKE (g:List Nod × Unit->Option (List Nod × Unit)):Prop:=∀ R R2,g (R,())=some (R2,())->∃ P,R=P++R2
theorem iO {σ:Type} {S:Nod->σ->Option σ} {f:List Nod × σ->Option (List Nod × σ)} {g:List Nod × Unit->Option (List Nod × Unit)} (h:aFh S f g) (he:aKE g):∀ k,aFh S (aN f k) (aN g k)/\aKE (aN g k)
 | 0=>by
   refine ⟨fun R s D s2=>⟨fun h=>?_,fun ⟨P,h1,h2,h3⟩=>?_⟩,fun R D h=>?_⟩
   .simp only [aN,Option.some.injEq,Prod.mk.injEq] at h;obtain ⟨rfl,rfl⟩:=h;exact ⟨[],rfl,rfl,rfl⟩
   .simp only [aN,Option.some.injEq,Prod.mk.injEq,and_true] at h2;subst h2;have Z:P=[]:=(by simpa using h1);subst Z;simp only [pD,Option.some.injEq] at h3;subst h3;rfl
   .simp only [aN,Option.some.injEq,Prod.mk.injEq,and_true] at h;exact ⟨[],by simpa using h⟩
 | k+1=>by
   obtain ⟨ih,O⟩:=iO h he k;refine ⟨fun R s D s2=>⟨fun Y=>?_,fun ⟨P,h1,h2,h3⟩=>?_⟩,fun R D Y=>?_⟩
   .simp only [aN,Option.bind_eq_some_iff] at Y;obtain ⟨⟨A,N⟩,e1,e2⟩:=Y;obtain ⟨E,H,G,f1⟩:=(h R s A N).1 e1;obtain ⟨F,J,M,f2⟩:=(ih A N D s2).1 e2;refine ⟨E++F,by rw [H,J,append_assoc],?_,?_⟩
    .simp only [aN,G,Option.bind_some];exact M
    .rw [qK,f1];exact f2
   .simp only [aN,Option.bind_eq_some_iff] at h2;obtain ⟨⟨A,⟨⟩⟩,G,M⟩:=h2;obtain ⟨E,H⟩:=he R A G;obtain ⟨F,J⟩:=O A D M
    have Z:P=E++F:=by
     have:P++D=(E++F)++D:=by rw [<- h1,H,J,append_assoc]
     exact append_cancel_right this
    rw [Z,qK,Option.bind_eq_some_iff] at h3;obtain ⟨N,f1,f2⟩:=h3;have e1:=(h R s A N).2 ⟨E,H,G,f1⟩;have e2:=(ih A N D s2).2 ⟨F,J,M,f2⟩;simp only [aN,e1,Option.bind_some];exact e2
   .simp only [aN,Option.bind_eq_some_iff] at Y;obtain ⟨⟨A,⟨⟩⟩,G,M⟩:=Y;obtain ⟨E,H⟩:=he R A G;obtain ⟨F,J⟩:=O A D M;exact ⟨E++F,by rw [H,J,append_assoc]⟩
theorem cB {σ:Type} (A:Nod->σ->Option σ):∀ (d:Nat) (m:Bool),aFh A (aE A d m) (aE bD d m)/\aKE (aE bD d m)
 | 0,m=>⟨fun R s D Y=>by simp [aE],fun R D h=>by simp [aE] at h⟩
 | d+1,m=>by
   have N:=fun Z k=>iO (cB A d Z).1 (cB A d Z).2 k;refine ⟨fun R s D Y=>?_,fun R D F=>?_⟩
   .cases R with
    | nil=>simp [aE]
    | cons n R=>
      by_cases E:n.mem≠m
      .simp [aE,E]
      .by_cases G:5<=n.k/\d=0
       .simp [aE,E,G,bD]
       .have e1:aE A (d+1) m (n::R,s)=(A n s).bind fun H=>aN (aE A d (decide (n.k=6))) n.C.toNat (R,H):=(by simp only [aE,if_neg E,if_neg G]);have e2:aE bD (d+1) m (n::R,())=aN (aE bD d (decide (n.k=6))) n.C.toNat (R,()):=(by simp only [aE,if_neg E,if_neg G,bD,Option.bind_some]);rw [e1,e2];constructor
        .intro F;rw [Option.bind_eq_some_iff] at F;obtain ⟨H,S,O⟩:=F;obtain ⟨P,r,g,f⟩:=((N _ _).1 R H D Y).1 O;exact ⟨n::P,by rw [r];rfl,g,by simp only [pD,S,Option.bind_some];exact f⟩
        .rintro ⟨P,r,g,f⟩;obtain ⟨J,M⟩:=(N _ _).2 R D g
         have hP:P=n::J:=by
          have:P++D=(n::J)++D:=by rw [<- r,M];rfl
          exact append_cancel_right this
         rw [hP] at f;simp only [pD,Option.bind_eq_some_iff] at f;obtain ⟨H,S,O⟩:=f;rw [Option.bind_eq_some_iff];exact ⟨H,S,((N _ _).1 R H D Y).2 ⟨J,M,g,O⟩⟩
   .cases R with
    | nil=>simp [aE] at F
    | cons n R=>
      by_cases E:n.mem≠m
      .simp [aE,E] at F
      .by_cases G:5<=n.k/\d=0
       .simp [aE,E,G,bD] at F
       .simp only [aE,if_neg E,if_neg G,bD,Option.bind_some] at F;obtain ⟨J,M⟩:=(N _ _).2 R D F;exact ⟨n::J,by rw [M];rfl⟩
theorem aE8 {σ:Type} (h:Nod->σ->Option σ) (d m) (R:List Nod) (s A:σ):aE h d m (R,s)=some ([],A) ↔ aE bD d m (R,())=some ([],())/\pD h R s=some A:=by
 rw [(cB h d m).1 R s [] A];constructor
 .rintro ⟨P,r,g,f⟩;have:R=P:=by simpa using r
  subst this;exact ⟨g,f⟩
 .rintro ⟨g,f⟩;exact ⟨R,by simp,g,f⟩
theorem aHF (d m) (R A:List Nod) (h:aE bD d m (R,())=some (A,())):A.length<R.length:=by
 cases d with
 | zero=>simp [aE] at h
 | succ d=>
   cases R with
   | nil=>simp [aE] at h
   | cons n R=>
     by_cases D:n.mem≠m
     .simp [aE,D] at h
     .by_cases E:5<=n.k/\d=0
      .simp [aE,D,E,bD] at h
      .simp only [aE,if_neg D,if_neg E,bD,Option.bind_some] at h;obtain ⟨P,r⟩:=(iO (cB bD d _).1 (cB bD d _).2 _).2 R A h;rw [r];simp;omega
theorem aCF (d m):∀ (k:Nat) (R:List Nod),R.length<k->aN (aE bD d m) k (R,())=none
 | 0,R,h=>by omega
 | k+1,R,h=>by
   simp only [aN];cases D:aE bD d m (R,()) with
   | none=>rfl
   | some x=>
     obtain ⟨A,⟨⟩⟩:=x;have:=aHF d m R A D;exact aCF d m k A (by omega)
def iK (len:Nat):Nat->Bool->List Nod->Option (List Nod)
 | 0,_,_=>none
 | _+1,_,[]=>none
 | d+1,m,n::R=>if n.mem≠m then none else if (len:Int)<n.C\/(5<=n.k/\d=0) then none else aN (iK len d (decide (n.k=6))) n.C.toNat R
theorem aCM (f:List Nod->Option (List Nod)) (g:List Nod × Unit->Option (List Nod × Unit)) (A:Nat) (h:∀ R,R.length<=A->(f R).map (fun x=>(x,()))=g (R,())) (F:aKE g):∀ (k:Nat) (R:List Nod),R.length<=A->(aN f k R).map (fun x=>(x,()))=aN g k (R,())
 | 0,R,_=>rfl
 | k+1,R,hl=>by
   simp only [aN];have D:=h R hl;cases E:f R with
   | none=>rw [E] at D;simp only [Option.map_none] at D;rw [<- D];rfl
   | some R1=>
     rw [E] at D;simp only [Option.map_some] at D;rw [<- D];obtain ⟨P,r⟩:=F R R1 D.symm;exact aCM f g A h F k R1 (by rw [r] at hl;simp at hl;omega)
theorem qY (h:Nat):∀ (d:Nat) (m:Bool) (R:List Nod),R.length<=h->(iK h d m R).map (fun x=>(x,()))=aE bD d m (R,())
 | 0,_,_,_=>rfl
 | _+1,_,[],_=>rfl
 | d+1,m,n::R,hl=>by
   by_cases A:n.mem≠m
   .simp [iK,aE,A]
   .by_cases D:5<=n.k/\d=0
    .simp [iK,aE,A,D,bD]
    .have E:aE bD (d+1) m (n::R,())=aN (aE bD d (decide (n.k=6))) n.C.toNat (R,()):=(by simp only [aE,if_neg A,if_neg D,bD,Option.bind_some]);rw [E]
     by_cases F:(h:Int)<n.C
     .rw [aCF d _ _ R (by simp at hl;omega)];simp [iK,A,F]
     .have G:iK h (d+1) m (n::R)=aN (iK h d (decide (n.k=6))) n.C.toNat R:=(by simp only [iK,if_neg A];rw [if_neg (by omega)]);rw [G];exact aCM _ _ h (fun J H=>qY h d _ J H) (cB bD d _).2 _ R (by simp at hl;omega)
section
variable (cOk:Cm->Bool) (nOk:List Int->Bool)
def bY:List Cm->Int
 | []=>0
 | c::cs=>c.t.length+bY cs
theorem bN:∀ h,0<=bY h
 | []=>by simp [bY]
 | c::h=>by have:=bN h;simp only [bY];omega
def nr (n:Nod):Int:=n.key.length+n.U.length+n.X.length+(bY n.L+bY n.tail)
def nc (n:Nod):Int:=n.L.length+n.tail.length
theorem tB (n:Nod):0<=nr n:=by have:=bN n.L;have:=bN n.tail;unfold nr;omega
theorem sX (n:Nod):0<=nc n:=by unfold nc;omega
def fS (n:Nod):Prop:=
 (0<=n.k/\n.k<=6)/\n.L.all cOk=true/\n.tail.all cOk=true/\n.key.all cD=true/\n.U.all cD=true/\(n.mem=true\/n.key=[])/\(n.k=3->nOk n.X=true)/\(n.k≠3->n.X=[])/\(n.k≠4->n.U=[])/\(n.k<5->n.C=0/\n.tail=[])/\0<=n.C
def aAI (n:Nod):Prop:=
 (0<=n.k/\n.k<=6)/\(n.mem=true\/n.key=[])/\(n.k≠3->n.X=[])/\(n.k≠4->n.U=[])/\(5<=n.k->0<=n.C)/\(n.k<5->n.C=0/\n.tail=[])
def aFV:List Cm->Int->Option Int
 | [],r=>some r
 | c::cs,r=>if r - c.t.length<0\/cOk c=false then none else aFV cs (r - c.t.length)
theorem aGp:∀ (A:List Cm) (r:Int),0<=r->aFV cOk A r=if A.all cOk=true/\bY A<=r then some (r - bY A) else none
 | [],r,h=>by simp [aFV,bY,h]
 | c::A,r,h=>by
   have J:=bN A;simp only [aFV,bY,all_cons]
   by_cases G:r - c.t.length<0
   .rw [if_pos (.inl G)];exact (if_neg (fun h:(cOk c&&A.all cOk)=true/\(c.t.length:Int)+bY A<=r=>by have:=h.2;omega)).symm
   .by_cases F:cOk c=true
    .have H:(if r - c.t.length<0\/cOk c=false then none else aFV cOk A (r - c.t.length))=aFV cOk A (r - c.t.length):=if_neg (fun h=>h.elim G (fun e=>by rw [F] at e;cases e));rw [H,aGp A _ (by omega)]
     by_cases E:A.all cOk=true/\bY A<=r - c.t.length
     .rw [if_pos E];refine Eq.trans ?_ (if_pos (show (cOk c&&A.all cOk)=true/\(c.t.length:Int)+bY A<=r from ⟨by rw [F,E.1];rfl,by have:=E.2;omega⟩)).symm;congr 1;omega
     .rw [if_neg E];refine (if_neg (fun h:(cOk c&&A.all cOk)=true/\(c.t.length:Int)+bY A<=r=>E ⟨?_,by have:=h.2;omega⟩)).symm;have:=h.1;rw [F] at this;simpa only [Bool.true_and] using this
    .have D:cOk c=false:=(by simpa using F);rw [if_pos (.inr D)];exact (if_neg (fun h:(cOk c&&A.all cOk)=true/\(c.t.length:Int)+bY A<=r=>by have:=h.1;rw [D] at this;simp at this)).symm
def mW (cs:List Cm) (s:Int × Int):Option (Int × Int):=if s.1 - cs.length<0 then none else (aFV cOk cs s.2).map fun r=>(s.1 - cs.length,r)
theorem mT (A:List Cm) (c r:Int) (F:0<=r):mW cOk A (c,r)=if (A.length:Int)<=c/\A.all cOk=true/\bY A<=r then some (c - A.length,r - bY A) else none:=by
 unfold mW
 by_cases h:c - (A.length:Int)<0
 .rw [if_pos h,if_neg (fun E=>by have:=E.1;omega)]
 .rw [if_neg h,aGp cOk A r F]
  by_cases D:A.all cOk=true/\bY A<=r
  .rw [if_pos D,if_pos ⟨by omega,D⟩];rfl
  .rw [if_neg D,if_neg (fun h=>D h.2)];rfl
open Classical in
noncomputable def dV (n:Nod) (s:Int × Int):Option (Int × Int):=
 if ¬ aAI n then none
 else if s.2 - n.key.length<0\/n.key.all cD=false then none
 else if s.2 - n.key.length - n.U.length<0\/n.U.all cD=false then none
 else if s.2 - n.key.length - n.U.length - n.X.length<0 then none
 else if n.k=3/\nOk n.X=false then none
 else (mW cOk n.L (s.1,s.2 - n.key.length - n.U.length - n.X.length)).bind fun s'=>mW cOk n.tail s'
theorem aHo (n:Nod):fS cOk nOk n ↔ aAI n/\n.key.all cD=true/\n.U.all cD=true/\(n.k=3->nOk n.X=true)/\n.L.all cOk=true/\n.tail.all cOk=true:=by
 unfold fS aAI;constructor
 .rintro ⟨J,N,O,E,F,H,M,G,S,A,D⟩;exact ⟨⟨J,H,G,S,fun _=>D,A⟩,E,F,M,N,O⟩
 .rintro ⟨⟨J,H,G,S,D,A⟩,E,F,M,N,O⟩;refine ⟨J,N,O,E,F,H,M,G,S,A,?_⟩
  by_cases h:5<=n.k
  .exact D h
  .have:=(A (by omega)).1;omega
open Classical in
theorem aDe (n:Nod) (c r:Int):dV cOk nOk n (c,r)=if fS cOk nOk n/\nc n<=c/\nr n<=r then some (c - nc n,r - nr n) else none:=by
 have Z:=bN n.L;have s2:=bN n.tail;rw [aHo];unfold dV nc nr
 by_cases E:aAI n
 .rw [if_neg (by simpa using E)]
  by_cases G:r - n.key.length<0\/n.key.all cD=false
  .rw [if_pos G,if_neg];rintro ⟨⟨_,N,_⟩,_,b⟩;rcases G with h | h
   .omega
   .rw [N] at h;cases h
  .rw [if_neg G]
   by_cases H:r - n.key.length - n.U.length<0\/n.U.all cD=false
   .rw [if_pos H,if_neg];rintro ⟨⟨_,_,J,_⟩,_,b⟩;rcases H with h | h
    .omega
    .rw [J] at h;cases h
   .rw [if_neg H]
    by_cases O:r - n.key.length - n.U.length - n.X.length<0
    .rw [if_pos O,if_neg (by rintro ⟨_,_,b⟩;omega)]
    .rw [if_neg O]
     by_cases A:n.k=3/\nOk n.X=false
     .rw [if_pos A,if_neg];rintro ⟨⟨_,_,_,M,_⟩,_⟩;have:=M A.1;rw [A.2] at this;cases this
     .rw [if_neg A];have N:n.key.all cD=true:=eq_true_of_ne_false (fun h=>G (.inr h));have J:n.U.all cD=true:=eq_true_of_ne_false (fun h=>H (.inr h));have M:n.k=3->nOk n.X=true:=fun S=>eq_true_of_ne_false (fun h=>A ⟨S,h⟩);rw [mT cOk n.L c _ (by omega)]
      by_cases D:(n.L.length:Int)<=c/\n.L.all cOk=true/\bY n.L<=r - n.key.length - n.U.length - n.X.length
      .rw [if_pos D,Option.bind_some,mT cOk n.tail _ _ (by omega)]
       by_cases F:(n.tail.length:Int)<=c - n.L.length/\n.tail.all cOk=true/\bY n.tail<=r - n.key.length - n.U.length - n.X.length - bY n.L
       .rw [if_pos F,if_pos ⟨⟨E,N,J,M,D.2.1,F.2.1⟩,by omega,by omega⟩];congr 1;rw [Prod.mk.injEq];constructor<;>omega
       .rw [if_neg F,if_neg];rintro ⟨⟨_,_,_,_,_,a⟩,b,Y⟩;exact F ⟨by omega,a,by omega⟩
      .rw [if_neg D,Option.bind_none,if_neg];rintro ⟨⟨_,_,_,_,a,_⟩,b,Y⟩;exact D ⟨by omega,a,by omega⟩
 .rw [if_pos (by simpa using E),if_neg (fun h=>E h.1.1)]
def fU:List Nod->Int
 | []=>0
 | n::ns=>nr n+fU ns
def gK:List Nod->Int
 | []=>0
 | n::ns=>nc n+gK ns
theorem iR:∀ h,0<=fU h
 | []=>by simp [fU]
 | n::h=>by have:=iR h;have:=tB n;simp only [fU];omega
theorem iH:∀ h,0<=gK h
 | []=>by simp [gK]
 | n::h=>by have:=iH h;have:=sX n;simp only [gK];omega
theorem aCO:∀ (A:List Nod) (c r:Int) (x:Int × Int),0<=c->0<=r->(pD (dV cOk nOk) A (c,r)=some x ↔ (∀ n∈A,fS cOk nOk n)/\gK A<=c/\fU A<=r/\x=(c - gK A,r - fU A))
 | [],c,r,x,hc,hr=>by
   simp only [pD,Option.some.injEq,gK,fU,Int.sub_zero];constructor
   .intro h;exact ⟨by simp,hc,hr,h.symm⟩
   .rintro ⟨_,_,_,h⟩;exact h.symm
 | n::A,c,r,x,hc,hr=>by
   have M:=iR A;have O:=iH A;have N:=tB n;have J:=sX n;simp only [pD,aDe cOk nOk n c r,gK,fU]
   by_cases h:fS cOk nOk n/\nc n<=c/\nr n<=r
   .rw [if_pos h,Option.bind_some,aCO A _ _ x (by omega) (by omega)];constructor
    .rintro ⟨p1,G,F,E⟩;refine ⟨fun q D=>?_,by omega,by omega,by rw [E,Prod.mk.injEq];constructor<;>omega⟩;simp only [mem_cons] at D;rcases D with rfl | D
     .exact h.1
     .exact p1 q D
    .rintro ⟨p1,G,F,E⟩;exact ⟨fun q D=>p1 q (by simp [D]),by omega,by omega,by rw [E,Prod.mk.injEq];constructor<;>omega⟩
   .rw [if_neg h,Option.bind_none];constructor
    .intro H;cases H
    .rintro ⟨p1,G,F,_⟩;exact absurd ⟨p1 n (by simp),by omega,by omega⟩ h
theorem aFL (A:List Nod) (tail:List Cm) :
  (∃ s x,aE (dV cOk nOk) 201 false (A,(4000,100000))=some ([],s)/\mW cOk tail s=some x) ↔
  (fU A+bY tail<=100000/\gK A+tail.length<=4000/\tail.all cOk=true/\(∀ n∈A,fS cOk nOk n)/\iK A.length 201 false A=some []):=by
 have S:=iR A;have a2:=iH A;have Y:=bN tail
 have E:(aE bD 201 false (A,())=some ([],())) ↔ iK A.length 201 false A=some []:=by
  rw [<- qY A.length 201 false A (Nat.le_refl _)];cases iK A.length 201 false A with
  | none=>simp
  | some R=>simp
 constructor
 .rintro ⟨s,x,G,D⟩;obtain ⟨g,f⟩:=(aE8 _ 201 false A (4000,100000) s).1 G;obtain ⟨p1,N,O,J⟩:=(aCO cOk nOk A 4000 100000 s (by omega) (by omega)).1 f;subst J;rw [mT cOk tail _ _ (by omega)] at D
  by_cases h:(tail.length:Int)<=4000 - gK A/\tail.all cOk=true/\bY tail<=100000 - fU A
  .exact ⟨by omega,by omega,h.2.1,p1,E.1 g⟩
  .rw [if_neg h] at D;cases D
 .rintro ⟨Z,h2,M,F,H⟩;refine ⟨(4000 - gK A,100000 - fU A),(4000 - gK A - tail.length,100000 - fU A - bY tail),?_,?_⟩
  .exact (aE8 _ 201 false A (4000,100000) _).2 ⟨E.2 H,(aCO cOk nOk A 4000 100000 _ (by omega) (by omega)).2 ⟨F,by omega,by omega,rfl⟩⟩
  .rw [mT cOk tail _ _ (by omega),if_pos ⟨by omega,M,by omega⟩]
end
end
section
variable {P:Program} {ops:Array Oper} {Q:Exit->Act->World->Prop} {md:Region.Mode} {I:World->Prop} {ex:Nat->Bool}
theorem kF {i:Nat} {o:Oper} {K:Act->World->Prop} {a:Act} {w w':World} {v:Value} (D:ops[i]?=some o) (E:Region.wanted o (yielded ops a.tmps)=true) (A:(execOp a.eval o).run P w=.ok (.value v) w') (h:K (a.put o.dst v) w'):wpOp P ops Q i K a w:=by
 unfold wpOp;simp only [D,E,if_true];refine .inl ?_;unfold Oper.wp;rw [A];exact h
theorem pZ {i:Nat} {o:Oper} {K:Act->World->Prop} {a:Act} {w E:World} {f:FuncId} {args:Array Value} {R:Ending->World->Prop} (J:ops[i]?=some o) (H:Region.wanted o (yielded ops a.tmps)=true) (A:(execOp a.eval o).run P w=.ok (.enter f args) E)
  (G:Calls P f args E R) (h:∀ e D,R e D->∃ v,e=.returned v/\K (a.put o.dst v) D):wpOp P ops Q i K a w:=by
 unfold wpOp;simp only [J,H,if_true];refine .inl ?_;unfold Oper.wp;rw [A];refine Calls.mono G fun e D M=>?_;obtain ⟨v,rfl,F⟩:=h e D M;exact F
theorem tH {o:Oper} {v:Value} {a:Act} (A:Region.wanted o (yielded ops a.tmps)=true) (h:∀ w,I w->(execOp a.eval o).run P w=.ok (.value v) w):vC P ops I o v a:=⟨A,h⟩
end
open Go.RowKit
def lnE (p:Int):Bool:=decide (p=10\/p=13\/p=8232\/p=8233)
theorem aBU (p:Int) (w):Calls prog 118 #[.int .i64 p] w fun e G=>e=.returned (.bool (lnE p))/\w=G:=by
 by_cases A:p=10
 .subst A
  go_enter func118,ntmps118
  go_wp2;go_ret;exact ⟨rfl,rfl⟩
 .by_cases D:p=13
  .subst D
   go_enter func118,ntmps118
   go_wp2;go_ret;exact ⟨rfl,rfl⟩
  .by_cases E:p=8232
   .subst E
    go_enter func118,ntmps118
    go_wp2;go_ret;exact ⟨rfl,rfl⟩
   .by_cases h:p=8233
    .subst h
     go_enter func118,ntmps118
     go_wp2;go_ret;exact ⟨rfl,rfl⟩
    .have F:Hid (lnE p=false):=(by unfold Hid lnE;simp [A,D,E,h]);have J:(p==10)=false:=(by simpa using A);have H:(p==13)=false:=(by simpa using D);have N:(p==8232)=false:=(by simpa using E);have M:(p==8233)=false:=by simpa using h
     go_enter func118,ntmps118
     go_wp2;go_ret;exact ⟨by rw [F.out];first | rfl | simp [h],rfl⟩
def cAt (b:Bool) (ps:List Int) (i:Nat):Bool:=
 !(lnE (ps[i]?.getD 0)&&(!decide (ps[i]?.getD 0=10) || !b)) && !(b&&(decide (0<i)&&(decide (ps[i]?.getD 0=47)&&decide (ps[i - 1]?.getD 0=42))))
def gM (c:Cm):Bool:=decide ((eU c.t).2.1=0)&&(range (eU c.t).1.length).all (cAt c.b (eU c.t).1)
theorem zO (tv) (c:Cm) (w:World) (hv:RdB w.heap.size w tv c.t) (hs:Sl tv c.t.length) (M:Bys c.t) (hn:c.t.length<=1048576) :
  Calls prog 76 #[.agg #[.bool c.b,tv]] w fun e w'=>e=.returned (.bool (gM c))/\w.grownBy w' none:=by
 have HD:=aB (fun (w':World) (g:w.grownBy w' none)=>nM tv c.t w' ((hv.K g).wideC g.size) M hn);have d0:=aGR c.t.length c.t;obtain ⟨a,f1,c7,_,_⟩:=id hs;subst c7;clear hv hs
 go_enter func76,ntmps76
 go_wp2_with fail
 refine (HD.out _ gWA).mono ?_;rintro e w1 ⟨v1,rfl,o1,g1⟩;have J:w1.cell? ⟨w.heap.size,0,none⟩=some (.bool c.b):=g1.cell (by simp [go_sem]) (by simp);have G1:Hid (w.grownBy w1 none):=aA gWA g1;obtain ⟨b1,d3,c5,b9,f0⟩:=o1.sl;have R1:=aB o1.rd;subst c5;clear o1 g1
 by_cases hz:(eU c.t).2.1=0
 .have c4:((eU c.t).2.1==0)=true:=(by simpa using hz);rw [hz];have HZ:=aB hz
  have c8:(eU c.t).1.length<=1048576:=by
   unfold eU
   split
   .simp only;omega
   .simp
  obtain ⟨D,b2⟩:∃ D,D=(eU c.t).1:=⟨_,rfl⟩;have HP:=aB b2;rw [<- b2] at R1 b9 c8 ⊢;clear c4 hz b2 d0;go_wp2
  go_loopw [6] (fun i wr=>∃ (k:Nat),k<=D.length/\i=.int .i64 k/\Hid ((range k).all (cAt c.b D)=true)/\w1.grownBy wr none) (fun i _=>D.length - (intOf i).toNat)
  case atStart=>exact ⟨0,Nat.zero_le _,rfl,by simp [Hid],grownBy.refl _ _⟩
  case round=>
   obtain ⟨k,hk,rfl,HA,Z⟩:=hrel;have R1:=aB (R1.out.K Z);have J:=Z.cell J (by simp);have G1:Hid (w.grownBy wr none):=aA G1.out Z;have Y:=aB Z;clear Z
   by_cases a4:k<D.length
   .obtain ⟨a',d5,H,N⟩:=R1.out;obtain ⟨b,c3,c2,f4,G⟩:=N (fun e=>by rw [e] at a4;simp at a4);have c1:b1=some ⟨b,c3,none⟩:=(by simp only [Value.slice.injEq] at H;rw [H.1];exact c2);subst c1;have a1:=G k a4;have f2:(k:Int)<D.length:=(by omega);have S:=aB (fun w=>aBU (D[k]?.getD 0) w)
    have F:cAt c.b D k=false->Hid (gM c=false):=fun h=>by
     unfold Hid gM;rw [<- HP.out,Bool.and_eq_false_iff];right;rw [all_eq_false];exact ⟨k,by simpa using a4,by rw [h];simp⟩
    have A:cAt c.b D k=true->Hid ((range (k+1)).all (cAt c.b D)=true):=fun h=>by
     unfold Hid;rw [range_succ,all_append,HA.out];simp [h]
    by_cases hl:lnE (D[k]?.getD 0)=true
    .rw [hl] at S
     by_cases a7:D[k]?.getD 0=10
     .rw [a7] at a1 S
      by_cases M:c.b=true
      .have HN:=A (by unfold cAt;rw [a7,M];simp);rw [M] at J;clear M;clear F A hl G N H
       by_cases a8:k=0
       .subst a8;simp only [Nat.add_zero] at a1
        go_wp2_with fail
        refine (S.out _).mono ?_;rintro e w2 ⟨rfl,rfl⟩;go_wp2
        go_roundw
        case rel=>exact ⟨0+1,by omega,by go_num,HN,Y.out⟩
        case measure=>simp [intOf];omega
       .have c6:(0:Int)<k:=by omega
        go_wp2_with fail
        refine (S.out _).mono ?_;rintro e w2 ⟨rfl,rfl⟩;go_wp2
        go_roundw
        case rel=>exact ⟨k+1,by omega,by go_num,HN,Y.out⟩
        case measure=>simp [intOf];omega
      .have O:c.b=false:=(by simpa using M);have HF:=F (by unfold cAt;rw [a7,O];simp [lnE]);rw [O] at J;clear M O;clear F A hl G N H
       go_wp2_with fail
       refine (S.out _).mono ?_;rintro e w2 ⟨rfl,rfl⟩;go_wp2;go_ret;exact ⟨by rw [HF.out];rfl,G1.out⟩
     .have HF:=F (by unfold cAt;rw [hl];simp [a7]);clear F A hl G N H;generalize D[k]?.getD 0=p at *
      go_wp2_with fail
      refine (S.out _).mono ?_;rintro e w2 ⟨rfl,rfl⟩;go_wp2;go_ret;exact ⟨by rw [HF.out];rfl,G1.out⟩
    .have E:lnE (D[k]?.getD 0)=false:=(by simpa using hl);rw [E] at S
     by_cases M:c.b=true
     .by_cases a8:k=0
      .have HN:=A (by unfold cAt;rw [E,a8];simp);subst a8;rw [M] at J;clear M;clear F A hl E G N H;simp only [Nat.add_zero] at a1;generalize D[0]?.getD 0=p at *
       go_wp2_with fail
       refine (S.out _).mono ?_;rintro e w2 ⟨rfl,rfl⟩;go_wp2
       go_roundw
       case rel=>exact ⟨0+1,by omega,by go_num,HN,Y.out⟩
       case measure=>simp [intOf];omega
      .have c6:(0:Int)<k:=(by omega);obtain ⟨j,rfl⟩:∃ j,k=j+1:=⟨k - 1,by omega⟩;have b4:=G j (by omega)
       by_cases a2:D[j+1]?.getD 0=47
       .by_cases a6:D[j]?.getD 0=42
        .have HF:=F (by unfold cAt;rw [E,M,a2];simp [a6]);rw [M] at J;clear M;rw [a2] at a1 S;rw [a6] at b4;clear F A hl E G N H
         go_wp2_with fail
         refine (S.out _).mono ?_;rintro e w2 ⟨rfl,rfl⟩;go_wp2;go_ret;exact ⟨by rw [HF.out];rfl,G1.out⟩
        .have HN:=A (by unfold cAt;rw [E];simp [a6]);rw [M] at J;clear M;rw [a2] at a1 S;have d7:(D[j]?.getD 0==42)=false:=(by simpa using a6);clear F A hl E G N H;generalize D[j]?.getD 0=q at *
         go_wp2_with fail
         refine (S.out _).mono ?_;rintro e w2 ⟨rfl,rfl⟩;go_wp2
         go_roundw
         case rel=>exact ⟨j+1+1,by omega,by go_num,HN,Y.out⟩
         case measure=>simp [intOf];omega
       .have HN:=A (by unfold cAt;rw [E];simp [a2]);rw [M] at J;clear M;have d1:(D[j+1]?.getD 0==47)=false:=(by simpa using a2);clear F A hl E G N H b4;generalize D[j+1]?.getD 0=p at *
        go_wp2_with fail
        refine (S.out _).mono ?_;rintro e w2 ⟨rfl,rfl⟩;go_wp2
        go_roundw
        case rel=>exact ⟨j+1+1,by omega,by go_num,HN,Y.out⟩
        case measure=>simp [intOf];omega
     .have O:c.b=false:=(by simpa using M);have HN:=A (by unfold cAt;rw [E,O];simp);rw [O] at J;clear M O;clear F A hl E G N H;generalize D[k]?.getD 0=p at *
      go_wp2_with fail
      refine (S.out _).mono ?_;rintro e w2 ⟨rfl,rfl⟩;go_wp2
      go_roundw
      case rel=>exact ⟨k+1,by omega,by go_num,HN,Y.out⟩
      case measure=>simp [intOf];omega
   .have HF:Hid (gM c=true):=by
     unfold Hid gM;rw [HZ.out,<- HP.out];have:=HA.out;rw [show k=D.length by omega] at this;rw [this];rfl
    go_wp2;go_ret;exact ⟨by rw [HF.out];rfl,G1.out⟩
 .have HF:Hid (gM c=false):=(by unfold Hid gM;simp [hz]);generalize (eU c.t).2.1=z at *;go_wp2;go_ret;exact ⟨by rw [HF.out];rfl,G1.out⟩
def qO (u x:Int):Int:=65536+(u - 55296)*1024+(x - 56320)
def fu:List Int->List Int
 | []=>[]
 | [u]=>[u]
 | u::x::r=>if mL u&&mV x then qO u x::fu r else u::fu (x::r)
def fuR (zs:List Int):List Int × Int:=if zs.all cD then (fu zs,0) else ([],1)
theorem sY (h:List Int) (k:Nat) (A:k<h.length):h.drop k=h[k]?.getD 0::h.drop (k+1):=by
 rw [drop_eq_getElem_cons A];simp [A]
theorem aI6 (A:List Int) (k:Nat) (F:k<A.length) (h:¬ (mL (A[k]?.getD 0)=true/\k+1<A.length/\mV (A[k+1]?.getD 0)=true)) :
  fu (A.drop k)=A[k]?.getD 0::fu (A.drop (k+1)):=by
 rw [sY A k F]
 by_cases E:k+1<A.length
 .rw [sY A (k+1) E,fu,if_neg];simp only [Bool.and_eq_true];exact fun D=>h ⟨D.1,E,D.2⟩
 .rw [drop_eq_nil_of_le (by omega)];rfl
theorem aJb (A:List Int) (k:Nat) (E:k+1<A.length) (h:mL (A[k]?.getD 0)=true) (D:mV (A[k+1]?.getD 0)=true) :
  fu (A.drop k)=qO (A[k]?.getD 0) (A[k+1]?.getD 0)::fu (A.drop (k+2)):=by
 rw [sY A k (by omega),sY A (k+1) E,fu,if_pos (by simp [h,D])]
theorem aFW:∀ (n:Nat) (A:List Int),A.length<=n->(fu A).length<=A.length
 | 0,A,h=>by
   have:A=[]:=eq_nil_of_length_eq_zero (by omega);subst this;simp [fu]
 | n+1,[],_=>by simp [fu]
 | n+1,[u],_=>by simp [fu]
 | n+1,u::x::r,h=>by
   simp only [length_cons] at h;rw [fu]
   split
   .have:=aFW n r (by omega);simp only [length_cons];omega
   .have:=aFW n (x::r) (by simp only [length_cons];omega);simp only [length_cons] at this ⊢;omega
theorem aDo (h):(fuR h).1.length<=h.length:=by
 unfold fuR;split
 .exact aFW _ h (Nat.le_refl _)
 .simp
theorem sS (A:List Int) (h:A.all cD=false):fuR A=([],1):=by simp [fuR,h]
theorem aDh (A:List Int) (h:A.all cD=true):fuR A=(fu A,0):=by simp [fuR,h]
theorem aNg {p} (h:mV p=true):cD p=true:=by
 simp [mV,cD] at h ⊢;omega
theorem aEB {A D:List Int} {k} {p:Int} (E:D++fu (A.drop k)=fu A) (h:fu (A.drop k)=p::fu (A.drop (k+1))):D++[p]++fu (A.drop (k+1))=fu A:=by
 rw [<- E,h];simp
theorem aET {A D:List Int} {k} {p:Int} (E:D++fu (A.drop k)=fu A) (h:fu (A.drop k)=p::fu (A.drop (k+2))):D++[p]++fu (A.drop (k+2))=fu A:=by
 rw [<- E,h];simp
theorem aJH {A h:List Int} {k:Nat} (E:A.length<=k) (D:h++fu (A.drop k)=fu A):h=fu A:=by
 rw [drop_eq_nil_of_le E] at D;simpa [fu] using D
theorem oK (v A) (w:World) (hv:RdI w.heap.size w v A) (hn:A.length<=2097152) :
  Calls prog 119 #[v] w fun e w'=>∃ v',e=.returned (.tuple #[v',.int .i64 (fuR A).2])/\OwI w.heap.size w' v' (fuR A).1/\w.grownBy w' none:=by
 obtain ⟨i0,hi,b0,b9,b2⟩:=info_parts aAp;obtain ⟨a,d6,rfl,hr⟩:=hv
 go_enter func119,ntmps119
 go_wp2
 go_loop [4] (fun i=>∃ k:Nat,k<=A.length/\i=.int .i64 k/\(A.take k).all cD=true) (fun i=>A.length - (intOf i).toNat)
 case atStart=>exact ⟨0,Nat.zero_le _,rfl,rfl⟩
 case round=>
  obtain ⟨k,hk,rfl,N⟩:=hrel
  by_cases M:k<A.length
  .obtain ⟨b,a5,rfl,hb,Z⟩:=hr (fun h=>by simp [h] at M);have a3:=Z k M;have Y:=mH A cD k M N;have S:=zY A cD k M;generalize A[k]?.getD 0=p at a3 Y S
   by_cases d3:p<0
   .have HF:Hid (A.all cD=false):=S (by simp [cD];omega);clear Y S Z hr;go_wp2;go_ret2;exact ⟨_,by rw [sS _ HF.out];rfl,by rw [sS _ HF.out];exact ownsRow_nil _ _ _ _,grownBy.refl _ _⟩
   .by_cases c2:65535<p
    .have HF:Hid (A.all cD=false):=S (by simp [cD];omega);clear Y S Z hr;go_wp2;go_ret2;exact ⟨_,by rw [sS _ HF.out];rfl,by rw [sS _ HF.out];exact ownsRow_nil _ _ _ _,grownBy.refl _ _⟩
    .have a8:=Y (by simp [cD];omega);clear Y S Z hr;go_wp2
     go_round
     case rel=>exact ⟨k+1,by omega,by go_num,a8⟩
     case measure=>simp [intOf];omega
  .have HF:Hid (A.all cD=true):=by
    unfold Hid;rw [take_of_length_le (by omega)] at N;exact N
   clear N;go_wp2
   go_loopw [5,6] (fun v i wr=>∃ (k:Nat) (J:List Int),k<=A.length/\i=.int .i64 k/\OwI w.heap.size wr v J/\J.length<=k/\J++fu (A.drop k)=fu A/\Below w.heap.size w wr)
    (fun _ i _=>A.length - (intOf i).toNat)
   case atStart=>exact ⟨0,[],Nat.zero_le _,rfl,ownsRow_nil _ _ _ _,Nat.le_refl _,by simp,Below.refl _ _⟩
   case round=>
    rename_i hk0 hlt0
    obtain ⟨k,J,hk,rfl,D,d1,hx,G⟩:=hrel
    by_cases M:k<A.length
    .obtain ⟨b,a5,rfl,hb,Z⟩:=hr (fun h=>by simp [h] at M);have a3:wr.cell? ⟨b,a5+k,none⟩=some (.int .i64 (A[k]?.getD 0)):=(G.cell (by exact hb)).trans (Z k M);have O:k+1<A.length->wr.cell? ⟨b,a5+(k+1),none⟩=some (.int .i64 (A[k+1]?.getD 0)):=fun h=>(G.cell (by exact hb)).trans (Z (k+1) h);have h1:=aI6 A k M;have h2:=aJb A k;generalize A[k]?.getD 0=p at a3 h1 h2;generalize A[k+1]?.getD 0=x at O h1 h2;clear Z hr
     by_cases H:mL p=true/\k+1<A.length/\mV x=true
     .obtain ⟨hp,a1,a4⟩:=H;have HE:=aET hx (h2 a1 hp a4);have c6:Hid (J++[qO p x]++fu (A.drop (k+2))=fu A):=HE;have b5:=O a1;simp [mL] at hp;simp [mV] at a4;obtain ⟨c2,d7⟩:=hp;obtain ⟨d2,f1⟩:=a4;clear h1 h2 HE O hx;have b4:qO p x=65536+(p - 55296)*1024+x - 56320:=(by unfold qO;omega);have HP:Hid (qO p x=65536+(p - 55296)*1024+x - 56320):=b4;clear b4
      go_wp2_with (at_builtin;refine wpList_append_own _ rfl _ _ 35 rfl w.heap.size 3 i0 (.int .i64 0) 1 8 underlying35 hi b0 b9 b2 rfl (by decide) _ _ _ rfl (ownsRow.alloc D _) ⟨wr.heap.size,0,none⟩ 1 1 [.int .i64 (65536+(p - 55296)*1024+x - 56320)] rfl rfl (cell_one_new _ _ _) (by intro u hu;simp at hu;subst hu;rfl) (by unfold maxLen;omega) (by omega) (by have:=G.size;simp;omega) ?_;intro v' w1 E F _)
      have R:=cG (xs:=[65536+(p - 55296)*1024+x - 56320]) _ G.size D E (by simp) F;clear E F D;go_wp2
      go_roundw
      case rel=>exact ⟨k+2,J++[65536+(p - 55296)*1024+x - 56320],by omega,by go_num,R.1,by simp;omega,by rw [<- HP.out];exact c6.out,G.trans R.2⟩
      case measure=>simp [intOf];omega
     .have HE:Hid (J++[p]++fu (A.drop (k+1))=fu A):=aEB hx (h1 H)
      have b1:p<55296\/56319<p\/(55296<=p/\p<=56319/\A.length<=k+1)\/(55296<=p/\p<=56319/\k+1<A.length/\x<56320)\/(55296<=p/\p<=56319/\k+1<A.length/\56320<=x/\57343<x):=by
       simp only [mL,mV,decide_eq_true_eq] at H;omega
      clear h1 h2 H hx;rcases b1 with hw | hw | ⟨b7,b3,a6⟩ | ⟨b7,b3,a6,c4⟩ | ⟨b7,b3,a6,c4,d8⟩
      all_goals
       first
        | (have b5:=O a6;clear O)
        | clear O
       go_wp2_with (at_builtin;refine wpList_append_own _ rfl _ _ 35 rfl w.heap.size 3 i0 (.int .i64 0) 1 8 underlying35 hi b0 b9 b2 rfl (by decide) _ _ _ rfl (ownsRow.alloc D _) ⟨wr.heap.size,0,none⟩ 1 1 [.int .i64 p] rfl rfl (cell_one_new _ _ _) (by intro u hu;simp at hu;subst hu;rfl) (by unfold maxLen;omega) (by omega) (by have:=G.size;simp;omega) ?_;intro v' w1 E F _)
       have R:=cG (xs:=[p]) _ G.size D E (by simp) F;clear E F D;go_wp2
       go_roundw
       case rel=>exact ⟨k+1,J++[p],by omega,by go_num,R.1,by simp;omega,HE.out,G.trans R.2⟩
       case measure=>simp [intOf];omega
    .have hE:=aJH (by omega) hx;rw [hE] at D;clear hx hr hE;go_wp2;go_ret2;exact ⟨_,by rw [aDh _ HF.out];rfl,by rw [aDh _ HF.out];exact D,aC G⟩
theorem aH5 {α:Type} (f:α->Bool) (A:List α) (k:Nat) (D:k<A.length) (h:(A.take k).all f=true) (E:f A[k]=true):(A.take (k+1)).all f=true:=by
 rw [take_add_one,getElem?_eq_getElem D,all_append,h];simp [E]
theorem aLz {α:Type} (f:α->Bool) (h:List α) (k:Nat) (A:k<h.length) (D:f h[k]=false):h.all f=false:=by
 rw [all_eq_false];exact ⟨h[k],getElem_mem A,by rw [D];simp⟩
def zI (cs:List Cm):Prop:=∀ c∈cs,c.t.length<=1048576/\Bys c.t
theorem lQ (v h) (w:World) (O:RdC w.heap.size w v h) (hn:h.length<=1048576) (ho:zI h) :
  Calls prog 38 #[v] w fun e w'=>e=.returned (.bool (h.all gM))/\w.grownBy w' none:=by
 obtain ⟨a,a7,Y,_⟩:=id O;have HV:=aB O;have HO:=aB ho;subst Y;clear O ho
 go_enter func38,ntmps38
 go_wp2
 go_loopw [3] (fun i wr=>∃ k:Nat,k<=h.length/\i=.int .i64 k/\Hid ((h.take k).all gM=true)/\w.grownBy wr none) (fun i _=>h.length - (intOf i).toNat)
 case atStart=>exact ⟨0,Nat.zero_le _,rfl,by simp [Hid],grownBy.refl _ _⟩
 case round=>
  obtain ⟨k,hk,rfl,HA,A⟩:=hrel
  by_cases D:k<h.length
  .obtain ⟨b,a9,a3,tv,Z,hb,G⟩:=(HV.out.K A).at k D;cases Z;have z0:=G.k;have z1:=G.t;obtain ⟨h1,h2⟩:=HO.out h[k] (getElem_mem D);have M:=aB (zO tv h[k] wr (G.rd.wideC A.size) G.sl h2 h1);obtain ⟨ta,a2,S,_,_⟩:=G.sl;have J:=aB A;subst S;clear G h2 A;cases F:gM h[k] with
   | true=>
     have HN:=aB (aH5 gM h k D HA.out F);rw [F] at M;clear F;generalize h[k]=p at *
     go_wp2_with fail
     refine M.out.mono ?_;rintro e w1 ⟨rfl,H⟩;have E:=aB (aA J.out H);clear H;go_wp2
     go_roundw
     case rel=>exact ⟨k+1,by omega,by go_num,HN,E.out⟩
     case measure=>simp [intOf];omega
   | false=>
     have N:=aB (aLz gM h k D F);rw [F] at M;clear F;generalize h[k]=p at *
     go_wp2_with fail
     refine M.out.mono ?_;rintro e w1 ⟨rfl,H⟩;have E:=aB (aA J.out H);clear H;go_wp2;go_ret;exact ⟨by rw [N.out];rfl,E.out⟩
  .have N:Hid (h.all gM=true):=by
    have:=HA.out;rw [show k=h.length by omega,take_length] at this;exact this
   have J:=aB A;go_wp2;go_ret;exact ⟨by rw [N.out];rfl,J.out⟩
theorem tP (v A) (w:World) (E:RdI w.heap.size w v A) (M:A.length<=2097152) :
  Calls prog 77 #[v] w fun e S=>e=.returned (.bool (A.all cD))/\w.grownBy S none:=by
 obtain ⟨a,N,H,_⟩:=id E;have D:=aB (oK v A w E M);subst H;clear E;cases h:A.all cD with
 | true=>
   have G:(fuR A).2=0:=(by unfold fuR;rw [h];rfl);rw [G] at D
   go_enter func77,ntmps77
   go_wp2_with fail
   refine D.out.mono ?_;rintro e Y ⟨J,rfl,O,F⟩;go_wp2;go_ret;exact ⟨rfl,F⟩
 | false=>
   have G:(fuR A).2=1:=(by unfold fuR;rw [h];rfl);rw [G] at D
   go_enter func77,ntmps77
   go_wp2_with fail
   refine D.out.mono ?_;rintro e Y ⟨J,rfl,O,F⟩;go_wp2;go_ret;exact ⟨rfl,F⟩
def iS (c:Int):Bool:=decide ((97<=c/\c<=122)\/(65<=c/\c<=90)\/c=95\/c=36)
def aK (c:Int):Bool:=decide (48<=c/\c<=57)
def xG (k:Nat) (c:Int):Bool:=iS c||(k != 0&&aK c)
def uR (zs:List Int) (k:Nat):Bool:=(range k).all fun j=>xG j (zs[j]?.getD 0)
def nmR (zs:List Int):Bool:=uR zs zs.length&&decide (0<zs.length)
theorem aB5 (A k) (h:uR A k=true) (D:xG k (A[k]?.getD 0)=true):uR A (k+1)=true:=by
 simp only [uR,range_succ,all_append,all_cons,all_nil] at h ⊢;simp [h,D]
theorem aGH (h:List Int) (k:Nat) (A:k<h.length) (D:xG k (h[k]?.getD 0)=false):nmR h=false:=by
 have:uR h h.length=false:=by
  rw [uR,all_eq_false];exact ⟨k,mem_range.2 A,by simpa using D⟩
 simp [nmR,this]
theorem aGt (A) (h:uR A A.length=true):nmR A=decide (0<A.length):=by simp [nmR,h]
end Go.Proofs.YtckcaefnokeodaaGreatDoor
