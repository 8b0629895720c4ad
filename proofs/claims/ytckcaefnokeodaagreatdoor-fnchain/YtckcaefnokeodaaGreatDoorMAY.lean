import Derived.Test.YtckcaefnokeodaaGreatDoorMAN
import Derived.Test.YtckcaefnokeodaaGreatDoorMAS
set_option maxHeartbeats 16000000
set_option maxRecDepth 100000
namespace Go.Proofs.YtckcaefnokeodaaGreatDoor
open Go.Proofs.Tryz Go.RowKit List
theorem iV (A D):∀ (f:Nat) (I:List iF) (F E:List Int) (G:Int) (o m:List Int),lay A D f I F E G=some (o,m)->m.length=E.length
 | 0,_,_,_,_,_,_,h=>by simp [lay] at h
 | f+1,[],F,E,G,o,m,h=>by simp only [lay,Option.some.injEq,Prod.mk.injEq] at h;rw [h.2]
 | f+1,⟨.leaf p,n,ind⟩::rest,F,E,G,o,m,h=>by
   simp only [lay] at h
   split at h
   .exact iV A D f _ _ _ _ _ _ h
   .split at h
    .exact iV A D f _ _ _ _ _ _ h
    .split at h
     .exact iV A D f _ _ _ _ _ _ h
     .exact iV A D f _ _ _ _ _ _ h
 | f+1,⟨.bin p x y,n,ind⟩::rest,F,E,G,o,m,h=>by
   simp only [lay] at h
   split at h
   .exact iV A D f _ _ _ _ _ _ h
   .exact iV A D f _ _ _ _ _ _ h
 | f+1,⟨.un p x,n,ind⟩::rest,F,E,G,o,m,h=>by
   simp only [lay] at h
   split at h
   .exact iV A D f _ _ _ _ _ _ h
   .cases D with
    | none=>
      simp only at h;cases H:aD x [] with
      | none=>
        rw [H] at h;have:=iV A none f _ _ _ _ _ _ h;simpa using this
      | some text=>
        rw [H] at h;simp only at h
        split at h
        .have:=iV A none f _ _ _ _ _ _ h;rw [this,kD]
        .have:=iV A none f _ _ _ _ _ _ h;simpa using this
    | some gs=>
      simp only at h
      split at h
      .cases H:aD x [] with
       | none=>rw [H] at h;cases h
       | some text=>
         rw [H] at h;have:=iV A (some gs) f _ _ _ _ _ _ h;rw [this,kD]
      .split at h
       .have:=iV A (some gs) f _ _ _ _ _ _ h;simpa using this
       .cases h
def lW (doc:List Pc) (cs:List Int):Option (List Int):=
 if eS doc=true/\cs.length=grp doc doc.length then
  (match bd doc [] with
   | some [T]=>(match iJ 0 (some cs) [⟨T,0,0⟩] [] (replicate (grp doc doc.length) 0) 0 with | some (out,met)=>if met=cs then some out else none | none=>none)
   | _=>none)
 else none
def aFq (w:World) (r:Option (List Int)) (e:Ending) (w':World):Prop:=
 match r with
 | some out=>∃ ov,e=.returned (.tuple #[ov,.int .i64 0])/\OwB w.heap.size w' ov out/\w.grownBy w' none
 | none=>e=.returned (.tuple #[.slice none 0 0,.int .i64 1])/\w.grownBy w' none
structure PT where
 T:Tr
 n:Nat
 ind:Int
 fl:Bool
 bw:Int
 be:Bool
def Tk.pt (t:Tk):PT:=⟨t.T,t.n,t.ind,t.fl,t.bw,t.be⟩
def pm (d:Nat->Int->Bool):Nat->List PT->List Int->Int->List Int->List Int × List Int
 | 0,_,tx,_,ch=>(tx,ch)
 | _+1,[],tx,_,ch=>(tx,ch)
 | f+1,⟨.leaf p,_,ind,fl,_,_⟩::r,tx,col,ch=>
   if (brk (.leaf p) ind fl).2=true then pm d f r (tx++[10]++replicate (brk (.leaf p) ind fl).1.toNat 32) (brk (.leaf p) ind fl).1 ch
   else if p.k=1 then pm d f r (tx++p.t) (col+aF p.t) ch
   else if p.k=2 then pm d f r (tx++[32]) (col+1) ch
   else pm d f r tx col ch
 | f+1,⟨.un p x,n,ind,fl,bw,be⟩::r,tx,col,ch=>
   if p.k=7 then pm d f (⟨x,n,ind+p.n,fl,bw,be⟩::r) tx col ch
   else pm d f (⟨x,n,ind,fl||kN (flatW x) col bw (d (n+aP x)),bw,be⟩::r) tx col (ch.set (n+aP x) (if (fl||kN (flatW x) col bw (d (n+aP x)))=true then 1 else 2))
 | f+1,⟨.bin p x y,n,ind,fl,bw,be⟩::r,tx,col,ch=>
   if p.k=6 then pm d f (⟨x,n,ind,fl,if (leadT y).2=true then (leadT y).1 else (leadT y).1+bw,if (leadT y).2=true then (leadT y).2 else be⟩::⟨y,n+aP x,ind,fl,bw,be⟩::r) tx col ch
   else pm d f (⟨if fl then y else x,if fl then n+aP x else n,ind,fl,bw,be⟩::r) tx col ch
def szS (its:List Tk):Nat:=szs (its.map (·.T))
theorem aY (t:Tk) (r:List Tk):szS (t::r)=sz t.T+szS r:=rfl
theorem aCY:∀ (r:List Tk),r.length<=szS r
 | []=>Nat.le_refl _
 | t::r=>by have:=aCY r;have:=uB t.T;rw [aY,length_cons];omega
def aMZ:List Tk->Prop
 | []=>True
 | t::r=>(-(szS r:Int)<=t.bw/\t.bw<=szS r)/\aMZ r
structure aIs (B:Nat) (wm:World) (l:List Value) (G:Nat) (t:Tk):Prop where
 node:cH B wm l t.v t.T t.n
 ok:okN t.T
 lo:0<=t.ind
 hi:t.ind+dO t.T<=4000
 gb:t.n+aP t.T<=G
structure qX (B:Nat) (wm:World) (l:List Value) (G:Nat) (its:List Tk) (tx:List Int) (col:Int) (ch:List Int):Prop where
 tok:∀ t∈its,aIs B wm l G t
 bw:aMZ its
 tot:szS its<=140000
 clen:ch.length=G
 lo : -(140000 - (szS its:Int))<=col
 hi:col<=4000+(140000 - (szS its:Int))
 tl:tx.length+4001*szS its<=4001*140000
theorem aMV {T} {h:Int} {fl} (A:0<=h) (D:h<=4000):0<=(brk T h fl).1/\(brk T h fl).1<=4000:=by
 unfold brk
 split
 .split
  .exact ⟨A,D⟩
  .split
   .exact ⟨A,D⟩
   .split<;>simp
 .simp
theorem qX.line {B D l G} {t:Tk} {r:List Tk} {F A E} (h:qX B D l G (t::r) F A E) (i:Int) (J:0<=i) (I:i<=4000) :
  qX B D l G r (F++[10]++replicate i.toNat 32) i E:=by
 obtain ⟨a,b,c,d,e,f,g⟩:=h;rw [aY] at c e f g;have:=uB t.T;refine ⟨fun t H=>a t (mem_cons_of_mem _ H),b.2,by omega,d,by omega,by omega,?_⟩;simp only [length_append,length_cons,length_nil,length_replicate];omega
theorem qX.put {B E l G} {t:Tk} {r:List Tk} {H A F} (h:qX B E l G (t::r) H A F) (s:List Int) (D:Int) (M:s.length<=sz t.T) (N : -(sz t.T:Int)<=D) (J:D<=sz t.T) :
  qX B E l G r (H++s) (A+D) F:=by
 obtain ⟨a,b,c,d,e,f,g⟩:=h;rw [aY] at c e f g;refine ⟨fun t I=>a t (mem_cons_of_mem _ I),b.2,by omega,d,by omega,by omega,?_⟩;simp only [length_append];omega
theorem qX.one {B F l G} {t:Tk} {u} {r:List Tk} {I A H} {D:List Int} (h:qX B F l G (t::r) I A H) (J:aIs B F l G u) (M:u.bw=t.bw) (E:sz u.T<sz t.T) (N:D.length=H.length) :
  qX B F l G (u::r) I A D:=by
 obtain ⟨a,b,c,d,e,f,g⟩:=h;rw [aY] at c e f g;refine ⟨fun s E=>?_,⟨by rw [M];exact b.1,b.2⟩,by rw [aY];omega,by omega,by rw [aY];omega,by rw [aY];omega,by rw [aY];omega⟩;rcases mem_cons.1 E with rfl | E
 .exact J
 .exact a s (mem_cons_of_mem _ E)
theorem qX.two {B F l G} {t:Tk} {u A} {r:List Tk} {M E J} (h:qX B F l G (t::r) M E J) (N:aIs B F l G u) (I:aIs B F l G A) (H:A.bw=t.bw) (S:u.bw=if (leadT A.T).2=true then (leadT A.T).1 else (leadT A.T).1+t.bw) (D:sz u.T+sz A.T<sz t.T):qX B F l G (u::A::r) M E J:=by
 obtain ⟨a,b,c,d,e,f,g⟩:=h;rw [aY] at c e f g;have Y:=mI gH A.T;have O:=b.1;refine ⟨fun s D=>?_,⟨?_,⟨by rw [H];exact b.1,b.2⟩⟩,by rw [aY,aY];omega,by omega,by rw [aY,aY];omega,by rw [aY,aY];omega,by rw [aY,aY];omega⟩
 .rcases mem_cons.1 D with rfl | D
  .exact N
  .rcases mem_cons.1 D with rfl | D
   .exact I
   .exact a s (mem_cons_of_mem _ D)
 .rw [S,aY]
  split<;>omega
theorem zF {a:List Int} (H:Bys a) (h:0<=aF a):∃ q,q.all cC=true/\a=aQ q/\aF a=q.length:=by
 have E:(eU a).2.1=0:=by
  apply Classical.byContradiction;intro G;rw [aCK G] at h;omega
 have D:=vB H E;have F:aF a=(eU a).1.length:=by unfold aF;rw [if_pos E]
 by_cases A:(eU a).1.all cC=true
 .rw [pW _ A] at D;exact ⟨_,A,(by simpa using congrArg Prod.fst D.symm),F⟩
 .rw [aEf _ (by simpa using A)] at D;simp at D
theorem aHr {a b:List Int} (E:Bys a) (M:Bys b) (G:0<=aF a) (I:0<=aF b):aF (a++b)=aF a+aF b:=by
 obtain ⟨q,J,N,D⟩:=zF E G;obtain ⟨r,A,F,H⟩:=zF M I;have h:(q++r).all cC=true:=(by rw [all_append,J,A];rfl);have:=aBg h;rw [pW _ h] at this;simp only at this;rw [show aQ (q++r)=a++b by rw [N,F];simp [aQ]] at this;rw [this,D,H];simp
def KOk:Tr->Prop
 | .leaf p=>(0<=p.k/\p.k<=5)/\(p.k=1->0<=aF p.t/\Bys p.t)
 | .un p x=>(p.k=7\/p.k=8)/\KOk x
 | .bin p x y=>(p.k=6\/p.k=9)/\KOk x/\KOk y
theorem aAb {D:List Pc} {st:List Int} (E:∀ p∈D,mX p=true) (F:∀ p∈D,Bys p.t):∀ {T:Tr} {a b:Nat},Seg D st T a b->KOk T
 | .leaf p,a,b,h=>by
   obtain ⟨_,H,A,_⟩:=h;have J:=mem_of_getElem? H;have G:=(fR p).1 (E p J);refine ⟨⟨G.1.1,?_⟩,fun e=>⟨(G.2.1 e).2,F p J⟩⟩;have:=G.1;unfold ar at A
   repeat' split at A
   all_goals omega
 | .un p x,a,b,h=>by
   obtain ⟨m,_,H,A,_,I⟩:=h;refine ⟨?_,aAb E F I⟩;unfold ar at A
   repeat' split at A
   all_goals omega
 | .bin p x y,a,b,h=>by
   obtain ⟨c,m,_,H,A,_,I,M⟩:=h;refine ⟨?_,aAb E F I,aAb E F M⟩;unfold ar at A
   repeat' split at A
   all_goals omega
theorem lJ:∀ (T:Tr) (h:List Int),aD T h=(aD T []).map (h++·)
 | .leaf p,h=>by
   simp only [aD]
   repeat' split
   all_goals simp
 | .un p x,h=>by simp only [aD];exact lJ x h
 | .bin p x y,h=>by
   simp only [aD]
   split
   .rw [lJ x h];cases aD x [] with
    | none=>rfl
    | some o=>simp only [Option.map_some,Option.bind_some];rw [lJ y (h++o),lJ y o];cases aD y []<;>simp
   .exact lJ y h
theorem rQ:∀ (T:Tr),KOk T->(∀ A,aD T []=some A->flatW T=aF A/\0<=flatW T/\Bys A)/\(aD T []=none->flatW T = -1)
 | .leaf p,h=>by
   simp only [KOk] at h;simp only [aD,flatW]
   by_cases F:p.k=1
   .have:=h.2 F;simp only [F];simp;exact ⟨this.1,this.2⟩
   .by_cases J:p.k=2
    .simp only [J];simp;refine ⟨by decide,fun z D=>by simp at D;omega⟩
    .by_cases G:p.k=0\/p.k=3
     .rw [if_pos G,if_neg F,if_neg J,if_neg (by omega)];refine ⟨fun A e=>?_,by simp⟩;cases e;exact ⟨by decide,by omega,fun z D=>by simp at D⟩
     .rw [if_neg G,if_neg F,if_neg J,if_neg F,if_neg J,if_pos (by omega)];simp
 | .un p x,h=>by
   simp only [KOk] at h;simp only [aD,flatW];exact rQ x h.2
 | .bin p x y,h=>by
   simp only [KOk] at h;have O:=rQ x h.2.1;have M:=rQ y h.2.2;simp only [aD,flatW]
   by_cases I:p.k=6
   .rw [if_pos I,if_pos I];cases S:aD x [] with
    | none=>simp [O.2 S]
    | some o=>
      have H:=O.1 o S;simp only [Option.bind_some];rw [lJ y o];cases N:aD y [] with
      | none=>simp [M.2 N]
      | some q=>
        have E:=M.1 q N;rw [if_neg (by omega)];refine ⟨fun A e=>?_,by simp⟩;simp at e;subst e;refine ⟨?_,by omega,fun z D=>?_⟩
        .rw [aHr H.2.2 E.2.2 (by omega) (by omega)];omega
        .rcases mem_append.1 D with D | D
         .exact H.2.2 z D
         .exact E.2.2 z D
   .rw [if_neg I,if_neg I];exact M
def szP (its:List PT):Nat:=szs (its.map (·.T))
theorem dI (t:PT) (r:List PT):szP (t::r)=sz t.T+szP r:=rfl
theorem aJe (h:List Tk):szP (h.map Tk.pt)=szS h:=by unfold szP szS;rw [map_map];rfl
theorem xD (d:Nat->Int->Bool):∀ (f A:Nat) (E:List PT) (G:List Int) (D:Int) (F:List Int),szP E<f->szP E<A->pm d f E G D F=pm d A E G D F
 | 0,_,_,_,_,_,h,_=>by omega
 | _+1,0,_,_,_,_,_,h=>by omega
 | f+1,A+1,[],_,_,_,_,_=>rfl
 | f+1,A+1,⟨.leaf p,n,ind,fl,bw,be⟩::r,G,D,F,h1,h2=>by
   rw [dI] at h1 h2;simp only [sz] at h1 h2;have H:∀ a b c,pm d f r a b c=pm d A r a b c:=fun a b c=>xD d f A r a b c (by omega) (by omega);simp only [pm,H]
 | f+1,A+1,⟨.un p x,n,ind,fl,bw,be⟩::r,G,D,F,h1,h2=>by
   rw [dI] at h1 h2;simp only [sz] at h1 h2;have H:∀ i g e a b c,pm d f (⟨x,n,i,g,bw,e⟩::r) a b c=pm d A (⟨x,n,i,g,bw,e⟩::r) a b c:=fun i g e a b c=>xD d f A _ a b c (by rw [dI];simp only;omega) (by rw [dI];simp only;omega);simp only [pm,H]
 | f+1,A+1,⟨.bin p x y,n,ind,fl,bw,be⟩::r,G,D,F,h1,h2=>by
   rw [dI] at h1 h2;simp only [sz] at h1 h2
   have H:∀ J I a b c,pm d f (⟨x,n,ind,fl,J,I⟩::⟨y,n+aP x,ind,fl,bw,be⟩::r) a b c=pm d A (⟨x,n,ind,fl,J,I⟩::⟨y,n+aP x,ind,fl,bw,be⟩::r) a b c:=
    fun J I a b c=>xD d f A _ a b c (by rw [dI,dI];simp only;omega) (by rw [dI,dI];simp only;omega)
   have M:∀ a b c,pm d f (⟨if fl then y else x,if fl then n+aP x else n,ind,fl,bw,be⟩::r) a b c=pm d A (⟨if fl then y else x,if fl then n+aP x else n,ind,fl,bw,be⟩::r) a b c:=
    fun a b c=>xD d f A _ a b c (by rw [dI];cases fl<;>simp<;>omega) (by rw [dI];cases fl<;>simp<;>omega)
   simp only [pm,H,M]
def pmL (d:Nat->Int->Bool) (its:List PT) (tx:List Int) (col:Int) (ch:List Int):List Int × List Int:=pm d (szP its+1) its tx col ch
theorem xE {d:Nat->Int->Bool} {f:Nat} {A:List PT} {E:List Int} {D:Int} {F:List Int} (h:szP A<f):pm d f A E D F=pmL d A E D F:=xD d f _ A E D F h (by omega)
section
variable (d:Nat->Int->Bool)
theorem aGG (A:List Int) (h:Int) (D:List Int):pmL d [] A h D=(A,D):=rfl
theorem wU (p:Pc) (n:Nat) (D:Int) (G:Bool) (I:Int) (H:Bool) (r:List PT) (F:List Int) (A:Int) (E:List Int):pmL d (⟨.leaf p,n,D,G,I,H⟩::r) F A E =
  if (brk (.leaf p) D G).2=true then pmL d r (F++[10]++replicate (brk (.leaf p) D G).1.toNat 32) (brk (.leaf p) D G).1 E
  else if p.k=1 then pmL d r (F++p.t) (A+aF p.t) E
  else if p.k=2 then pmL d r (F++[32]) (A+1) E
  else pmL d r F A E:=by
 rw [pmL,dI];simp only [pm,sz];have h:∀ a b c,pm d (p.t.length+1+szP r) r a b c=pmL d r a b c:=fun a b c=>xE (by omega);simp only [h]
theorem aC1 (p:Pc) (x:Tr) (n:Nat) (E:Int) (G:Bool) (D:Int) (F:Bool) (r:List PT) (I:List Int) (A:Int) (H:List Int):pmL d (⟨.un p x,n,E,G,D,F⟩::r) I A H =
  if p.k=7 then pmL d (⟨x,n,E+p.n,G,D,F⟩::r) I A H
  else pmL d (⟨x,n,E,G||kN (flatW x) A D (d (n+aP x)),D,F⟩::r) I A (H.set (n+aP x) (if (G||kN (flatW x) A D (d (n+aP x)))=true then 1 else 2)):=by
 rw [pmL,dI];simp only [pm,sz];have h:∀ i g a b c,pm d (p.t.length+1+sz x+szP r) (⟨x,n,i,g,D,F⟩::r) a b c=pmL d (⟨x,n,i,g,D,F⟩::r) a b c:=fun i g a b c=>xE (by rw [dI];simp only;omega);simp only [h]
theorem aAg (p:Pc) (x y:Tr) (n:Nat) (h:Int) (A:Bool) (E:Int) (D:Bool) (r:List PT) (J:List Int) (F:Int) (G:List Int):pmL d (⟨.bin p x y,n,h,A,E,D⟩::r) J F G =
  if p.k=6 then pmL d (⟨x,n,h,A,if (leadT y).2=true then (leadT y).1 else (leadT y).1+E,if (leadT y).2=true then (leadT y).2 else D⟩::⟨y,n+aP x,h,A,E,D⟩::r) J F G
  else pmL d (⟨if A then y else x,if A then n+aP x else n,h,A,E,D⟩::r) J F G:=by
 rw [pmL,dI];simp only [pm,sz]
 have M:∀ I H a b c,pm d (p.t.length+1+(sz x+sz y)+szP r) (⟨x,n,h,A,I,H⟩::⟨y,n+aP x,h,A,E,D⟩::r) a b c=pmL d (⟨x,n,h,A,I,H⟩::⟨y,n+aP x,h,A,E,D⟩::r) a b c:=
  fun I H a b c=>xE (by rw [dI,dI];simp only;omega)
 have N:∀ a b c,pm d (p.t.length+1+(sz x+sz y)+szP r) (⟨if A then y else x,if A then n+aP x else n,h,A,E,D⟩::r) a b c=pmL d (⟨if A then y else x,if A then n+aP x else n,h,A,E,D⟩::r) a b c:=
  fun a b c=>xE (by rw [dI];cases A<;>simp<;>omega)
 simp only [M,N]
theorem oN:∀ (T:Tr) (n:Nat) (D G:Int) (F:Bool) (r:List PT) (E:List Int) (A:Int) (H h:List Int),KOk T->aD T []=some h->
  pmL d (⟨T,n,D,true,G,F⟩::r) E A H=pmL d r (E++h) (A+flatW T) (jE T n H)
 | .leaf p,n,D,G,F,r,E,A,H,h,hk,ht=>by
   simp only [KOk] at hk;rw [wU];simp only [aD] at ht
   have hb:(brk (.leaf p) D true).2=false:=by
    simp only [brk]
    by_cases a1:p.k=4\/p.k=5
    .rw [if_neg (by omega),if_neg (by omega),if_neg (by omega)] at ht;cases ht
    .by_cases I:p.k=2\/p.k=3
     .simp [I]
     .rw [if_neg I,if_neg (by omega),if_neg (by omega)]
   rw [if_neg (by rw [hb];simp)];simp only [flatW,jE]
   by_cases J:p.k=1
   .rw [if_pos J];simp only [J] at ht ⊢;simp at ht;subst ht;simp
   .rw [if_neg J]
    by_cases M:p.k=2
    .rw [if_pos M];simp only [M] at ht ⊢;simp at ht;subst ht;simp
    .rw [if_neg M,if_neg J,if_neg M]
     by_cases N:p.k=0\/p.k=3
     .rw [if_pos N] at ht;cases ht;rw [if_neg (by omega)];simp
     .rw [if_neg N,if_neg J,if_neg M] at ht;cases ht
 | .un p x,n,D,G,F,r,E,A,H,h,hk,ht=>by
   simp only [KOk] at hk;simp only [aD] at ht;rw [aC1];simp only [flatW,jE];rcases hk.1 with h7 | h8
   .rw [if_pos h7,if_neg (by omega)];exact oN x n _ G F r E A H h hk.2 ht
   .rw [if_neg (by omega),if_pos h8];simp only [Bool.true_or,if_true];exact oN x n _ G F r E A _ h hk.2 ht
 | .bin p x y,n,D,G,F,r,E,A,H,h,hk,ht=>by
   simp only [KOk] at hk;simp only [aD] at ht;rw [aAg];simp only [flatW,jE];rcases hk.1 with S | h9
   .rw [if_pos S] at ht;rw [if_pos S,if_pos S,if_pos S];cases Y:aD x [] with
    | none=>rw [Y] at ht;simp at ht
    | some o=>
      rw [Y,Option.bind_some,lJ y o] at ht;cases O:aD y [] with
      | none=>rw [O] at ht;simp at ht
      | some q=>
        rw [O] at ht;simp at ht;subst ht;have hx:=(rQ x hk.2.1).1 o Y;have hy:=(rQ y hk.2.2).1 q O;rw [oN x n D _ _ _ E A H o hk.2.1 Y,oN y (n+aP x) D G F r _ _ _ q hk.2.2 O,if_neg (by omega)];rw [append_assoc,Int.add_assoc]
   .rw [if_neg (by omega)] at ht;have Z:¬ p.k=6:=(by omega);simp only [if_neg Z,if_true];exact oN y (n+aP x) D G F r E A H h hk.2.2 ht
end
theorem bO {a:World} {b r} (h:a.grownBy b r):a.grownBy b.drew r:=⟨h.os,h.tape,h.output,h.size,h.block⟩
theorem jN {w:World} {a} {u:Value} (h:w.cell? a=some u):∀ o,(w.alloc o).cell? a=some u:=fun o=>dT o h
theorem aIf (B) (N:Nat) (G:World) (w) (S:N=G.heap.size) (l a0 a1 a2 a3 wv tv hv ts tx H ch) (h:Pr N G w a0 a1 a2 a3 wv tv hv ts tx H ch) (v) (p:Pc) (x:Tr) (n) (A:Int) (I J M) (hn:cH B G l v (.un p x) n) (hk:p.k=7) (hi:0<=A/\A<=4000) (hp:0<=p.n/\p.n<=4000) (hl:ts.length<=1000000) :
  Calls prog 71 #[.pointer (some ⟨N,0,none⟩),oA v A I J M] w fun e w'=>e=.returned (.tuple #[])/\∃ u F,cH B G l u x n/\Pr N G w' a0 a1 a2 a3 F tv hv (ts++[⟨u,x,n,A+p.n,I,J,M⟩]) tx H ch:=by
 subst S;obtain ⟨b,u,c0,O,Y⟩:=hn.un;rcases Y with ⟨h1,_⟩ | ⟨_,a8,c1⟩
 .omega
 have E:=aC h.bel;have c8:=jN (E.cell c0 (by simp));have c4:=jN (E.cell c1 (by simp));have Z:Hid (∀ o,w.grownBy (w.alloc o).drew.drew none):=fun o=>bO (bO gWA);obtain ⟨tu,yu,D⟩:=O.rep.form;subst D;subst a8;obtain ⟨e1,e2,e3,e4,e5,e6,e7,e8,e9,c9⟩:=rB (.pointer (some ⟨b,0,none⟩));have c7:=h.lt;have HP:=bL h;have HU:=bL O;have hO:=yG 172 tu (.pointer (some ⟨b,0,none⟩)) yu (A+p.n) I J M;have HO:=bL hO;unfold oA at *;clear h hn O c0 c1 E hO
 go_enter func71,ntmps71
 go_wp2_with fail
 go_region
 go_wp2_with fail
 go_region_with (first | (go_at_call 111;refine (HO.out _).mono ?_;rintro e w2 ⟨rfl,g2⟩) | (go_at_call 67;refine (kG _ G w2 _ _ _ _ _ _ _ _ _ _ _ (HP.out.K (aA (Z.out _) g2)) ⟨.iface tu yu,x,n,A+p.n,I,J,M⟩ ⟨_,_,rfl⟩ hl).mono ?_;rintro e w3 ⟨rfl,⟨F,a5,_⟩,_,_⟩))
 all_goals
  go_wp2
  go_returns
  exact ⟨rfl,.iface tu yu,F,HU.out,a5⟩
theorem aKX (B) (pb:Nat) (J:World) (w) (a8:pb=J.heap.size) (l a0 a1 a2 a3 wv tv hv ts tx a4 ch) (h:Pr pb J w a0 a1 a2 a3 wv tv hv ts tx a4 ch) (v) (p:Pc) (x y:Tr) (n A E S Y) (hn:cH B J l v (.bin p x y) n) (hk:p.k=9) (hl:ts.length<=1000000) :
  Calls prog 71 #[.pointer (some ⟨pb,0,none⟩),oA v A E S Y] w fun e w'=>e=.returned (.tuple #[])/\∃ u D,cH B J l u (if E then y else x) (if E then n+aP x else n)/\Pr pb J w' a0 a1 a2 a3 D tv hv (ts++[⟨u,if E then y else x,if E then n+aP x else n,A,E,S,Y⟩]) tx a4 ch:=by
 subst a8;obtain ⟨b,u,u',c0,c1,hu,N,a9⟩:=hn.bin;rcases a9 with ⟨h1,_⟩ | ⟨_,b5⟩
 .omega
 have I:=aC h.bel;have d6:=jN (I.cell c0 (by simp));have d3:=jN (I.cell c1 (by simp));have Z:Hid (∀ o,w.grownBy (w.alloc o).drew none):=fun o=>bO gWA;obtain ⟨tu,yu,H⟩:=hu.rep.form;obtain ⟨G,O,F⟩:=N.rep.form;subst H F;subst b5;obtain ⟨e1,e2,e3,e4,e5,e6,e7,e8,e9,d7⟩:=xA (.pointer (some ⟨b,0,none⟩));have d5:=h.lt;have HP:=bL h;have HU:=bL hu;have a6:=bL N;have HO:=bL (yG 184 tu (.pointer (some ⟨b,0,none⟩)) yu A E S Y);have b0:=bL (yG 184 G (.pointer (some ⟨b,0,none⟩)) O A E S Y);unfold oA at *;clear h hn hu N c0 c1 I;cases E
 .go_enter func71,ntmps71
  go_wp2_with fail
  go_region_with (first | (go_at_call 111;refine (HO.out _).mono ?_;rintro e w2 ⟨rfl,g2⟩) | (go_at_call 67;refine (kG _ J w2 _ _ _ _ _ _ _ _ _ _ _ (HP.out.K (aA (Z.out _) g2)) ⟨.iface tu yu,x,n,A,false,S,Y⟩ ⟨_,_,rfl⟩ hl).mono ?_;rintro e w3 ⟨rfl,⟨D,M,_⟩,_,_⟩))
  all_goals
   go_wp2
   go_returns
   exact ⟨rfl,.iface tu yu,HU.out,D,M⟩
 .go_enter func71,ntmps71
  go_wp2_with fail
  go_region_with (first | (go_at_call 111;refine (b0.out _).mono ?_;rintro e w2 ⟨rfl,g2⟩) | (go_at_call 67;refine (kG _ J w2 _ _ _ _ _ _ _ _ _ _ _ (HP.out.K (aA (Z.out _) g2)) ⟨.iface G O,y,n+aP x,A,true,S,Y⟩ ⟨_,_,rfl⟩ hl).mono ?_;rintro e w3 ⟨rfl,⟨D,M,_⟩,_,_⟩))
  all_goals
   go_wp2
   go_returns
   exact ⟨rfl,.iface G O,a6.out,D,M⟩
end Go.Proofs.YtckcaefnokeodaaGreatDoor
