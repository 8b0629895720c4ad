import Derived.Test.YtckcaefnokeodaaGreatDoorMAN
import Derived.Test.YtckcaefnokeodaaGreatDoorMAT
set_option maxHeartbeats 16000000
set_option maxRecDepth 100000
namespace Go.Proofs.YtckcaefnokeodaaGreatDoor
open Go.Proofs.Tryz List
section
open Go.RowKit
theorem vK (a b:Int) (l:List Int):jG (a::b::l)=((decide (a=42)&&decide (b=47))||jG (b::l)):=rfl
theorem aMp:jG []=false:=rfl
theorem aMd (a:Int):jG [a]=false:=rfl
theorem aII:∀ (l:List Int),jG l=true ↔ ∃ i,i+1<l.length/\l[i]?.getD 0=42/\l[i+1]?.getD 0=47
 | []=>by simp [aMp]
 | [a]=>by simp [aMd]
 | a::b::l=>by
   rw [vK,Bool.or_eq_true,aII (b::l),Bool.and_eq_true,decide_eq_true_eq,decide_eq_true_eq];constructor
   .rintro (⟨A,h⟩ | ⟨i,A,h,D⟩)
    .exact ⟨0,by simp,by simpa using A,by simpa using h⟩
    .exact ⟨i+1,by simpa using A,by simpa using h,by simpa using D⟩
   .rintro ⟨i,A,h,D⟩;cases i with
    | zero=>exact .inl ⟨by simpa using h,by simpa using D⟩
    | succ i=>exact .inr ⟨i,by simpa using A,by simpa using h,by simpa using D⟩
theorem aGE (r:List Int):∀ (l:List Int),(∀ x∈l,128<=x)->jG (l++r)=jG r
 | [],_=>rfl
 | a::l,h=>by
   have ih:=aGE r l (fun x D=>h x (by simp [D]));have E:=h a (by simp);rw [cons_append];cases A:l++r with
   | nil=>
     rw [append_eq_nil_iff] at A;rw [A.2];rfl
   | cons b m=>
     rw [vK,<- A,ih,decide_eq_false (by omega)];rfl
theorem aGV (p:Int) (h:128<=p) (D:p<=1114111):∀ x∈enc p,128<=x:=by
 by_cases a:p<2048
 .rw [aF0 p (by omega) a];intro x A;simp only [mem_cons,not_mem_nil,or_false] at A;rcases A with rfl | rfl<;>omega
 .by_cases b:p<65536
  .rw [aFi p a b];intro x A;simp only [mem_cons,not_mem_nil,or_false] at A;rcases A with rfl | rfl | rfl<;>omega
  .rw [aFx p b];intro x A;simp only [mem_cons,not_mem_nil,or_false] at A;rcases A with rfl | rfl | rfl | rfl<;>omega
theorem aJK (p:Int) (E:0<=p) (D:p<=1114111):∃ x l,enc p=x::l/\(x=47 ↔ p=47):=by
 by_cases a:p<128
 .exact ⟨p,[],yQ p a,Iff.rfl⟩
 .have A:=aGV p (by omega) D;cases h:enc p with
  | nil=>have:=xF p;rw [h] at this;simp at this
  | cons x l=>
    rw [h] at A;have:=A x (by simp);exact ⟨x,l,rfl,by omega⟩
theorem aIH:∀ (A:List Int),A.all cC=true->jG (aQ A)=jG A
 | [],_=>rfl
 | p::A,h=>by
   simp only [all_cons,Bool.and_eq_true] at h;have ih:=aIH A h.2;have e:aQ (p::A)=enc p++aQ A:=(by simp [aQ]);obtain ⟨⟨I,p1⟩,_⟩:=aGP h.1;rw [e]
   by_cases a:p<128
   .rw [yQ p a];cases A with
    | nil=>rfl
    | cons q qs=>
      simp only [all_cons,Bool.and_eq_true] at h;obtain ⟨⟨E,G⟩,_⟩:=aGP h.2.1;obtain ⟨x,l,F,H⟩:=aJK q E G
      have D:aQ (q::qs)=x::(l++aQ qs):=by
       have:aQ (q::qs)=enc q++aQ qs:=by simp [aQ]
       rw [this,F];rfl
      rw [D] at ih ⊢;rw [singleton_append,vK,vK,ih];congr 2;exact decide_eq_decide.2 H
   .rw [aGE _ _ (aGV p (by omega) p1),ih];cases A with
    | nil=>rfl
    | cons q qs=>rw [vK,decide_eq_false (show ¬ p=42 by omega)];rfl
theorem aLd (b) (A:List Int) (S:∀ p∈A,p≠-1):(range A.length).all (cAt b A)=(A.all (okP b)&&(!b || !jG A)):=by
 rw [Bool.eq_iff_iff,Bool.and_eq_true,all_eq_true,all_eq_true];have I:∀ i,i<A.length->A[i]?.getD 0∈A:=fun i H=>by rw [getElem?_eq_getElem H];simp
 constructor
 .intro h;refine ⟨fun p Y=>?_,?_⟩
  .obtain ⟨i,H,rfl⟩:=getElem_of_mem Y;have F:=h i (by simpa using H);have Z:=S _ Y;unfold cAt at F;rw [getElem?_eq_getElem H,Bool.and_eq_true] at F;have G:=F.1;unfold okP;simp only [Option.getD_some] at G;rw [decide_eq_false Z];generalize lnE A[i]=L at *;generalize decide (A[i]=10)=D at *
   revert G
   cases L<;>cases D<;>cases b<;>decide
  .cases b with
   | false=>rfl
   | true=>
     cases hs:jG A with
     | false=>rfl
     | true=>
       obtain ⟨i,F,G,J⟩:=(aII A).1 hs;have N:=h (i+1) (by simpa using F);unfold cAt at N;rw [Nat.add_sub_cancel,G,J] at N;simp at N
 .rintro ⟨F,G⟩ i H;have O:i<A.length:=(by simpa using H);have J:=F _ (I i O);unfold cAt;rw [Bool.and_eq_true];constructor
  .unfold okP at J;generalize lnE (A[i]?.getD 0)=L at *;generalize decide (A[i]?.getD 0=10)=D at *;generalize decide (A[i]?.getD 0 = -1)=E at *
   revert J
   cases L<;>cases D<;>cases E<;>cases b<;>decide
  .cases b with
   | false=>rfl
   | true=>
     rw [Bool.true_and,Bool.not_eq_true'];apply eq_false_of_ne_true;intro M;simp only [Bool.and_eq_true,decide_eq_true_eq] at M;have:jG A=true:=(aII A).2 ⟨i - 1,by omega,M.2.2,by rw [show i - 1+1=i by omega];exact M.2.1⟩;rw [this] at G;simp at G
theorem aJT (c:Cm) (Y:Bys c.t):gM c=bH c:=by
 unfold gM bH
 by_cases h:∃ x∈lB c.t,x.2 = -1
 .obtain ⟨x,F,I⟩:=h;obtain ⟨q,r,Z⟩:=append_of_mem F;have E:eU c.t=([],2,x.1):=aCb (q:=q) (x:=x) ⟨r,by rw [Z];simp⟩ I
  have N:(lB c.t).all (fun x=>okP c.b x.2)=false:=by
   rw [all_eq_false];exact ⟨x,F,by unfold okP;rw [I];simp⟩
  rw [N,E];rfl
 .have H:∀ x∈lB c.t,x.2≠-1:=fun x F e=>h ⟨x,F,e⟩;have E:=aCq H;have J:(eU c.t).2.1=0:=(by rw [E]);have A:=vB Y J
  have D:((lB c.t).map (·.2)).all cC=true:=by
   rw [E] at A;apply Classical.byContradiction;intro O;unfold aDZ at A;rw [if_neg O] at A;have S:=congrArg Prod.snd A;simp at S
  have G:aQ ((lB c.t).map (·.2))=c.t:=by
   rw [E] at A;unfold aDZ at A;rw [if_pos D] at A;exact (Prod.mk.inj A).1
  rw [E];simp only [decide_true,Bool.true_and];rw [aLd c.b _ (fun p M=>by obtain ⟨x,F,rfl⟩:=mem_map.1 M;exact H x F)];rw [<- aIH _ D,G,all_map];rfl
theorem aCP (D) (h:zI D):D.all gM=D.all bH:=by
 rw [Bool.eq_iff_iff,all_eq_true,all_eq_true];exact ⟨fun a x A=>by rw [<- aJT x (h x A).2];exact a x A,fun a x A=>by rw [aJT x (h x A).2];exact a x A⟩
theorem aGv (n) (h:zM n):fS gM oP n ↔ fS bH dG n:=by
 unfold fS;rw [aCP _ h.l.2,aCP _ h.t.2,aMg]
theorem aCa (n:Nat) (r:Option (List Nod)) (h:∀ R,r=some R->R.length<=n):dD n r=(n:Int) ↔ r=some []:=by
 cases r with
 | none=>simp only [dD];constructor<;>intro h<;>first | (exfalso;omega) | cases h
 | some R=>
   have A:=h R rfl;simp only [dD,Option.some.injEq];constructor
   .intro h;exact eq_nil_of_length_eq_zero (by omega)
   .rintro rfl;simp
theorem aCx (t) (F:aE4 t):mN t=cZ t:=by
 have D:∀ R,iK t.N.length 201 false t.N=some R->R.length<=t.N.length:=fun R J=>by
  obtain ⟨i,O,rfl⟩:=uN t.N.length 201 false t.N (Nat.le_refl _) 0 R (by simpa using J);simp
 have H:=aFL bH dG t.N t.tail
 have I:cZ t=true ↔ t.N.length<=4000/\∃ s x,aE (dV bH dG) 201 false (t.N,(4000,100000))=some ([],s)/\mW bH t.tail s=some x:=by
  unfold cZ;rw [Bool.and_eq_true,decide_eq_true_eq];refine and_congr Iff.rfl ?_;cases M:aE (dV bH dG) 201 false (t.N,(4000,100000)) with
  | none=>simp
  | some y=>
    obtain ⟨R,s⟩:=y;cases R with
    | cons n R=>simp
    | nil=>
      simp only [Option.isSome_iff_exists,Option.some.injEq,Prod.mk.injEq,true_and];constructor
      .rintro ⟨x,G⟩;exact ⟨s,x,rfl,G⟩
      .rintro ⟨S,x,rfl,G⟩;exact ⟨x,G⟩
 have E:t.N.all aU=true ↔ ∀ n∈t.N,fS bH dG n:=by
  rw [all_eq_true];exact ⟨fun h n A=>(aGv n (F.n n A).1).1 ((rL n).1 (h n A)),fun h n A=>(rL n).2 ((aGv n (F.n n A).1).2 (h n A))⟩
 rw [Bool.eq_iff_iff,I,H];unfold mN;simp only [Bool.and_eq_true,decide_eq_true_eq];rw [E,aCP _ F.t.2,aCa _ _ D];constructor
 .rintro ⟨a,b,⟨c,d⟩,e,f,g⟩;exact ⟨b,c,d,e,f,g⟩
 .rintro ⟨b,c,d,e,f,g⟩;refine ⟨?_,b,⟨c,d⟩,e,f,g⟩;cases A:t.N with
  | nil=>rw [A] at g;simp [iK] at g
  | cons n R=>simp
end
def bhO (T:Tr) (b:Int):Int:=if (leadT T).2=true then (leadT T).1 else (leadT T).1+b
def bhL:List Tr->Int->Int
 | [],b=>b
 | T::r,b=>bhO T (bhL r b)
def ly (width:Int):Tr->Int->Int->Int->List Int × Int
 | .leaf p,ind,col,_=>
   if p.k=1 then (p.t,col+aF p.t) else if p.k=5 then ([10],0) else if p.k=2\/p.k=3\/p.k=4 then (aO ind,ind) else ([],col)
 | .bin p x y,ind,col,b=>
   if p.k=6 then ((ly width x ind col (bhO y b)).1++(ly width y ind (ly width x ind col (bhO y b)).2 b).1,(ly width y ind (ly width x ind col (bhO y b)).2 b).2)
   else ly width x ind col b
 | .un p x,ind,col,b=>
   if p.k=7 then ly width x (ind+p.n) col b
   else match aD x [] with
    | some text=>if col+aF text+b<=width then (text,col+aF text) else ly width x ind col b
    | none=>ly width x ind col b
def lyL (width:Int):List Tr->Int->Int->Int->List Int × Int
 | [],_,col,_=>([],col)
 | T::r,ind,col,b=>((ly width T ind col (bhL r b)).1++(lyL width r ind (ly width T ind col (bhL r b)).2 b).1,(lyL width r ind (ly width T ind col (bhL r b)).2 b).2)
def lyS (width:Int):List iF->Int->List Int
 | [],_=>[]
 | it::r,col=>(ly width it.T it.ind col (dZ (r.map (·.T)))).1++lyS width r (ly width it.T it.ind col (dZ (r.map (·.T)))).2
theorem nU (A):∀ (f:Nat) (G:List iF) (D F:List Int) (E:Int) (r:List Int × List Int),lay A none f G D F E=some r->r.1=D++lyS A G E
 | 0,_,_,_,_,_,h=>by simp [lay] at h
 | f+1,[],D,F,E,r,h=>by simp only [lay,Option.some.injEq] at h;subst h;simp [lyS]
 | f+1,⟨.leaf p,n,ind⟩::rest,D,F,E,r,h=>by
   simp only [lay] at h;simp only [lyS,ly]
   split at h
   .rename_i h1
    rw [nU A f _ _ _ _ _ h];simp [h1]
   .rename_i h1
    split at h
    .rename_i h2
     rw [nU A f _ _ _ _ _ h];simp [h2]
    .rename_i h2
     split at h
     .rename_i h3
      rw [nU A f _ _ _ _ _ h];simp [h1,h2,h3]
     .rename_i h3
      rw [nU A f _ _ _ _ _ h];simp [h1,h2,h3]
 | f+1,⟨.bin p x y,n,ind⟩::rest,D,F,E,r,h=>by
   simp only [lay] at h;simp only [lyS,ly]
   split at h
   .rename_i h1
    rw [nU A f _ _ _ _ _ h];simp only [lyS,map_cons,dZ,h1,if_true,bhO,append_assoc]
   .rename_i h1
    rw [nU A f _ _ _ _ _ h];simp only [lyS,h1,if_false]
 | f+1,⟨.un p x,n,ind⟩::rest,D,F,E,r,h=>by
   simp only [lay] at h;simp only [lyS,ly]
   split at h
   .rename_i h1
    rw [nU A f _ _ _ _ _ h];simp only [lyS,h1,if_true]
   .rename_i h1
    simp only [h1,if_false];cases H:aD x [] with
    | some text=>
      rw [H] at h;simp only at h ⊢
      split at h
      .rename_i h2
       rw [nU A f _ _ _ _ _ h];simp only [h2,if_true,append_assoc]
      .rename_i h2
       rw [nU A f _ _ _ _ _ h];simp only [lyS,h2,if_false]
    | none=>
      rw [H] at h;simp only at h ⊢;rw [nU A f _ _ _ _ _ h];simp only [lyS]
theorem aKF (h A:List Tr) (b):bhL (h++A) b=bhL h (bhL A b):=by
 induction h with
 | nil=>rfl
 | cons T r ih=>simp only [cons_append,bhL,ih]
theorem aKS (h) (F E:List Tr) (A D b):lyL h (F++E) A D b=((lyL h F A D (bhL E b)).1++(lyL h E A (lyL h F A D (bhL E b)).2 b).1,(lyL h E A (lyL h F A D (bhL E b)).2 b).2):=by
 induction F generalizing D with
 | nil=>simp [lyL]
 | cons T r ih=>simp only [cons_append,lyL,ih,aKF,append_assoc]
def uW (a b:Tr):Tr:=.bin wV a b
def iZ:List Tr->Tr
 | []=>.leaf ⟨0,[],0⟩
 | T::r=>r.foldl uW T
theorem aLn (h) (r:List Tr):∀ (T:Tr) (A D b:Int),ly h (r.foldl uW T) A D b=lyL h (T::r) A D b:=by
 induction r with
 | nil=>intro T A D b;simp [lyL,bhL]
 | cons U r ih=>
   intro T A D b;rw [foldl_cons,ih];simp only [lyL,bhL,uW,ly,wV,if_true,append_assoc]
theorem aH1 (h E A D b):ly h (iZ E) A D b=lyL h E A D b:=by
 cases E with
 | nil=>simp [iZ,ly,lyL]
 | cons T r=>exact aLn h r T A D b
def Bl (ps:List Pc) (T:Tr):Prop:=∀ st,bd ps st=some (T::st)
theorem vA:∀ (A h:List Pc) (st:List Tr),bd (A++h) st=(bd A st).bind (bd h)
 | [],h,st=>rfl
 | p::A,h,st=>by
   simp only [cons_append,bd];cases dC st p with
   | none=>rfl
   | some s=>simp only [Option.bind_some];exact vA A h s
theorem aDX (p:Pc) (h:ar p.k=0):Bl [p] (.leaf p):=fun st=>by simp [bd,dC,h]
theorem aJ3 {A T} (h:Bl A T) (p:Pc) (D:ar p.k=1):Bl (A++[p]) (.un p T):=fun st=>by
 rw [vA,h,Option.bind_some];simp [bd,dC,D]
theorem aMk {ps qs T U} (h:Bl ps T) (A:Bl qs U) (p:Pc) (D:ar p.k=2):Bl (ps++(qs++[p])) (.bin p T U):=fun st=>by
 rw [vA,h,Option.bind_some,vA,A,Option.bind_some];simp [bd,dC,D]
inductive BlL:List (List Pc)->List Tr->Prop where
 | nil:BlL [] []
 | cons {ds T dss Ts} : Bl ds T->BlL dss Ts->BlL (ds::dss) (T::Ts)
theorem BlL.app {a b x y} (h:BlL a x) (A:BlL b y):BlL (a++b) (x++y):=by
 induction h with
 | nil=>exact A
 | cons h1 _ ih=>exact .cons h1 ih
theorem BlL.one {a x} (h:Bl a x):BlL [a] [x]:=.cons h .nil
theorem aK3 {A D} (h:BlL A D):∀ (T:Tr) (st:List Tr),bd (jM A) (T::st)=some (D.foldl uW T::st):=by
 induction h with
 | nil=>intro T st;rfl
 | @cons ds U A D h1 _ ih=>
   intro T st;have e:jM (ds::A)=(ds++[wV])++jM A:=(by simp [jM]);rw [e,vA,vA,h1,Option.bind_some];simp only [bd,dC,wV,ar];exact ih (uW T U) st
theorem yP {A D} (h:BlL A D):Bl (eR A) (iZ D):=by
 intro st;cases h with
 | nil=>exact aDX ⟨0,[],0⟩ (by simp [ar]) st
 | cons h1 h2=>rw [eR,vA,h1,Option.bind_some];exact aK3 h2 _ st
def Vt (t:List Int):Prop:=∃ q:List Int,q.all cC=true/\t=aQ q
theorem aBf (q r:List Int):aQ (q++r)=aQ q++aQ r:=by simp [aQ]
theorem nJ:Vt []:=⟨[],rfl,rfl⟩
theorem lN {a b} (h:Vt a) (D:Vt b):Vt (a++b):=by
 obtain ⟨q,E,rfl⟩:=h;obtain ⟨r,A,rfl⟩:=D;exact ⟨q++r,by rw [all_append,E,A];rfl,(aBf q r).symm⟩
theorem kW {q:List Int} (h:q.all cC=true):aF (aQ q)=q.length:=by
 have:=aBg h;rw [pW _ h] at this;exact this
theorem aMF {t} (h:Vt t):0<=aF t:=by
 obtain ⟨q,A,rfl⟩:=h;rw [kW A];omega
theorem aIL {a b} (D:Vt a) (E:Vt b):aF (a++b)=aF a+aF b:=by
 obtain ⟨q,A,rfl⟩:=D;obtain ⟨r,h,rfl⟩:=E;rw [<- aBf,kW A,kW h,kW (by rw [all_append,A,h];rfl)];simp
theorem jK {t:List Int} (h:∀ x∈t,0<=x/\x<128):Vt t:=by
 induction t with
 | nil=>exact nJ
 | cons x t ih=>
   have A:=h x (by simp);have:Vt [x]:=⟨[x],by simp [cC];omega,by simp [aQ,yQ x A.2]⟩;exact lN this (ih (fun y D=>h y (by simp [D])))
theorem aNd {a} (G:Bys a) (h:0<=aF a):Vt a:=by
 have F:(eU a).2.1=0:=by
  apply Classical.byContradiction;intro E;rw [aCK E] at h;omega
 have D:=vB G F
 by_cases A:(eU a).1.all cC=true
 .rw [pW _ A] at D;exact ⟨_,A,(by simpa using congrArg Prod.fst D.symm)⟩
 .rw [aEf _ (by simpa using A)] at D;simp at D
theorem aGi {p} (h:cC p=true):0<=p/\p<=1114111:=by
 simp [cC] at h;omega
theorem aJo (p:Int) (h:128<=p) (D:p<=1114111):∀ x∈enc p,128<=x:=by
 by_cases a:p<2048
 .rw [aF0 p (by omega) a];intro x A;simp only [mem_cons,not_mem_nil,or_false] at A;rcases A with rfl | rfl<;>omega
 .by_cases b:p<65536
  .rw [aFi p a b];intro x A;simp only [mem_cons,not_mem_nil,or_false] at A;rcases A with rfl | rfl | rfl<;>omega
  .rw [aFx p b];intro x A;simp only [mem_cons,not_mem_nil,or_false] at A;rcases A with rfl | rfl | rfl | rfl<;>omega
theorem aDl {p} (h:cC p=true) (E:p≠10):10 ∉ enc p:=by
 by_cases A:p<128
 .rw [yQ p A];simp;omega
 .intro D;have:=aJo p (by omega) (aGi h).2 10 D;omega
def gN:List Int->List Int->List Int
 | cur,[]=>cur
 | cur,x::xs=>if x=10 then gN [] xs else gN (cur++[x]) xs
theorem nI (h) (a b:List Int):gN h (a++b)=gN (gN h a) b:=by
 induction a generalizing h with
 | nil=>rfl
 | cons x a ih=>simp only [cons_append,gN];split<;>exact ih _
theorem oL {a:List Int} (h:10 ∉ a) (A):gN A a=A++a:=by
 induction a generalizing A with
 | nil=>simp [gN]
 | cons x a ih=>
   simp only [mem_cons,not_or] at h;simp only [gN,if_neg (fun e=>h.1 (Eq.symm e)),ih h.2];simp
theorem aGg (h) (a:List Int):gN h (10::a)=gN [] a:=by simp [gN]
theorem aDK {p:Int} {q:List Int} (h:(p::q).all cC=true):cC p=true/\q.all cC=true:=by simpa using h
theorem aNn {h t} (D:Vt h) (G:Vt t):Vt (gN h t):=by
 obtain ⟨q,F,rfl⟩:=G
 induction q generalizing h with
 | nil=>exact D
 | cons p q ih=>
   obtain ⟨E,H⟩:=aDK F;rw [show aQ (p::q)=enc p++aQ q by simp [aQ],nI];refine ih ?_ H
   by_cases A:p=10
   .subst A;rw [yQ 10 (by omega)];simp only [gN,if_true];exact nJ
   .rw [oL (aDl E A)];exact lN D ⟨[p],by simp [E],by simp [aQ]⟩
def fJ (out:List Int):Int:=aF (gN [] out)
theorem aMJ {q:List Int} (h:q.all cC=true):∀ (A:List Int),Vt A->10 ∉ A->∀ l∈spl A (aQ q),Vt l/\10 ∉ l:=by
 induction q with
 | nil=>intro A H I l D;simp [aQ,spl] at D;subst D;exact ⟨H,I⟩
 | cons p q ih=>
   intro A H I l D;obtain ⟨M,N⟩:=aDK h;rw [show aQ (p::q)=enc p++aQ q by simp [aQ]] at D
   by_cases E:p=10
   .subst E;rw [yQ 10 (by omega)] at D;simp only [cons_append,nil_append,spl,if_true,mem_cons] at D;rcases D with rfl | D
    .exact ⟨H,I⟩
    .exact ih N [] nJ (by simp) l D
   .have G:=aDl M E
    have F:∀ (e A:List Int),10 ∉ e->spl A (e++aQ q)=spl (A++e) (aQ q):=by
     intro e
     induction e with
     | nil=>intro A _;simp
     | cons x e ihe=>
       intro A J;simp only [mem_cons,not_or] at J;simp only [cons_append,spl,if_neg (fun e=>J.1 (Eq.symm e)),ihe _ J.2];simp
    rw [F _ _ G] at D;exact ih N _ (lN H ⟨[p],by simp [M],by simp [aQ]⟩) (by simp only [mem_append,not_or];exact ⟨I,G⟩) l D
def aBi:List (List Int)->List Int
 | []=>[]
 | [l]=>l
 | l::ls=>l++10::aBi ls
theorem aJi (D):∀ A,aBi (spl A D)=A++D:=by
 induction D with
 | nil=>intro A;simp [spl,aBi]
 | cons x D ih=>
   intro A;simp only [spl]
   split
   .rename_i h
    subst h;have E:=ih [];cases F:spl [] D with
    | nil=>exact absurd F (aH4 _ _)
    | cons l ls=>rw [F] at E;simp only [aBi,E];simp
   .rw [ih];simp
def OkT:Tr->Prop
 | .leaf p=>p.k=1->Vt p.t/\10 ∉ p.t
 | .un p x=>0<=p.n/\OkT x
 | .bin _ x y=>OkT x/\OkT y
theorem nW:∀ (T:Tr) (h:List Int),aD T h=(aD T []).map (h++·)
 | .leaf p,h=>by
   simp only [aD]
   split
   .simp
   .split
    .simp
    .split<;>simp
 | .un p x,h=>by simp only [aD];exact nW x h
 | .bin p x y,h=>by
   simp only [aD]
   split
   .rw [nW x h];cases aD x [] with
    | none=>rfl
    | some o=>
      simp only [Option.map_some,Option.bind_some];rw [nW y (h++o),nW y o];cases aD y [] with
      | none=>rfl
      | some o2=>simp
   .exact nW y h
theorem aIF (x y):aD (uW x y) []=(aD x []).bind fun a=>(aD y []).map (a++·):=by
 simp only [uW,aD,wV,if_true];cases aD x [] with
 | none=>rfl
 | some o=>simp only [Option.bind_some];exact nW y o
theorem tA:∀ (T:Tr) (o:List Int),OkT T->aD T []=some o->Vt o/\10 ∉ o
 | .leaf p,o,h,hf=>by
   simp only [aD] at hf
   split at hf
   .cases hf;exact ⟨nJ,by simp⟩
   .split at hf
    .rename_i hk;cases hf;simpa using h hk
    .split at hf
     .cases hf;exact ⟨jK (by simp),by simp⟩
     .cases hf
 | .un p x,o,h,hf=>tA x o h.2 hf
 | .bin p x y,o,h,hf=>by
   simp only [aD] at hf
   split at hf
   .cases D:aD x [] with
    | none=>rw [D] at hf;cases hf
    | some a=>
      rw [D,Option.bind_some,nW] at hf;cases A:aD y [] with
      | none=>rw [A] at hf;cases hf
      | some b=>
        rw [A] at hf;cases hf;obtain ⟨F,H⟩:=tA x a h.1 D;obtain ⟨G,E⟩:=tA y b h.2 A;exact ⟨lN F G,by simp only [mem_append,not_or];exact ⟨H,E⟩⟩
   .exact tA y o h.2 hf
theorem aM3 (n):Vt (replicate n 32):=jK (fun x h=>by simp at h;omega)
theorem aM6 (n:Nat):10 ∉ replicate n (32:Int):=fun h=>by simp at h
theorem aJY (n):aF (replicate n 32)=n:=by
 have h:(replicate n (32:Int)).all cC=true:=by simp [cC]
 have e:aQ (replicate n 32)=replicate n 32:=by
  induction n with
  | zero=>rfl
  | succ n ih=>
    have:=ih (by simp [cC]);simp only [replicate_succ,aQ,flatMap_cons] at this ⊢;rw [this,yQ 32 (by omega)];rfl
 rw [<- e,kW h];simp
theorem uM (A):∀ (T:Tr) (E b:Int) (D:List Int),OkT T->0<=E->Vt D->
  (ly A T E (aF D) b).2=aF (gN D (ly A T E (aF D) b).1)/\Vt (gN D (ly A T E (aF D) b).1)
 | .leaf p,E,b,D,h,hi,hc=>by
   simp only [ly]
   split
   .rename_i hk
    obtain ⟨F,G⟩:=h hk;simp only [oL G];exact ⟨(aIL hc F).symm,lN hc F⟩
   .split
    .exact ⟨by simp only [gN,if_true];have:=kW (q:=[]) rfl;simpa [aQ] using this.symm,by simp only [gN,if_true];exact nJ⟩
    .split
     .simp only [aO,aGg,oL (aM6 _),nil_append,aJY];exact ⟨by omega,aM3 _⟩
     .exact ⟨rfl,hc⟩
 | .bin p x y,E,b,D,h,hi,hc=>by
   simp only [ly]
   split
   .obtain ⟨F,G⟩:=uM A x E (bhO y b) D h.1 hi hc;rw [F];obtain ⟨J,H⟩:=uM A y E b _ h.2 hi G;simp only [nI];exact ⟨J,H⟩
   .exact uM A x E b D h.1 hi hc
 | .un p x,E,b,D,h,hi,hc=>by
   simp only [ly]
   split
   .exact uM A x _ b D h.2 (by have:=h.1;omega) hc
   .cases I:aD x [] with
    | none=>exact uM A x E b D h.2 hi hc
    | some text=>
      simp only
      split
      .obtain ⟨F,G⟩:=tA x text h.2 I;simp only [oL G];exact ⟨(aIL hc F).symm,lN hc F⟩
      .exact uM A x E b D h.2 hi hc
def bB (k:Int):Tr:=.leaf ⟨k,[],0⟩
def bS (t:List Int):Tr:=.leaf ⟨1,t,0⟩
def zA:List (List Int)->List Tr
 | []=>[]
 | [l]=>[bS l]
 | l::ls=>bS l::bB 5::zA ls
def nO (c:Cm):List Int:=if c.b then 47::42::c.t++[42,47] else 47::47::c.t
def qW (c:Cm):Tr:=if c.b then iZ (zA (spl [] (47::42::c.t++[42,47]))) else bS (47::47::c.t)
def fV (cs:List Cm):List Tr:=cs.flatMap fun c=>[qW c,bB 4]
def jI (cs:List Cm):List Tr:=cs.flatMap fun c=>[bB 4,qW c]
def qB (n:Nod):List Tr:=if n.mem then [bS (iT n.key++[58,32])] else []
def aCz (n:Nod):List Int:=
 if n.k=3 then n.X else if n.k=4 then (quR n.U).1
 else if n.k=0 then [110,117,108,108] else if n.k=1 then [116,114,117,101] else [102,97,108,115,101]
section
variable (V:List Nod->Tr) (P:List Nod->List Pc × List Nod)
def oE:List Nod->List Tr
 | []=>[]
 | n::R=>fV n.L++(qB n++[V (n::R)])
def qQ:Nat->List Nod->List Tr
 | 0,_=>[]
 | k+1,R=>qQ k R++((if k=0 then [] else [bS [44],bB 2])++oE V (bE P k R))
end
def aBt:Tr:=.bin ⟨9,[],0⟩ (bS [44]) (bB 0)
def aIE (k:Int) (items:List Tr) (tail:List Cm):List Tr:=bB (oV k)::(items++(aBt::jI tail))
def mP (ind:Int) (Ts:List Tr):Tr:=.un ⟨7,[],ind⟩ (iZ Ts)
def tQ (ind:Int) (n:Nod) (items:List Tr):Tr:=iZ [bS [jW n.k],mP ind (aIE n.k items n.tail),bB (oV n.k),bS [kH n.k]]
def qV (ind:Int) (n:Nod) (items:List Tr):Tr:=
 if n.C=0 then
  if n.tail=[] then bS [jW n.k,kH n.k]
  else iZ [bS [jW n.k],mP ind (jI n.tail),bB 4,bS [kH n.k]]
 else .un ⟨8,[],0⟩ (tQ ind n items)
def bJ (ind:Int):Nat->List Nod->Tr
 | 0,_=>bB 0
 | _+1,[]=>bB 0
 | d+1,n::R=>if n.k<5 then bS (aCz n) else qV ind n (qQ (bJ ind d) (aH ind d) n.C.toNat R)
theorem kJ (k:Int) (h:ar k=0):Bl (aM k) (bB k):=aDX ⟨k,[],0⟩ h
theorem jT (t:List Int):Bl (aI t) (bS t):=aDX ⟨1,t,0⟩ (by simp [ar])
theorem aJM:∀ h,BlL (tK h) (zA h)
 | []=>.nil
 | [l]=>.cons (jT l) .nil
 | l::m::h=>.cons (jT l) (.cons (kJ 5 (by simp [ar])) (aJM (m::h)))
theorem aIY (c:Cm):Bl (kC c) (qW c):=by
 unfold kC qW
 split
 .exact yP (aJM _)
 .exact jT _
theorem aDH:∀ h,BlL (bT h) (fV h)
 | []=>.nil
 | c::h=>by
   rw [show bT (c::h)=[kC c,aM 4]++bT h by simp [bT],show fV (c::h)=[qW c,bB 4]++fV h by simp [fV]];exact .cons (aIY c) (.cons (kJ 4 (by simp [ar])) (aDH h))
theorem aF4:∀ h,BlL (cW h) (jI h)
 | []=>.nil
 | c::h=>by
   rw [show cW (c::h)=[aM 4,kC c]++cW h by simp [cW],show jI (c::h)=[bB 4,qW c]++jI h by simp [jI]];exact .cons (kJ 4 (by simp [ar])) (.cons (aIY c) (aF4 h))
theorem aME (n:Nod):BlL (mK n) (qB n):=by
 unfold mK qB
 split
 .exact .one (jT _)
 .exact .nil
theorem aKW (n:Nod):fP n=aI (aCz n):=by
 unfold fP aCz
 split
 .rfl
 .split
  .rfl
  .split
   .rfl
   .split<;>rfl
theorem aMy:Bl aEm aBt:=aMk (ps:=[⟨1,[44],0⟩]) (qs:=[⟨0,[],0⟩]) (jT [44]) (kJ 0 (by simp [ar])) ⟨9,[],0⟩ (by simp [ar])
theorem aJW (k:Int):ar (oV k)=0:=by unfold oV;split<;>simp [ar]
theorem aKP {D:Int} {n:Nod} {A:List (List Pc)} {E:List Tr} (h:BlL A E):Bl (lD D n A) (qV D n E):=by
 unfold lD qV
 split
 .split
  .exact jT _
  .exact yP (.cons (jT _) (.cons (aJ3 (yP (aF4 _)) ⟨7,[],D⟩ (by simp [ar])) (.cons (kJ 4 (by simp [ar])) (.cons (jT _) .nil))))
 .refine aJ3 (yP (.cons (jT _) (.cons (aJ3 (yP (.cons (kJ _ (aJW _)) (h.app (.cons aMy (aF4 _))))) ⟨7,[],D⟩ (by simp [ar])) (.cons (kJ _ (aJW _)) (.cons (jT _) .nil))))) ⟨8,[],0⟩ (by simp [ar])
theorem tC {d:Nat} {m:Bool} {ind:Int} {k:Nat} {R A:List Nod} (h:aN (aE bD d m) k (R,())=some (A,())) (G:∀ n∈R,n.k<5->n.C=0) {j:Nat} (I:j<k) :
  aE bD d m (bE (aH ind d) j R,())=some (bE (aH ind d) (j+1) R,())/\∃ Q,R=Q++bE (aH ind d) j R:=by
 have F:=pK (ind:=ind) (fun R A h H=>sB ind d m R A h H) k R A h G;have D:=F j (by omega);have E:=F (j+1) (by omega);rw [qD,D,Option.bind_some] at E;exact ⟨E,(iO (cB bD d m).1 (cB bD d m).2 j).2 _ _ D⟩
theorem pI {d:Nat} {m:Bool} {n:Nod} {R E:List Nod} (h:aE bD (d+1) m (n::R,())=some (E,())):n.mem=m/\¬ (5<=n.k/\d=0)/\aN (aE bD d (decide (n.k=6))) n.C.toNat (R,())=some (E,()):=by
 by_cases A:n.mem≠m
 .simp [aE,A] at h
 .by_cases D:5<=n.k/\d=0
  .simp [aE,A,D,bD] at h
  .simp only [aE,if_neg A,if_neg D,bD,Option.bind_some] at h;exact ⟨by simpa using A,D,h⟩
theorem wQ {d:Nat} {m:Bool} {R D:List Nod} (h:aE bD d m (R,())=some (D,())):∃ n A,R=n::A:=by
 rcases R with _ | ⟨n,A⟩
 .cases d<;>simp [aE] at h
 .exact ⟨n,A,rfl⟩
theorem aM5 {V:List Nod->Tr} {P:List Nod->List Pc × List Nod} (R:List Nod) (h:Bl (P R).1 (V R)):BlL (jF P R) (oE V R):=by
 cases R with
 | nil=>exact .nil
 | cons n R=>exact (aDH _).app ((aME n).app (.one h))
theorem aIq {V:List Nod->Tr} {P:List Nod->List Pc × List Nod} (R:List Nod):∀ k,(∀ j,j<k->Bl (P (bE P j R)).1 (V (bE P j R)))->BlL (itK P k R) (qQ V P k R)
 | 0,_=>.nil
 | k+1,h=>by
   refine (aIq R k (fun j A=>h j (by omega))).app (BlL.app ?_ (aM5 _ (h k (by omega))))
   split
   .exact .nil
   .exact .cons (jT _) (.one (kJ 2 (by simp [ar])))
theorem aDU (A:Int):∀ (d:Nat) (m:Bool) (R E:List Nod),aE bD d m (R,())=some (E,())->(∀ n∈R,n.k<5->n.C=0)->Bl (aH A d R).1 (bJ A d R)
 | 0,m,R,E,h,_=>by simp [aE] at h
 | d+1,m,[],E,h,_=>by simp [aE] at h
 | d+1,m,n::R,E,h,hn=>by
   obtain ⟨_,_,J⟩:=pI h;have D:∀ p∈R,p.k<5->p.C=0:=fun p F=>hn p (by simp [F]);simp only [aH,bJ]
   split
   .rw [aKW];exact jT _
   .refine aKP (aIq R _ fun j G=>?_);obtain ⟨I,Q,H⟩:=tC (ind:=A) J D G;exact aDU A d _ _ _ I (fun p F=>D p (by rw [H];exact mem_append_right _ F))
theorem sI (h:Int) (t:List Int) (D A b:Int):ly h (bS t) D A b=(t,A+aF t):=by simp [ly,bS]
theorem sV (A:Int) {k:Int} (E:k=2\/k=3\/k=4) (h D b:Int):ly A (bB k) h D b=(aO h,h):=by
 simp only [ly,bB];rw [if_neg (by omega),if_neg (by omega),if_pos E]
theorem aKh (h:Int):∀ (E:List (List Int)) (A D b:Int),(lyL h (zA E) A D b).1=aBi E
 | [],_,_,_=>rfl
 | [l],A,D,b=>by simp [zA,lyL,sI,aBi]
 | l::m::E,A,D,b=>by
   simp only [zA,lyL,sI,aBi];rw [aKh h (m::E)];simp [ly,bB]
theorem aJX (h:Int) (c:Cm) (A D b:Int):(ly h (qW c) A D b).1=nO c:=by
 unfold qW nO
 split
 .rw [aH1,aKh,aJi];simp
 .rw [sI]
def aS (cs:List Cm) (ind:Int):List Int:=cs.flatMap fun c=>nO c++aO ind
def eA (cs:List Cm) (ind:Int):List Int:=cs.flatMap fun c=>aO ind++nO c
def iL (n:Nod):List Int:=if n.mem then iT n.key++[58,32] else []
theorem aC3 (h:Int):∀ (D:List Cm) (A E b:Int),(lyL h (fV D) A E b).1=aS D A
 | [],_,_,_=>rfl
 | c::D,A,E,b=>by
   rw [show fV (c::D)=qW c::bB 4::fV D by simp [fV]];simp only [lyL,sV h (.inr (.inr rfl)),aC3 h D,aJX];simp [aS]
theorem aFQ (h:Int):∀ (D:List Cm) (A E b:Int),(lyL h (jI D) A E b).1=eA D A
 | [],_,_,_=>rfl
 | c::D,A,E,b=>by
   rw [show jI (c::D)=bB 4::qW c::jI D by simp [jI]];simp only [lyL,sV h (.inr (.inr rfl)),aFQ h D,aJX];simp [eA]
theorem aL6 (h:Int) (n:Nod) (A D b:Int):(lyL h (qB n) A D b).1=iL n:=by
 unfold qB iL
 split
 .simp [lyL,sI]
 .rfl
def Cu (out:List Int):Prop:=Vt (gN [] out)
def LX (width:Int) (T:Tr) (ind:Int) (out:List Int) (b:Int):List Int:=(ly width T ind (fJ out) b).1
def LXL (width:Int) (Ts:List Tr) (ind:Int) (out:List Int) (b:Int):List Int:=(lyL width Ts ind (fJ out) b).1
def OkL (Ts:List Tr):Prop:=∀ T∈Ts,OkT T
theorem qA {width:Int} {T:Tr} {ind b:Int} {A:List Int} (h:OkT T) (F:0<=ind) (D:Cu A):(ly width T ind (fJ A) b).2=fJ (A++LX width T ind A b)/\Cu (A++LX width T ind A b):=by
 obtain ⟨E,G⟩:=uM width T ind b _ h F D;unfold fJ Cu LX;rw [nI];exact ⟨E,G⟩
theorem kK {A:Int} {T:Tr} {r:List Tr} {E b:Int} {D:List Int} (h:OkT T) (G:0<=E) (F:Cu D):LXL A (T::r) E D b=LX A T E D (bhL r b)++LXL A r E (D++LX A T E D (bhL r b)) b:=by
 simp only [LXL,lyL,LX];rw [(qA (width:=A) (b:=bhL r b) h G F).1];rfl
theorem vD {width:Int} {D b:Int} (F:0<=D):∀ {E:List Tr} {A:List Int},OkL E->Cu A->(lyL width E D (fJ A) b).2=fJ (A++LXL width E D A b)/\Cu (A++LXL width E D A b)
 | [],A,_,hc=>by simp only [LXL,lyL,append_nil];exact ⟨trivial,hc⟩
 | T::r,A,h,hc=>by
   have G:=h T (by simp);obtain ⟨J,M⟩:=qA (width:=width) (b:=bhL r b) G F hc;obtain ⟨N,I⟩:=vD (width:=width) (b:=b) F (fun U H=>h U (by simp [H]):OkL r) M;rw [kK G F hc,<- append_assoc];refine ⟨?_,I⟩;simp only [lyL];rw [J];exact N
theorem vP {A:Int} {G F:List Tr} {E b:Int} {D:List Int} (h:OkL G) (I:0<=E) (H:Cu D):LXL A (G++F) E D b=LXL A G E D (bhL F b)++LXL A F E (D++LXL A G E D (bhL F b)) b:=by
 simp only [LXL,aKS];rw [(vD (width:=A) (b:=bhL F b) I h H).1];rfl
theorem aFk (h:Int) (E:List Tr) (A:Int) (D:List Int) (b:Int):LX h (iZ E) A D b=LXL h E A D b:=by unfold LX LXL;rw [aH1]
theorem zT {k:Int} (A:k=2\/k=3\/k=4) (b:Int):bhO (bB k) b=0:=by
 have h:leadT (bB k)=(0,true):=(by unfold bB;simp only [leadT];rw [if_neg (by omega),if_neg (by omega)]);unfold bhO;rw [h];rfl
theorem aCi {x:Int} (A:0<=x) (h:x<128):aF [x]=1:=by
 have:=kW (q:=[x]) (by simp [cC];omega);simpa [aQ,yQ x h] using this
theorem aIw (b:Int):bhO (bS [44]) b=1+b:=by
 unfold bhO bS;simp [leadT,aCi (x:=44) (by omega) (by omega)]
theorem aMW (b:Int):bhO aBt b=1+b:=by
 unfold bhO aBt;simp [leadT,bS,aCi (x:=44) (by omega) (by omega)]
theorem aBr (k:Int):oV k=2\/oV k=3\/oV k=4:=by unfold oV;split<;>simp
theorem aKw (tail:List Cm) (e:Int) (h:e=2\/e=3\/e=4) (r:List Tr) (b:Int):bhL (aBt::jI tail) (bhL (bB e::r) b)=1:=by
 simp only [bhL,aMW,zT h];cases tail with
 | nil=>simp [jI,bhL]
 | cons c tail=>
   rw [show jI (c::tail)=bB 4::qW c::jI tail by simp [jI]];simp only [bhL,zT (.inr (.inr rfl))];rfl
def wrI (width:Int) (V:List Nod->Tr) (ind:Int) (o:List Int):List Nod->List Int
 | []=>o
 | n::R=>(o++aS n.L ind++iL n)++LX width (V (n::R)) ind (o++aS n.L ind++iL n) 1
def oU (width:Int) (V:List Nod->Tr) (P:List Nod->List Pc × List Nod) (ind:Int) (o:List Int) (R:List Nod):Nat->List Int
 | 0=>o
 | k+1=>wrI width V ind (oU width V P ind o R k++aO ind) (bE P k R)++[44]
theorem aLG {h:Int} {V:List Nod->Tr} {A:Int} {o:List Int} {n:Nod} {R:List Nod} (M:OkL (fV n.L)) (F:OkL (qB n)) (D:0<=A) (H:Cu o):o++LXL h (oE V (n::R)) A o 1=wrI h V A o (n::R):=by
 have I:∀ b,LXL h (fV n.L) A o b=aS n.L A:=fun b=>aC3 _ _ _ _ _;have G:∀ J b,LXL h (qB n) A J b=iL n:=fun J b=>aL6 _ _ _ _ _;have E:=(vD (width:=h) (b:=bhL (qB n++[V (n::R)]) 1) D M H).2;rw [I] at E;have N:=(vD (width:=h) (b:=bhL [V (n::R)] 1) D F E).2;rw [G] at N;simp only [oE,wrI];rw [vP M D H,I,vP F D E,G];simp only [LXL,lyL,bhL,append_nil,LX,append_assoc]
theorem aD2 {width:Int} {V:List Nod->Tr} {P:List Nod->List Pc × List Nod} {ind e:Int} {o:List Int} {R:List Nod} (Y:e=2\/e=3\/e=4) (E:0<=ind) (H:Cu o) :
  ∀ k,(∀ j,j<k->OkL (oE V (bE P j R))/\∃ n R',bE P j R=n::R'/\OkL (fV n.L)/\OkL (qB n))->
   OkL (bB e::qQ V P k R)/\(1<=k->(o++LXL width (bB e::qQ V P k R) ind o 1)++[44]=oU width V P ind o R k)
 | 0,_=>⟨fun T A=>by simp [qQ] at A;subst A;intro h;simp at h;omega,fun h=>by omega⟩
 | k+1,h=>by
   obtain ⟨D,S⟩:=aD2 (width:=width) (P:=P) (V:=V) (R:=R) Y E H k (fun j hj=>h j (by omega));obtain ⟨hit,n,R',hR,hb,hk⟩:=h k (by omega);have G:OkT (bB 2):=fun h=>by simp at h
   have F:OkT (bS [44]):=fun _=>⟨jK (by simp),by simp⟩;refine ⟨fun T A=>?_,fun _=>?_⟩
   .simp only [qQ,mem_cons,mem_append] at A;rcases A with rfl | A | A | A
    .exact D _ (by simp)
    .exact D _ (by simp [A])
    .split at A
     .simp at A
     .simp at A;rcases A with rfl | rfl
      .exact F
      .exact G
    .exact hit T A
   .simp only [oU];rcases Nat.eq_zero_or_pos k with rfl | a6
    .simp only [qQ,if_true,nil_append,oU]
     have c1:Cu (o++aO ind):=by
      have:=(qA (width:=width) (T:=bB e) (b:=0) (D _ (by simp)) E H).2;unfold LX at this
      rwa [sV width Y] at this
     rw [kK (D _ (by simp)) E H];have M:∀ b,LX width (bB e) ind o b=aO ind:=fun b=>by unfold LX;rw [sV width Y]
     rw [M,hR,<- append_assoc,aLG hb hk E c1]
    .have ih:=S (by omega)
     have N:bhL ([bS [44],bB 2]++oE V (bE P k R)) 1=1:=by
      simp only [cons_append,nil_append,bhL,aIw,zT (.inl rfl)];rfl
     have Z:¬ k=0:=(by omega);simp only [qQ,if_neg Z];rw [<- cons_append,vP D E H,N];have I:=(vD (width:=width) (b:=1) E D H).2;rw [show [bS [44],bB 2]++oE V (bE P k R)=bS [44]::bB 2::oE V (bE P k R) from rfl,kK F E I];have M:∀ J b,LX width (bS [44]) ind J b=[44]:=fun J b=>by unfold LX;rw [sI]
     have e2:∀ J b,LX width (bB 2) ind J b=aO ind:=fun J b=>by unfold LX;rw [sV width (.inl rfl)]
     have O:=(qA (width:=width) (T:=bS [44]) (b:=0) F E I).2;rw [M,ih] at O;have c3:=(qA (width:=width) (T:=bB 2) (b:=0) G E O).2;rw [e2] at c3;rw [M,<- append_assoc,<- append_assoc,ih,kK G E O,e2,<- append_assoc,hR,aLG hb hk E c3]
structure NdX (n:Nod):Prop where
 bef:OkL (fV n.L)
 aft:OkL (jI n.tail)
 key:OkL (qB n)
 scal:OkT (bS (aCz n))
theorem aGJ:∀ (r:List Tr) (T:Tr),OkT T->OkL r->OkT (r.foldl uW T)
 | [],T,h,_=>h
 | U::r,T,h,hr=>aGJ r (uW T U) ⟨h,hr U (by simp)⟩ (fun X A=>hr X (by simp [A]))
theorem uS {A} (h:OkL A):OkT (iZ A):=by
 cases A with
 | nil=>intro h;simp at h
 | cons T r=>exact aGJ r T (h T (by simp)) (fun X D=>h X (by simp [D]))
theorem kZ {k:Int} (h:k≠1):OkT (bB k):=fun e=>absurd e h
theorem aFB {x:Int} (A:0<=x) (D:x<128) (h:x≠10):OkT (bS [x]):=fun _=>⟨jK (by simp;omega),by simp;omega⟩
theorem aJu (k):jW k=123\/jW k=91:=by unfold jW;split<;>simp
theorem aI8 (k):kH k=125\/kH k=93:=by unfold kH;split<;>simp
theorem aA3 (k):OkT (bS [jW k]):=by rcases aJu k with h | h<;>(rw [h];exact aFB (by omega) (by omega) (by omega))
theorem aFz (k):OkT (bS [kH k]):=by rcases aI8 k with h | h<;>(rw [h];exact aFB (by omega) (by omega) (by omega))
theorem aKI (k):OkT (bS [jW k,kH k]):=by
 intro _;rcases aJu k with h | h<;>rcases aI8 k with A | A<;>(rw [h,A];exact ⟨jK (by simp),by simp⟩)
theorem aIa:OkT aBt:=⟨aFB (by omega) (by omega) (by omega),kZ (by omega)⟩
theorem aDj {a b} (h:OkL a) (D:OkL b):OkL (a++b):=fun T A=>by
 rcases mem_append.1 A with A | A
 .exact h T A
 .exact D T A
theorem eZ {T r} (h:OkT T) (D:OkL r):OkL (T::r):=fun U A=>by
 rcases mem_cons.1 A with rfl | A
 .exact h
 .exact D U A
theorem uG:OkL []:=fun T h=>by simp at h
theorem aJB (k):oV k≠1:=by have:=aBr k;omega
theorem aJD {k A tail} (h:OkL A) (D:OkL (jI tail)):OkL (aIE k A tail):=eZ (kZ (aJB k)) (aDj h (eZ aIa D))
theorem aLE {D:Int} {n:Nod} {A} (F:0<=D) (h:OkL A) (E:OkL (jI n.tail)):OkT (tQ D n A):=
 uS (eZ (aA3 _) (eZ ⟨F,uS (aJD h E)⟩ (eZ (kZ (aJB _)) (eZ (aFz _) uG))))
theorem aLM {V:List Nod->Tr} {n} {R:List Nod} (h:NdX n) (A:OkT (V (n::R))):OkL (oE V (n::R)):=aDj h.bef (aDj h.key (eZ A uG))
theorem aDr {A:Int} (M:0<=A):∀ (d:Nat) (m:Bool) (R J:List Nod),aE bD d m (R,())=some (J,())->(∀ n∈R,n.k<5->n.C=0)->(∀ n∈R,NdX n)->OkT (bJ A d R)
 | 0,m,R,J,h,_,_=>by simp [aE] at h
 | d+1,m,[],J,h,_,_=>by simp [aE] at h
 | d+1,m,n::R,J,h,hn,hx=>by
   obtain ⟨_,_,hl⟩:=pI h;have F:∀ p∈R,p.k<5->p.C=0:=fun p G=>hn p (by simp [G]);have E:=hx n (by simp);simp only [bJ]
   split
   .exact E.scal
   .unfold qV
    split
    .split
     .exact aKI _
     .exact uS (eZ (aA3 _) (eZ ⟨M,uS E.aft⟩ (eZ (kZ (by omega)) (eZ (aFz _) uG))))
    .refine ⟨Int.le_refl 0,aLE M ?_ E.aft⟩;have:=(aD2 (width:=0) (V:=bJ A d) (P:=aH A d) (ind:=0) (e:=2) (o:=[]) (R:=R) (.inl rfl) (Int.le_refl 0) nJ n.C.toNat (fun j S=>?_)).1
     .exact fun T hT=>this T (by simp [hT])
     .obtain ⟨O,Q,Y⟩:=tC (ind:=A) hl F S;obtain ⟨p,Z,I⟩:=wQ O;have D:∀ q∈bE (aH A d) j R,q∈R:=fun q H=>by rw [Y];exact mem_append_right _ H
      have N:=aDr M d _ _ _ O (fun q H=>F q (D q H)) (fun q H=>hx q (by simp [D q H]));have G:=hx p (by simp [D p (by rw [I];simp)]);rw [I] at N ⊢;exact ⟨aLM G N,p,Z,rfl,G.bef,G.key⟩
def BRK (width ind:Int) (d:Nat) (n:Nod) (R:List Nod) (level:Int) (out:List Int):List Int:=
 oU width (bJ ind d) (aH ind d) (level+ind) (out++[jW n.k]) R n.C.toNat++eA n.tail (level+ind)++aO level++[kH n.k]
theorem aLZ {h:Int} {d} {n:Nod} {R N:List Nod} (Y:0<=h) (Z:aN (aE bD d (decide (n.k=6))) n.C.toNat (R,())=some (N,())) (I:∀ p∈R,p.k<5->p.C=0) (M:∀ p∈R,NdX p) :
  ∀ j,j<n.C.toNat->OkL (oE (bJ h d) (bE (aH h d) j R))/\∃ p G,bE (aH h d) j R=p::G/\OkL (fV p.L)/\OkL (qB p):=fun j O=>by
 obtain ⟨J,Q,S⟩:=tC (ind:=h) Z I O;obtain ⟨p,G,E⟩:=wQ J;have A:∀ q∈bE (aH h d) j R,q∈R:=fun q D=>by rw [S];exact mem_append_right _ D
 have H:=aDr Y d _ _ _ J (fun q D=>I q (A q D)) (fun q D=>M q (A q D));have F:=M p (A p (by rw [E];simp));rw [E] at H ⊢;exact ⟨aLM F H,p,G,rfl,F.bef,F.key⟩
theorem vH (h t A o b):LX h (bS t) A o b=t:=by unfold LX;rw [sI]
theorem aCZ (h) {k:Int} (D:k=2\/k=3\/k=4) (A o b):LX h (bB k) A o b=aO A:=by unfold LX;rw [sV h D]
theorem aGx (A D E h o b):LX A (mP D E) h o b=LXL A E (h+D) o b:=by
 unfold LX mP;simp only [ly,if_true];exact aFk A E (h+D) o b
theorem aHa {t o} (h:OkT (bS t)) (A:Cu o):Cu (o++t):=by
 have:=(qA (width:=0) (T:=bS t) (ind:=0) (b:=0) h (Int.le_refl 0) A).2
 rwa [vH] at this
theorem aKR {h:Int} {o} (D:0<=h) (A:Cu o):Cu (o++aO h):=by
 have:=(qA (width:=0) (T:=bB 2) (ind:=h) (b:=0) (kZ (by omega)) D A).2
 rwa [aCZ 0 (.inl rfl)] at this
theorem aGX {A} {D h e:Int} {k G F b} (N:e=2\/e=3\/e=4) (O:0<=D) (E:0<=h) (S:OkL G) (I:Cu F) :
  F++LX A (iZ [bS [jW k],mP D G,bB e,bS [kH k]]) h F b=((F++[jW k])++LXL A G (h+D) (F++[jW k]) (bhL [bB e,bS [kH k]] b))++aO h++[kH k]:=by
 have M:=aHa (aA3 k) I;have J:OkT (mP D G):=⟨O,uS S⟩;have H:=(qA (width:=A) (T:=mP D G) (ind:=h) (b:=bhL [bB e,bS [kH k]] b) J E M).2;rw [aGx] at H;have Y:=aKR E H;rw [aFk,kK (aA3 k) E I,vH,kK J E M,aGx,kK (kZ (by omega)) E H,aCZ A N,kK (aFz k) E Y,vH];simp [LXL,lyL]
theorem aLA {h} {D:Int} {d} {n:Nod} {R R2:List Nod} {A:Int} {b E} (O:0<=D) (I:0<=A) (N:Cu E) (S:1<=n.C) (hl:aN (aE bD d (decide (n.k=6))) n.C.toNat (R,())=some (R2,())) (Y:∀ p∈R,p.k<5->p.C=0) (hx:∀ p∈R,NdX p) (J:NdX n) :
  E++LX h (tQ D n (qQ (bJ D d) (aH D d) n.C.toNat R)) A E b=BRK h D d n R A E:=by
 have F:0<=A+D:=(by omega);have M:=aHa (aA3 n.k) N;obtain ⟨H,i2⟩:=aD2 (width:=h) (V:=bJ D d) (P:=aH D d) (R:=R) (aBr n.k) F M n.C.toNat (aLZ O hl Y hx);have i3:=i2 (by omega);have hI:OkL (aIE n.k (qQ (bJ D d) (aH D d) n.C.toNat R) n.tail):=aJD (fun T Z=>H T (by simp [Z])) J.aft;rw [tQ,aGX (aBr n.k) O I hI N];have G:=aKw n.tail (oV n.k) (aBr n.k) [bS [kH n.k]] b;have c2:=(vD (width:=h) (b:=1) F H M).2;rw [aIE,<- cons_append,vP H F M,G,kK aIa F c2];have ha:∀ o b,LX h aBt (A+D) o b=[44]:=fun o b=>by unfold LX aBt;simp only [ly];rw [if_neg (by omega)];simp [bS,ly]
 have hf:∀ o b,LXL h (jI n.tail) (A+D) o b=eA n.tail (A+D):=fun o b=>aFQ _ _ _ _ _;rw [ha,hf];unfold BRK;rw [<- i3];simp only [append_assoc]
theorem aLe {A} {D:Int} {d} {n:Nod} {R} {h:Int} {b E} (M:0<=D) (H:0<=h) (J:Cu E) (F:n.C=0) (G:NdX n) :
  E++LX A (iZ [bS [jW n.k],mP D (jI n.tail),bB 4,bS [kH n.k]]) h E b=BRK A D d n R h E:=by
 rw [aGX (.inr (.inr rfl)) M H G.aft J];have I:∀ o b,LXL A (jI n.tail) (h+D) o b=eA n.tail (h+D):=fun o b=>aFQ _ _ _ _ _;rw [I];unfold BRK;rw [F];rfl
def eO:List Tr->Option (List Int)
 | []=>some []
 | T::r=>(aD T []).bind fun a=>(eO r).map (a++·)
theorem xU (A h:List Tr):eO (A++h)=(eO A).bind fun a=>(eO h).map (a++·):=by
 induction A with
 | nil=>simp [eO]
 | cons T r ih=>
   simp only [cons_append,eO,ih];cases aD T [] with
   | none=>rfl
   | some a=>
     simp only [Option.bind_some];cases eO r with
     | none=>rfl
     | some o=>
       simp only [Option.bind_some,Option.map_some];cases eO h with
       | none=>rfl
       | some z=>simp
theorem aCs:∀ (r:List Tr) (T:Tr),aD (r.foldl uW T) []=eO (T::r)
 | [],T=>by simp only [foldl_nil,eO];cases aD T []<;>simp
 | U::r,T=>by
   rw [foldl_cons,aCs r (uW T U)];simp only [eO,aIF];cases aD T [] with
   | none=>rfl
   | some a=>
     simp only [Option.bind_some];cases aD U [] with
     | none=>rfl
     | some u=>
       simp only [Option.map_some,Option.bind_some];cases eO r with
       | none=>rfl
       | some z=>simp
theorem rO (h):aD (iZ h) []=eO h:=by
 cases h with
 | nil=>simp [iZ,aD,eO]
 | cons T r=>exact aCs r T
theorem pJ (t):aD (bS t) []=some t:=by simp [aD,bS]
theorem aHX (h):eO (fV h)=if h=[] then some [] else none:=by
 cases h with
 | nil=>rfl
 | cons c h=>
   rw [show fV (c::h)=qW c::bB 4::fV h by simp [fV],if_neg (by simp)];simp only [eO];have A:aD (bB 4) []=none:=(by simp [aD,bB]);rw [A];cases aD (qW c) []<;>rfl
theorem aJ6 (h):eO (jI h)=if h=[] then some [] else none:=by
 cases h with
 | nil=>rfl
 | cons c h=>
   rw [show jI (c::h)=bB 4::qW c::jI h by simp [jI],if_neg (by simp)];simp only [eO];have A:aD (bB 4) []=none:=(by simp [aD,bB]);rw [A];rfl
theorem aJR (n):eO (qB n)=some (iL n):=by
 unfold qB iL
 split
 .simp [eO,pJ]
 .rfl
def aJk (k:Int):List Int:=if k=6 then [32] else []
theorem aI4 (k):aD (bB (oV k)) []=some (aJk k):=by
 unfold oV aJk
 split<;>simp [aD,bB]
theorem aKV (V:List Nod->Tr) (n:Nod) (R:List Nod):eO (oE V (n::R))=if n.L=[] then (aD (V (n::R)) []).map (iL n++·) else none:=by
 simp only [oE,xU,aHX,aJR]
 split
 .simp only [Option.bind_some,eO,Option.map_some];cases aD (V (n::R)) []<;>simp
 .rfl
def nY (V:List Nod->Tr) (P:List Nod->List Pc × List Nod) (R:List Nod):Nat->Option (List Int)
 | 0=>some []
 | k+1=>(nY V P R k).bind fun o=>match bE P k R with
   | []=>some (o++(if k=0 then [] else [44,32]))
   | n::R'=>if n.L=[] then (aD (V (n::R')) []).map fun s=>(o++(if k=0 then [] else [44,32]))++iL n++s else none
theorem aEY (V:List Nod->Tr) (P:List Nod->List Pc × List Nod) (R):∀ k,eO (qQ V P k R)=nY V P R k
 | 0=>rfl
 | k+1=>by
   have A:eO (if k=0 then [] else [bS [44],bB 2])=some (if k=0 then [] else [44,32]):=by
    split
    .rfl
    .simp [eO,pJ,aD,bB]
   simp only [qQ,xU,aEY V P R k,A,nY,Option.bind_some];cases nY V P R k with
   | none=>rfl
   | some o=>
     simp only [Option.bind_some];cases bE P k R with
     | nil=>simp [oE,eO]
     | cons n R'=>
       rw [aKV]
       by_cases h:n.L=[]
       .simp only [h,if_true];cases aD (V (n::R')) []<;>simp
       .simp [h]
theorem aCc (h n) (V:List Nod->Tr) (P:List Nod->List Pc × List Nod) (R k):aD (tQ h n (qQ V P k R)) []=if n.tail=[] then (nY V P R k).map fun o=>([jW n.k]++aJk n.k++o)++(aJk n.k++[kH n.k]) else none:=by
 have D:aD aBt []=some []:=(by simp [aBt,aD,bB]);have E:∀ A,aD (mP h A) []=eO A:=fun A=>by unfold mP;simp only [aD];exact rO A
 rw [tQ,rO];simp only [eO,pJ,E,aI4,aIE,xU,aEY,D,aJ6,Option.bind_some]
 split
 .cases nY V P R k<;>simp
 .cases nY V P R k<;>simp
end Go.Proofs.YtckcaefnokeodaaGreatDoor
