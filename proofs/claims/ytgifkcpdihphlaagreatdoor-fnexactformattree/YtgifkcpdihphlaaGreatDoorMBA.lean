import Derived.Test.YtgifkcpdihphlaaGreatDoorMAZ
set_option maxHeartbeats 16000000
set_option maxRecDepth 100000
namespace Go.Proofs.YtgifkcpdihphlaaGreatDoor
open Tryz
open Go.RowKit
theorem lO (width:Int):∀ (f:Nat) (its:List pZ) (out met:List Int) (col:Int),szs (trs its)<f->∃ r,lay width none f its out met col=some r
 | 0,_,_,_,_,h=>by omega
 | f+1,[],out,met,col,_=>⟨(out,met),by simp only [lay]⟩
 | f+1,⟨.leaf p,n,ind⟩::rest,out,met,col,h=>by
   simp only [bK,szs,sz] at h;have j:∀ o m c,∃ r,lay width none f rest o m c=some r:=fun o m c=>lO width f rest o m c (by omega);simp only [lay]
   split
   ·exact j _ _ _
   ·split
    ·exact j _ _ _
    ·split
     ·exact j _ _ _
     ·exact j _ _ _
 | f+1,⟨.bin p x y,n,ind⟩::rest,out,met,col,h=>by
   simp only [bK,szs,sz] at h;simp only [lay]
   split
   ·exact lO width f _ _ _ _ (by simp only [bK,szs];omega)
   ·exact lO width f _ _ _ _ (by simp only [bK,szs];omega)
 | f+1,⟨.un p x,n,ind⟩::rest,out,met,col,h=>by
   simp only [bK,szs,sz] at h;simp only [lay]
   split
   ·exact lO width f _ _ _ _ (by simp only [bK,szs];omega)
   ·cases aE x [] with
    | none=>exact lO width f _ _ _ _ (by simp only [bK,szs];omega)
    | some text=>
      simp only
      split
      ·exact lO width f _ _ _ _ (by omega)
      ·exact lO width f _ _ _ _ (by simp only [bK,szs];omega)
theorem aAB {doc:List Pc} {T:Tr} (h:iQ doc=true) (A:bd doc []=some [T]):okN T/\dO T<=4000/\∀ p∈doc,lY p=true:=by
 have y:=h;simp only [iQ,Bool.and_eq_true,A,decide_eq_true_eq] at y;have j:=y.1.1.1.2;have u:=aCB doc [] [T] j (by intro x E;cases E) A T (by simp);refine ⟨u,?_,fun p D=>List.all_eq_true.1 j p D⟩;rcases rV T u with ⟨G,_⟩ | ⟨_,H⟩
 ·exact G
 ·have:=y.2;omega
def jW (doc:List Pc) (width:Int):Option (List Int × List Int):=
 if iQ doc=true/\0<=width/\width<=65535 then (match bd doc [] with | some [T]=>jZ width none [⟨T,0,0⟩] [] (List.replicate (grp doc doc.length) 0) 0 | _=>none) else none
def aE0 (w:World) (r:Option (List Int × List Int)) (e:Ending) (w':World):Prop:=
 match r with
 | some (out,met)=>∃ ov mv,e=.returned (.tuple #[ov,mv,.int .i64 0])/\OwB w.heap.size w' ov out/\OwI w.heap.size w' mv met/\(∀ g,ov.ownBlock=some g->mv.ownBlock≠some g)/\w.grownBy w' none
 | none=>e=.returned (.tuple #[.slice none 0 0,.slice none 0 0,.int .i64 1])/\w.grownBy w' none
def oU (it:pZ):Prop:=okN it.T/\it.ind+dO it.T<=4000
theorem mA (width:Int) (j:Option (List Int)):∀ (f:Nat) (its:List pZ) (out met:List Int) (col:Int) (o m:List Int),(∀ A∈its,oU A)->lay width j f its out met col=some (o,m)->o.length<=out.length+4001*szs (trs its)
 | 0,_,_,_,_,_,_,_,h=>by simp [lay] at h
 | f+1,[],out,met,col,o,m,_,h=>by simp only [lay,Option.some.injEq,Prod.mk.injEq] at h;rw [h.1];omega
 | f+1,⟨.leaf p,n,ind⟩::rest,out,met,col,o,m,hi,h=>by
   simp only [lay] at h;rw [bK];simp only [szs,sz];have E:∀ A∈rest,oU A:=fun A hit=>hi A (List.mem_cons_of_mem _ hit);have H:=(hi ⟨.leaf p,n,ind⟩ (by simp)).2;simp only [dO] at H;have a4:=aEt ind (by omega)
   split at h
   ·have:=mA width j f _ _ _ _ _ _ E h;rw [List.length_append] at this;omega
   ·split at h
    ·have:=mA width j f _ _ _ _ _ _ E h;simp only [List.length_append,List.length_cons,List.length_nil] at this;omega
    ·split at h
     ·have:=mA width j f _ _ _ _ _ _ E h;rw [List.length_append] at this;omega
     ·have:=mA width j f _ _ _ _ _ _ E h;omega
 | f+1,⟨.bin p x y,n,ind⟩::rest,out,met,col,o,m,hi,h=>by
   simp only [lay] at h;rw [bK];simp only [szs,sz];have E:∀ A∈rest,oU A:=fun A hit=>hi A (List.mem_cons_of_mem _ hit);have H:=hi ⟨.bin p x y,n,ind⟩ (by simp);simp only [oU,okN,dO] at H;have L:oU ⟨x,n,ind⟩:=⟨H.1.1,by simp only;omega⟩;have Z:oU ⟨y,n+bY x,ind⟩:=⟨H.1.2,by simp only;omega⟩
   split at h
   ·have:=mA width j f _ _ _ _ _ _ (fun A hit=>by
     rcases List.mem_cons.1 hit with rfl | hit
     ·exact L
     ·rcases List.mem_cons.1 hit with rfl | hit
      ·exact Z
      ·exact E A hit) h
    rw [bK,bK] at this;simp only [szs] at this;omega
   ·have:=mA width j f _ _ _ _ _ _ (fun A hit=>by
     rcases List.mem_cons.1 hit with rfl | hit
     ·exact L
     ·exact E A hit) h
    rw [bK] at this;simp only [szs] at this;omega
 | f+1,⟨.un p x,n,ind⟩::rest,out,met,col,o,m,hi,h=>by
   simp only [lay] at h;rw [bK];simp only [szs,sz];have E:∀ A∈rest,oU A:=fun A hit=>hi A (List.mem_cons_of_mem _ hit);have H:=hi ⟨.un p x,n,ind⟩ (by simp);simp only [oU,okN,dO] at H;have X:oU ⟨x,n,ind+p.n⟩:=⟨H.1.2,by simp only;omega⟩;have L:oU ⟨x,n,ind⟩:=⟨H.1.2,by simp only;omega⟩
   have N:∀ i,oU ⟨x,n,i⟩->∀ A∈(⟨x,n,i⟩:pZ)::rest,oU A:=fun i O A hit=>by
    rcases List.mem_cons.1 hit with rfl | hit
    ·exact O
    ·exact E A hit
   have D:∀ i (S M:List Int) (c:Int),oU ⟨x,n,i⟩->lay width j f (⟨x,n,i⟩::rest) S M c=some (o,m)->S.length<=out.length->o.length<=out.length+4001*(p.t.length+1+sz x+szs (trs rest)):=fun i S M c O U Y=>by
    have:=mA width j f _ _ _ _ _ _ (N i O) U;rw [bK] at this;simp only [szs] at this;omega
   have J:∀ (u M:List Int) (c:Int),aE x []=some u->lay width j f rest (out++u) M c=some (o,m)->o.length<=out.length+4001*(p.t.length+1+sz x+szs (trs rest)):=fun u M c G U=>by
    have:=mA width j f _ _ _ _ _ _ E U;have Y:=jQ x [] u G;simp only [List.length_append,List.length_nil] at this Y;omega
   split at h
   ·exact D _ _ _ _ X h (Nat.le_refl _)
   ·cases j with
    | none=>
      simp only at h;cases G:aE x [] with
      | none=>
        rw [G] at h;exact D _ _ _ _ L h (Nat.le_refl _)
      | some u=>
        rw [G] at h;simp only at h
        split at h
        ·exact J u _ _ G h
        ·exact D _ _ _ _ L h (Nat.le_refl _)
    | some gs=>
      simp only at h
      split at h
      ·cases G:aE x [] with
       | none=>rw [G] at h;cases h
       | some u=>
         rw [G] at h;exact J u _ _ G h
      ·split at h
       ·exact D _ _ _ _ L h (Nat.le_refl _)
       ·cases h
end Go.Proofs.YtgifkcpdihphlaaGreatDoor
namespace Go.Proofs.YtgifkcpdihphlaaGreatDoor
open Tryz
def tY (width ind:Int) (t:Tre):List Int:=
 match t.N with
 | []=>[]
 | n::R=>((aP n.L 0++LX width (aR ind 201 (n::R)) 0 (aP n.L 0) 0)++[10])++aP t.tail 0
theorem tL {t:List Int} (h:Vt t):Bys t:=by
 obtain ⟨q,y,rfl⟩:=h;intro x j;simp only [aQ,List.mem_flatMap] at j;obtain ⟨p,u,j⟩:=j;have A:=aGq (List.all_eq_true.1 y p u)
 by_cases a:p<128
 ·rw [xO p a] at j;simp at j;omega
 ·by_cases b:p<2048
  ·rw [aER p a b] at j;simp at j;omega
  ·by_cases c:p<65536
   ·rw [aEP p b c] at j;simp at j;omega
   ·rw [aE5 p c] at j;simp at j;omega
def ByT:Tr->Prop
 | .leaf p=>Bys p.t
 | .un p x=>Bys p.t/\ByT x
 | .bin p x y=>Bys p.t/\ByT x/\ByT y
theorem aDy:Bys []:=fun z h=>by simp at h
theorem aA7:∀ (T:Tr),OkT T->ShT T->ByT T
 | .leaf p,h,⟨_,_,h3⟩=>by
   by_cases j:p.k=1
   ·exact tL (h j).1
   ·show Bys p.t
    rw [h3 j];exact aDy
 | .un p x,h,⟨_,h2,h3⟩=>⟨by rw [h2];exact aDy,aA7 x h.2 h3⟩
 | .bin p x y,h,⟨_,h2,_,h4,h5⟩=>⟨by rw [h2];exact aDy,aA7 x h.1 h4,aA7 y h.2 h5⟩
theorem aJH:∀ (ps:List Pc) (st u:List Tr),bd ps st=some u->(∀ T∈u,ByT T)->(∀ p∈ps,Bys p.t)/\∀ T∈st,ByT T
 | [],st,u,h,j=>by simp [bd] at h;subst h;exact ⟨by simp,j⟩
 | p::ps,st,u,h,j=>by
   simp only [bd] at h;obtain ⟨E,y,G⟩:=Option.bind_eq_some_iff.1 h;obtain ⟨H,A⟩:=aJH ps E u G j
   have:Bys p.t/\∀ T∈st,ByT T:=by
    unfold dE at y
    split at y
    ·cases y;exact ⟨A (.leaf p) (by simp),fun T j=>A T (by simp [j])⟩
    ·split at y
     ·split at y
      ·cases y;obtain ⟨a,b⟩:=A _ (List.mem_cons_self ..);exact ⟨a,fun T j=>by rcases List.mem_cons.1 j with rfl | j;exact b;exact A T (by simp [j])⟩
      ·cases y
     ·split at y
      ·cases y;obtain ⟨a,b,c⟩:=A _ (List.mem_cons_self ..);exact ⟨a,fun T j=>by simp only [List.mem_cons] at j;rcases j with rfl | rfl | j;exact c;exact b;exact A T (by simp [j])⟩
      ·cases y
   exact ⟨fun q D=>by rcases List.mem_cons.1 D with rfl | D;exact this.1;exact H q D,this.2⟩
theorem aDu:∀ (ps:List Pc) (p:Pc),p∈ps->(p.t.length:Int)<=cR ps
 | [],p,h=>by simp at h
 | q::ps,p,h=>by
   simp only [cR];rcases List.mem_cons.1 h with rfl | h
   ·have:=fO ps;omega
   ·have:=aDu ps p h;omega
theorem aJm:aJ 0=[10]:=rfl
theorem aKb {width:Int} {n:Nod} {V:Tr} {tail:List Cm} (E:OkT V) (A:OkL (fL n.L)) :
  (ly width (iP (fL n.L++(V::bC 4::fL tail))) 0 0 0).1=((aP n.L 0++LX width V 0 (aP n.L 0) 0)++[10])++aP tail 0:=by
 have y:Cu []:=mN;have G:eE []=0:=(by have:=kH (q:=[]) rfl;simpa [aQ,eE,fK] using this);have h:(ly width (iP (fL n.L++(V::bC 4::fL tail))) 0 0 0).1=LX width (iP (fL n.L++(V::bC 4::fL tail))) 0 [] 0:=(by unfold LX;rw [G]);have D:∀ o b,LXL width (fL n.L) 0 o b=aP n.L 0:=fun o b=>aCi _ _ _ _ _;have J:∀ o b,LXL width (fL tail) 0 o b=aP tail 0:=fun o b=>aCi _ _ _ _ _;rw [h,aE8,vF A (Int.le_refl 0) y,D,List.nil_append];have j:=(uD (width:=width) (b:=0) (Int.le_refl 0) A y).2;rw [D,List.nil_append] at j;have u:bhL (bC 4::fL tail) 0=0:=(by simp only [bhL,zF (.inr (.inr rfl))]);rw [kC E (Int.le_refl 0) j,u];have H:=(pQ (width:=width) (b:=0) E (Int.le_refl 0) j).2;rw [kC (kJ (by omega)) (Int.le_refl 0) H,aCu width (.inr (.inr rfl)),aJm,J];simp only [List.append_assoc]
theorem aKB {width ind:Int} {t:Tre} (hi:0<=ind) (b7:ind<=16) (b3:0<=width) (a9:width<=65535) (hl:dY (dZ ind t)=false)
  (Z:∀ p∈t.N,fJ gE oC p) (b8:∀ p∈t.N,zP p) (b6:t.tail.all gE=true) (a6:∀ c∈t.tail,Bys c.t) (D:aD aZ 201 false (t.N,())=some ([],())) :
  (∃ met,jW (dZ ind t) width=some (tY width ind t,met))/\Doc (dZ ind t)/\(tY width ind t).length<=560140000:=by
 obtain ⟨n,R,hR⟩:=vZ D
 have A:∀ p∈t.N,p.k<5->p.C=0:=fun p G hk=>by
  obtain ⟨_,_,_,_,_,_,_,_,_,h,_⟩:=Z p G;exact (h hk).1
 have hx:∀ p∈t.N,NdX p:=fun p G=>aHR (Z p G) (b8 p G);have hV:=aCm hi 201 false _ _ D A hx;have hB:=aDh ind 201 false _ _ D A;have a5:=aFa hi b7 201 (Nat.le_refl _) t.N;have hn:=hx n (by rw [hR];simp);have b0:=aIy a6 b6;have y:0<=ind*((201:Nat):Int):=(by omega);have M:dZ ind t=cT (bI n.L++((aF ind 201 t.N).1::aI 4::bI t.tail)):=by unfold dZ;rw [hR]
 have Y:Bl (dZ ind t) (iP (fL n.L++(aR ind 201 t.N::bC 4::fL t.tail))):=by
  rw [M];exact xE ((aCJ _).app (.cons hB (.cons (kG 4 (by simp [ar])) (aCJ _))))
 have E:OkT (iP (fL n.L++(aR ind 201 t.N::bC 4::fL t.tail))):=tZ (aCq hn.bef (eT hV (eT (kJ (by omega)) b0)));have u:Sh (ind*((201:Nat):Int)) (iP (fL n.L++(aR ind 201 t.N::bC 4::fL t.tail))):=zG y (sL (aCR y _) (dC a5 (dC (kI y (by omega)) (aCR y _))));have H:=aKb (width:=width) (n:=n) (tail:=t.tail) hV hn.bef;have c0:tY width ind t=((aP n.L 0++LX width (aR ind 201 t.N) 0 (aP n.L 0) 0)++[10])++aP t.tail 0:=(by unfold tY;rw [hR]);generalize iP (fL n.L++(aR ind 201 t.N::bC 4::fL t.tail))=T at Y E u H;have j:bd (dZ ind t) []=some [T]:=Y [];have a4:=(aJY _ _ _ j (fun U X=>by simp at X;subst X;exact zK _ E u.1)).1;have b9:=(aJH _ _ _ j (fun U X=>by simp at X;subst X;exact aA7 _ E u.1)).1;simp only [dY,Bool.or_eq_false_iff,decide_eq_false_iff_not] at hl;have J:dZ ind t≠[]:=fun e=>by rw [e] at j;simp [bd] at j
 have O:1<=(dZ ind t).length:=List.length_pos_iff.2 J
 have a7:(cK (dZ ind t)).length=(dZ ind t).length:=by
  rcases xP _ J with ⟨h,_⟩ | ⟨_,h⟩
  ·exact h
  ·exact absurd j (h T)
 have b1:kA T<=4000:=by have:=u.2;omega
 have hv:iQ (dZ ind t)=true:=by
  simp only [iQ,Bool.and_eq_true,decide_eq_true_eq,j];exact ⟨⟨⟨⟨⟨O,by omega⟩,List.all_eq_true.2 a4⟩,by omega⟩,a7⟩,b1⟩
 obtain ⟨f1,f2,f3⟩:=aAB hv j;obtain ⟨r,hr⟩:=lO width (szs (trs [⟨T,0,0⟩])+1) [⟨T,0,0⟩] [] (List.replicate (grp (dZ ind t) (dZ ind t).length) 0) 0 (by omega)
 have b2:jW (dZ ind t) width=some r:=by
  unfold jW;rw [if_pos ⟨hv,b3,a9⟩,j];exact hr
 have S:r.1=tY width ind t:=by
  have:=mZ width _ _ _ _ _ _ hr;simp only [lyS,List.map_nil,kB,List.append_nil,List.nil_append] at this;rw [this,H,c0]
 have a8:=aF1 _ _ _ j;simp only [szs] at a8;refine ⟨⟨r.2,by rw [b2,<- S]⟩,⟨by omega,fun p G=>by have:=aDu _ p G;omega,by omega,b9⟩,?_⟩;have ho:=mA width none _ _ _ _ _ r.1 r.2 (fun it hit=>by simp at hit;subst hit;exact ⟨f1,by simpa using f2⟩) hr;have hz:szs (trs [⟨T,0,0⟩])=sz T:=(by simp [trs,szs]);rw [hz] at ho;rw [<- S];simp at ho;omega
end Go.Proofs.YtgifkcpdihphlaaGreatDoor
namespace Go.Proofs.YtgifkcpdihphlaaGreatDoor
open Tryz
open Go.RowKit
theorem rG (h:List (List Pc)):bO h<=mes (cT h)+1:=by
 cases h with
 | nil=>simp [bO]
 | cons ds h=>simp only [cT,fD,aAK,bO];omega
theorem xY (P:List Nod->List Pc × List Nod) (R:List Nod):∀ (k j:Nat) (p:Nod) (u:List Nod),j<k->aT P j R=p::u->mes (P (p::u)).1+bO (bI p.L)+bO (nB p)+1<=bO (itK P k R)
 | k+1,j,p,u,hj,hr=>by
   simp only [itK,cP]
   by_cases h:j=k
   ·subst h;rw [hr];simp only [gO,cP,bO];omega
   ·have:=xY P R k j p u (by omega) hr;omega
theorem zD {ind:Int} {d:Nat} {n p:Nod} {R h:List Nod} {j:Nat} (E:¬ n.k<5) (u:n.C≠0) (G:j<n.C.toNat) (y:aT (aF ind d) j R=p::h) :
  mes (aF ind d (p::h)).1+bO (bI p.L)+bO (nB p)+1<=mes (aF ind (d+1) (n::R)).1:=by
 have H:=xY (aF ind d) R _ j p h G y;simp only [aF,if_neg E,iZ,if_neg u];have D:=rG (iU n.k (itK (aF ind d) n.C.toNat R) n.tail);have A:=rG [aG [iT n.k],fM ind (iU n.k (itK (aF ind d) n.C.toNat R) n.tail),aI (nH n.k),aG [iY n.k]];simp only [bO,fD,fM,mes,iU,cP] at D A ⊢;omega
theorem aI1 {ps:List Pc} {T:Tr} (h:Bl ps T):(sz T:Int)=mes ps:=by
 have:=aF1 ps [] [T] (h []);simp only [szs] at this;rw [wB];omega
theorem aCs (p:Nod):(lR p).length<=bO (nB p):=by
 unfold lR nB
 split
 ·simp only [bO,aG,mes];omega
 ·simp
def eL (w:World) (r:Option (List Int)) (e:Ending) (w':World):Prop:=
 match r with
 | some s=>∃ v,e=.returned (.tuple #[v,.bool true])/\Bw w.heap.size w' v s/\w.grownBy w' none
 | none=>∃ a n c,e=.returned (.tuple #[.slice a n c,.bool false])/\w.grownBy w' none
end Go.Proofs.YtgifkcpdihphlaaGreatDoor
namespace Go.Proofs.YtgifkcpdihphlaaGreatDoor
open Tryz
open Go.RowKit
attribute [-go_sem] Builtin.append_
theorem aBZ {ind:Int} {t:Tre} (Y:0<=ind) (M:ind<=16) (hD:iL t) (hx:∀ p∈t.N,NdX p) {d j:Nat} (hd:d<=201) {m:Bool} {R2:List Nod} (hw:aD aZ d m (t.N.drop j,())=some (R2,())) (hM:mes (aF ind d (t.N.drop j)).1<=150000) :
  Bl (aF ind d (t.N.drop j)).1 (aR ind d (t.N.drop j))/\OkT (aR ind d (t.N.drop j))/\Doc (aF ind d (t.N.drop j)).1/\(∀ p∈(aF ind d (t.N.drop j)).1,lY p=true)/\Seg (aF ind d (t.N.drop j)).1 (cK (aF ind d (t.N.drop j)).1) (aR ind d (t.N.drop j)) 0 (aF ind d (t.N.drop j)).1.length/\sz (aR ind d (t.N.drop j))<=150000:=by
 have y:∀ p∈t.N.drop j,p.k<5->p.C=0:=fun p D hk=>by
  obtain ⟨_,_,_,_,_,_,_,_,_,h,_⟩:=hD.nd p (List.mem_of_mem_drop D);exact (h hk).1
 have L:=aDh ind d m _ _ hw y;have J:=aCm Y d m _ _ hw y (fun p D=>hx p (List.mem_of_mem_drop D));have Z:=aFa Y M d hd (t.N.drop j);have hz:=aI1 L;have X:=wB (aF ind d (t.N.drop j)).1;generalize (aF ind d (t.N.drop j)).1=doc at *;generalize aR ind d (t.N.drop j)=T at *;have u:bd doc []=some [T]:=L [];have G:=(aJY _ _ _ u (fun U E=>by simp at E;subst E;exact zK _ J Z.1)).1;have S:=(aJH _ _ _ u (fun U E=>by simp at E;subst E;exact aA7 _ J Z.1)).1;have H:doc≠[]:=fun e=>by rw [e] at u;simp [bd] at u
 have a7:=fO doc
 have A:Seg doc (cK doc) T 0 doc.length:=by
  rcases xP _ H with ⟨_,T',O,h2⟩ | ⟨_,h⟩
  ·rw [u] at O;simp at O;subst O;exact h2
  ·exact absurd u (h T)
 exact ⟨L,J,⟨by omega,fun p D=>by have:=aDu _ p D;omega,by omega,S⟩,G,A,by omega⟩
theorem aJO (t:Tre) (hD:iL t) (hx:∀ p∈t.N,NdX p) (d:Nat) (hd:d+1<=201) (i:Nat) (hi:i<t.N.length) (m:Bool) (R2:List Nod) (hw:aD aZ (d+1) m (t.N.drop i,())=some (R2,())) (hb:t.N[i].k<5\/t.N[i].C=0)
  (hM:mes (aF 0 (d+1) (t.N.drop i)).1<=150000) (nv tv:Value) (w:World) (hv:dG w.heap.size w nv tv t) :
  Calls prog 41 #[.agg #[nv,tv],.int .i64 i] w fun e w'=>eL w (aE (aR 0 (d+1) (t.N.drop i)) []) e w':=by
 obtain ⟨hB,hO,J,c9,a8,i7⟩:=aBZ (ind:=0) (Int.le_refl 0) (by omega) hD hx hd hw hM;have a7:Hid (∀ W:World,w.grownBy W none->_):=fun W (g:w.grownBy W none)=>nW t 0 hD (d+1) (by omega) i R2 m nv tv W hi hw ⟨(hv.1.K g).wide g.size,(hv.2.K g).wide g.size⟩;have S:Hid (∀ va sv B,_):=fun va sv B=>qJ va sv B _ _ J c9 _ _ _ a8;have j3:=J.len;generalize (aF 0 (d+1) (t.N.drop i)).1=doc at *;generalize aR 0 (d+1) (t.N.drop i)=T at *;obtain ⟨b6,c1⟩:=id hv;obtain ⟨na,d0,g1,_⟩:=id b6;obtain ⟨ta,d6,f7,_⟩:=id c1;obtain ⟨b,off,h9,lv,kv,xv,uv,qv,f6,k1,D⟩:=b6.at i hi;have j5:=hD.cn _ (List.getElem_mem hi);have k0:=(hD.nd _ (List.getElem_mem hi)).1;have g3:=hD.len;have z0:=D.k;have z1:=D.L;have z2:=D.mem;have z3:=D.key;have z4:=D.X;have z5:=D.U;have z6:=D.C;have z7:=D.tail;obtain ⟨la,d4,g8,_,_⟩:=D.rl.sl;obtain ⟨qa,b8,h2,_,_⟩:=D.rt.sl;obtain ⟨ka,d2,f4,_,_⟩:=D.sk;obtain ⟨xa,d5,g0,_,_⟩:=D.sx;obtain ⟨ua,d1,f9,_,_⟩:=D.su;subst g8 h2 f4 g0 f9 f6 f7;cases g1;clear b6 c1 hv D hB hO J c9 a8 hD hx hw;generalize t.N[i]=p at *;obtain ⟨wA,d3⟩:∃ wA,wA=w.alloc (Obj.cells #[.slice (some ⟨b,off,none⟩) t.N.length d0,.slice ta t.tail.length d6] 33):=⟨_,rfl⟩;have O:w.grownBy wA none:=(by rw [d3];exact gWA);have j8:=O.cell z0 (by simp);have j4:=O.cell z1 (by simp);have l4:=O.cell z2 (by simp);have l2:=O.cell z3 (by simp);have j7:=O.cell z4 (by simp);have l9:=O.cell z5 (by simp);have m0:=O.cell z6 (by simp);have k4:=O.cell z7 (by simp);obtain ⟨W3,u⟩:∃ W3,W3=wA.alloc (Obj.cells #[.int .i64 p.k,.slice la p.L.length d4,.bool p.mem,.slice ka p.key.length d2,.slice xa p.X.length d5,.slice ua p.U.length d1,.int .i64 p.C,.slice qa p.tail.length b8] 49):=⟨_,rfl⟩;have gg:w.grownBy W3 none:=(by rw [u];exact aA O gWA);have HX:=aB (a7.out W3 gg);have GG:=aB gg;have b9:=aB u;rw [u] at HX;clear u gg a7 z0 z1 z2 z3 z4 z5 z6 z7 O;subst d3;have m1:(decide (p.k<5)||(p.C==0))=true:=by rcases hb with h | h<;>simp [h]
 by_cases h5:p.k<5
 ·have h1:decide (p.k<5)=true:=by simpa using h5
  go_enter func41,ntmps41
  go_wp2_with fail
  refine HX.out.mono ?_;rintro e w4 ⟨v4,rfl,Y,g4⟩;have u:=b9.out;rw [<- u] at Y g4;clear u;have A:=aB Y.pi.rdP;have H:=aB (uT v4 doc w4 A.out (by omega));obtain ⟨a4,c4,b1,_,_⟩:=Y.sl;have G4:=aB (aA GG.out g4);subst b1;clear Y g4 HX
  go_wp2_with fail
  refine H.out.mono ?_;rintro e w5 ⟨v5,rfl,o5,Z⟩;have HF:=aB (S.out (.slice a4 doc.length c4) v5 w5.heap.size w5 (.slice none 0 0) [] (Nat.le_refl _) ((A.out.K Z).wide Z.size) o5.rd ⟨by simp,.inl ⟨rfl,rfl⟩⟩ (by simp;omega));obtain ⟨a5,c5,M,_,_⟩:=o5.sl;have G5:=aB (aA G4.out Z);generalize (cK doc).length=SL at M;subst M;clear o5 Z S H A
  go_wp2_with fail
  refine HF.out.mono ?_;rintro e w6 ⟨y,G⟩;have G6:=aB (aA G5.out (aC y));have b0:=G5.out.size;clear HF y;cases j:aE T [] with
  | none=>
    rw [j] at G;simp only at G;subst G;have HE:=aB j;clear j;go_wp2;go_ret2;rw [HE.out];exact ⟨none,0,0,rfl,G6.out⟩
  | some o=>
    rw [j] at G;obtain ⟨v6,rfl,o6⟩:=G;obtain ⟨a6,c6,E,_,_⟩:=o6.sl;have b5:=aB (bH b0 o6);generalize o.length=OL at E;subst E;have HE:=aB j;clear j o6;go_wp2;go_ret2;rw [HE.out];exact ⟨_,rfl,.inl b5.out,G6.out⟩
 ·have h1:decide (p.k<5)=false:=(by simpa using h5);have d7:p.C=0:=(by rcases hb with h | h;exact absurd h h5;exact h);have j0:(p.C==0)=true:=(by simpa using d7);clear d7 hb
  go_enter func41,ntmps41
  go_wp2_with fail
  refine HX.out.mono ?_;rintro e w4 ⟨v4,rfl,Y,g4⟩;have u:=b9.out;rw [<- u] at Y g4;clear u;have A:=aB Y.pi.rdP;have H:=aB (uT v4 doc w4 A.out (by omega));obtain ⟨a4,c4,b1,_,_⟩:=Y.sl;have G4:=aB (aA GG.out g4);subst b1;clear Y g4 HX
  go_wp2_with fail
  refine H.out.mono ?_;rintro e w5 ⟨v5,rfl,o5,Z⟩;have HF:=aB (S.out (.slice a4 doc.length c4) v5 w5.heap.size w5 (.slice none 0 0) [] (Nat.le_refl _) ((A.out.K Z).wide Z.size) o5.rd ⟨by simp,.inl ⟨rfl,rfl⟩⟩ (by simp;omega));obtain ⟨a5,c5,M,_,_⟩:=o5.sl;have G5:=aB (aA G4.out Z);generalize (cK doc).length=SL at M;subst M;clear o5 Z S H A
  go_wp2_with fail
  refine HF.out.mono ?_;rintro e w6 ⟨y,G⟩;have G6:=aB (aA G5.out (aC y));have b0:=G5.out.size;clear HF y;cases j:aE T [] with
  | none=>
    rw [j] at G;simp only at G;subst G;have HE:=aB j;clear j;go_wp2;go_ret2;rw [HE.out];exact ⟨none,0,0,rfl,G6.out⟩
  | some o=>
    rw [j] at G;obtain ⟨v6,rfl,o6⟩:=G;obtain ⟨a6,c6,E,_,_⟩:=o6.sl;have b5:=aB (bH b0 o6);generalize o.length=OL at E;subst E;have HE:=aB j;clear j o6;go_wp2;go_ret2;rw [HE.out];exact ⟨_,rfl,.inl b5.out,G6.out⟩
theorem aJ8 (w:World) (x:Int):Bw w.heap.size (w.alloc (Obj.cells #[.int .u8 x] 5 (1,2))) (.slice (some ⟨w.heap.size,0,none⟩) 1 1) [x]:=by
 refine .inr ⟨w.heap.size,rfl,Nat.le_refl _,by simp,by simp,fun j h=>?_⟩;have:=World.cell?_alloc_mark w #[.int .u8 x] 5 (1,2) j;rw [this]
 match j,h with
 | 0,_=>rfl
theorem xJ {V:List Nod->Tr} {P:List Nod->List Pc × List Nod} {R:List Nod} : ∀ (k j:Nat),j<=k->gR V P R j=none->gR V P R k=none
 | 0,j,hj,h=>by obtain rfl:j=0:=by omega
                exact h
 | k+1,j,hj,h=>by
   by_cases e:j=k+1
   ·subst e;exact h
   ·simp only [gR,xJ k j (by omega) h,Option.bind_none]
theorem aHq (t:Tre) (ind:Int) (hD:iL t) (d:Nat) (hd:d<=202) (IH:∀ (j:Nat) (R2:List Nod) (m:Bool) (nv tv:Value) (w:World),j<t.N.length->aD aZ d m (t.N.drop j,())=some (R2,())->dG w.heap.size w nv tv t->mes (aF ind d (t.N.drop j)).1<=150000->
   Calls prog 41 #[.agg #[nv,tv],.int .i64 j] w fun e w'=>eL w (aE (aR ind d (t.N.drop j)) []) e w')
  (i:Nat) (hi:i<t.N.length) (hk:t.N[i].k=5) (r1:0<t.N[i].C) (h2:t.N[i].tail=[]) (R2:List Nod) (hw:aN (aD aZ d false) t.N[i].C.toNat (t.N.drop (i+1),())=some (R2,())) (hM:mes (aF ind (d+1) (t.N.drop i)).1<=150000) (nv tv:Value) (w:World) (hv:dG w.heap.size w nv tv t)
  (h6:∀ j o,gR (aR ind d) (aF ind d) (t.N.drop (i+1)) j=some o->j<=t.N[i].C.toNat->o.length<=2000000) :
  Calls prog 41 #[.agg #[nv,tv],.int .i64 i] w fun e w'=>eL w (aE (aR ind (d+1) (t.N.drop i)) []) e w':=by
 have c8:t.N.drop i=t.N[i]::t.N.drop (i+1):=List.drop_eq_getElem_cons hi;have f4:=aB (oE t ind d false (i+1) t.N[i].C.toNat R2 hw (fun p Z h5=>((hD.nd p Z).2.2.2.2.2.2.2.2.2.1 h5).1));have i7:Hid (∀ a,a<t.N.length->∀ R3,aD aZ d false (t.N.drop a,())=some (R3,())->∀ h:a<t.N.length,t.N[a].mem=false):=fun a ha R3 h3 h=>oN t d false a R3 h3 h
 have c1:Hid (∀ j a,j<t.N[i].C.toNat->a<t.N.length->aT (aF ind d) j (t.N.drop (i+1))=t.N.drop a->mes (aF ind d (t.N.drop a)).1<=150000):=fun j a hj ha hr=>by
  have k6:t.N.drop a=t.N[a]::t.N.drop (a+1):=List.drop_eq_getElem_cons ha;have:=zD (n:=t.N[i]) (R:=t.N.drop (i+1)) (d:=d) (ind:=ind) (by omega) (by omega) hj (hr.trans k6);rw [c8] at hM;rw [k6];omega
 have c0:Hid (aE (aR ind (d+1) (t.N.drop i)) []=(gR (aR ind d) (aF ind d) (t.N.drop (i+1)) t.N[i].C.toNat).map fun o=>([91]++o)++[93]):=by
  unfold Hid;rw [c8];simp only [aR];rw [if_neg (by omega),oX,if_neg (by omega)];simp only [aE];rw [xR,if_pos h2,hk];simp [iT,iY,aHd]
 have HV:=aB hv;have h0:=aB IH;have d9:=aB h6;have p3:=hD.len;clear hw IH c8 hM h6;obtain ⟨i5,j4⟩:=id hv;have HD:=aB hD;obtain ⟨na,G,p1,_⟩:=id i5;obtain ⟨ta,H,n9,_⟩:=id j4;obtain ⟨b,off,r8,lv,kv,xv,uv,qv,g4,v0,Z⟩:=i5.at i hi;have n2:=hD.cn _ (List.getElem_mem hi);have z0:=Z.k;have z1:=Z.L;have z2:=Z.mem;have z3:=Z.key;have z4:=Z.X;have z5:=Z.U;have z6:=Z.C;have z7:=Z.tail;obtain ⟨la,l7,h8,_,_⟩:=Z.rl.sl;obtain ⟨qa,j2,l8,_,_⟩:=Z.rt.sl;obtain ⟨ka,l3,g0,_,_⟩:=Z.sk;obtain ⟨xa,m1,o8,_,_⟩:=Z.sx;obtain ⟨ua,l1,o7,_,_⟩:=Z.su;have f6:t.N[i].tail.length=0:=(by rw [h2];rfl);rw [f6] at l8;subst h8 l8 g0 o8 o7 g4 n9;cases p1;clear i5 j4 hv Z h2 f6;generalize t.N[i]=p at *;obtain ⟨wA,d4⟩:∃ wA,wA=w.alloc (Obj.cells #[.slice (some ⟨b,off,none⟩) t.N.length G,.slice ta t.tail.length H] 33):=⟨_,rfl⟩;have gA:w.grownBy wA none:=(by rw [d4];exact gWA);have o4:=gA.cell z0 (by simp);have t8:=gA.cell z1 (by simp);have w3:=gA.cell z2 (by simp);have v7:=gA.cell z3 (by simp);have u6:=gA.cell z4 (by simp);have x2:=gA.cell z5 (by simp);have r0:=gA.cell z6 (by simp);have v2:=gA.cell z7 (by simp);have sA:wA.heap.size=w.heap.size+1:=(by rw [d4];simp);clear z0 z1 z2 z3 z4 z5 z6 z7;rw [hk] at o4;obtain ⟨c,hc⟩:∃ c:Nat,p.C=(c:Int):=⟨p.C.toNat,by omega⟩;have j8:p.C.toNat=c:=(by omega);rw [j8] at f4 c0 c1 d9;rw [hc] at r0 n2 r1;have v3:0<c:=(by omega);have w8:((c:Int)==0)=false:=(by simp;omega);obtain ⟨y,a4⟩:∃ y,y=wA.alloc (Obj.cells #[.int .i64 5,.slice la p.L.length l7,.bool p.mem,.slice ka p.key.length l3,.slice xa p.X.length m1,.slice ua p.U.length l1,.int .i64 c,.slice qa 0 j2] 49):=⟨_,rfl⟩;have gg:w.grownBy y none:=(by rw [a4];exact aA gA gWA);have i4:y.heap.size=w.heap.size+2:=(by rw [a4];simp [sA]);have GG:=aB gg;have y0:y.cell? ⟨w.heap.size,0,none⟩=some (.slice (some ⟨b,off,none⟩) t.N.length G):=(by rw [a4,d4];simp [go_sem]);have y1:y.cell? ⟨w.heap.size,1,none⟩=some (.slice ta t.tail.length H):=(by rw [a4,d4];simp [go_sem]);have y6:y.cell? ⟨w.heap.size+1,6,none⟩=some (.int .i64 c):=(by rw [a4,<- sA];simp [go_sem]);have Y:=aB (show _/\_/\_ from ⟨y0,y1,y6⟩);have kc:=Lib.run_convert_bytes_const (P:=prog) y 27 5 #[.int .u8 91] 1 1 underlying27 underlying5;obtain ⟨W4,d8⟩:∃ W4,W4=y.alloc (Obj.cells #[.int .u8 91] 5 (1,2)):=⟨_,rfl⟩;have k3:y.grownBy W4 none:=(by rw [d8];exact gWA);have n6:Hid (Bw y.heap.size W4 (.slice (some ⟨y.heap.size,0,none⟩) 1 1) [91]):=(by rw [d8];exact aJ8 y 91);have G4:=aB (aO k3);have k1:=aB d8;clear k3 d8;clear gA gg y0 y1 y6 hc j8;subst d4;rw [i4] at kc;have j3:=aB a4;rw [a4] at kc;clear a4
 go_enter func41,ntmps41
 go_wp2
 go_loopw [8,10,11] (fun r p8 k W=>∃ (j:Nat) (o:List Int),j<=c/\k=.int .i64 j/\p8=.int .i64 ((t.N.length - (aT (aF ind d) j (t.N.drop (i+1))).length:Nat):Int)/\Hid (gR (aR ind d) (aF ind d) (t.N.drop (i+1)) j=some o)/\Bw y.heap.size W r ([91]++o)/\Below y.heap.size y W)
  (fun _ _ k _=>c - (intOf k).toNat)
 case atStart=>
  refine ⟨0,[],Nat.zero_le _,rfl,?_,rfl,?_,?_⟩
  ·simp only [aT,List.length_drop];congr 1;omega
  ·have h4:=n6.out;rw [k1.out,i4] at h4;rw [<- j3.out,i4];simpa using h4
  ·have h4:=G4.out;rw [k1.out] at h4;rw [<- j3.out];exact h4
 case round=>
  obtain ⟨j,o,hj,rfl,rfl,c7,ho,J⟩:=hrel;obtain ⟨a,ha,f3,l4,w5,g3⟩:=f4.out j hj;have h6:=d9.out j o c7.out hj;rw [<- l4];clear l4;have c3:=J.size;obtain ⟨y0,y1,y6⟩:=Y.out;have x0:wr.cell? ⟨w.heap.size,0,none⟩=some (.slice (some ⟨b,off,none⟩) t.N.length G):=(by rw [J.cell (by simp;omega)];exact y0);have x1:wr.cell? ⟨w.heap.size,1,none⟩=some (.slice ta t.tail.length H):=(by rw [J.cell (by simp;omega)];exact y1);have x6:wr.cell? ⟨w.heap.size+1,6,none⟩=some (.int .i64 c):=(by rw [J.cell (by simp;omega)];exact y6);clear y0 y1 y6;have HO:=aB ho;have HB:=aB J;obtain ⟨ra,rc,p5,_,_⟩:=ho.sl;have w1:([91]++o).length<=2000002:=(by simp;omega);generalize j0:([91]++o).length=LL at *;subst p5;clear ho J
  by_cases m0:j<c
  ·obtain ⟨b5,d7⟩:=g3 m0;obtain ⟨b',t5,q8,lv,kv,xv,uv,qv,g4,r2,hq⟩:=HV.out.1.at a b5;cases g4;have d0:=i7.out a b5 _ d7 b5;have b0:=GG.out;have x4:Hid (RdI y.heap.size y kv t.N[a].key):=(hq.rk.K b0).wideC b0.size;have q1:=b0.cell hq.L (by simp);have q2:=b0.cell hq.mem (by simp);have q3:=b0.cell hq.key (by simp);have h9:b<y.heap.size:=(by omega);obtain ⟨u0,n4,h8,_,_⟩:=hq.rl.sl;obtain ⟨u7,n0,g0,_,_⟩:=hq.sk;rw [d0] at q2;have l6:t.N.drop a=t.N[a]::t.N.drop (a+1):=List.drop_eq_getElem_cons b5
   have M:Hid (gR (aR ind d) (aF ind d) (t.N.drop (i+1)) (j+1)=if t.N[a].L=[] then (aE (aR ind d (t.N.drop a)) []).map (fun s=>(o++(if j=0 then [] else [44,32]))++[]++s) else none):=by
    unfold Hid;simp only [gR,c7.out,Option.bind_some,f3];rw [l6];simp only [lR,d0];simp
   have k4:Hid (∀ W:World,Below y.heap.size y W->dG W.heap.size W (.slice (some ⟨b,off,none⟩) t.N.length G) (.slice ta t.tail.length H) t):=fun W g=>oW (HV.out.1.K b0) (HV.out.2.K b0) b0.size g;have f8:Hid (∀ W:World,Below y.heap.size y W->Calls prog 41 #[.agg #[.slice (some ⟨b,off,none⟩) t.N.length G,.slice ta t.tail.length H],.int .i64 a] W fun e w'=>eL W (aE (aR ind d (t.N.drop a)) []) e w'):=fun W g=>h0.out a _ false _ _ W b5 d7 (k4.out W g) (c1.out j a m0 b5 f3);have f5:Hid (∀ W:World,Below y.heap.size y W->_):=fun W (g:Below y.heap.size y W)=>kO t (by omega) (fun p Z h5=>((HD.out.nd p Z).2.2.2.2.2.2.2.2.2.1 h5).1) HD.out.cn d a false _ hd b5 d7 _ _ W (k4.out W g)
   have c2:=aB (show ∀ W:World,Below y.heap.size y W->W.cell? ⟨b,off+a*8+1,none⟩=some lv/\W.cell? ⟨b,off+a*8+2,none⟩=some (.bool false)/\W.cell? ⟨b,off+a*8+3,none⟩=some kv/\W.cell? ⟨w.heap.size,0,none⟩=some (.slice (some ⟨b,off,none⟩) t.N.length G)/\W.cell? ⟨w.heap.size,1,none⟩=some (.slice ta t.tail.length H) from
    fun W g=>⟨by rw [g.cell (by simpa using h9)];exact q1,by rw [g.cell (by simpa using h9)];exact q2,by rw [g.cell (by simpa using h9)];exact q3,by rw [g.cell (by simp;omega)];exact Y.out.1,by rw [g.cell (by simp;omega)];exact Y.out.2.1⟩)
   have k2:Hid (∀ o',gR (aR ind d) (aF ind d) (t.N.drop (i+1)) (j+1)=some o'->o'.length<=2000000):=fun o' h=>d9.out (j+1) o' h (by omega);have b1:Hid (gR (aR ind d) (aF ind d) (t.N.drop (i+1)) (j+1)=none->aE (aR ind (d+1) (t.N.drop i)) []=none):=fun h=>by rw [c0.out,xJ c (j+1) (by omega) h];rfl
   subst h8 g0;clear hq q1 q2 q3 d7 g3 l6 d0 f3 c1 h0 i7 f4 c7 c0 d9;generalize t.N[a]=nd at *;generalize aE (aR ind d (t.N.drop a)) []=FV at *;generalize j5:aT (aF ind d) (j+1) (t.N.drop (i+1))=RN at *;have k5:=aB j5;clear j5
   by_cases k0:j=0
   ·subst k0;have u:Hid (gR (aR ind d) (aF ind d) (t.N.drop (i+1)) (0+1)=if nd.L=[] then FV.map (fun s=>o++[]++s) else none):=(by unfold Hid;rw [M.out];simp);obtain ⟨u1,u2,u3,i1,g2⟩:=c2.out wr HB.out
    by_cases D:nd.L=[]
    ·have d5:nd.L.length=0:=(by rw [D];rfl);rw [d5] at u1;have O:Hid (gR (aR ind d) (aF ind d) (t.N.drop (i+1)) (0+1)=FV.map (fun s=>o++[]++s)):=(by unfold Hid;rw [u.out,if_pos D]);clear d5 D;have b6:=aB (f8.out wr HB.out)
     go_wp2_with fail
     refine b6.out.mono ?_;intro e b4 hE;cases FV with
     | none=>
       obtain ⟨h7,n8,g5,rfl,E⟩:=hE;have HG:=aB (aA GG.out (aC (HB.out.grown E c3 (fun x e=>by cases e))));have HE:=aB (b1.out (by rw [O.out];rfl));clear b6 O b1;go_wp2;go_ret2;rw [HE.out];exact ⟨none,0,0,rfl,HG.out⟩
     | some s=>
       obtain ⟨i2,rfl,b3,E⟩:=hE;have d2:=k2.out _ O.out;have i6:s.length<=2000000:=(by simp only [List.length_append] at d2;omega);have l2:=E.size;obtain ⟨n1,b9,g1,S,c5,_⟩:=nD y.heap.size b4 _ i2 _ s (HO.out.K E) b3.rd (by omega) (by omega);have a6:Below y.heap.size wr b4:=(Below.refl _ _).grown E c3 (fun x e=>by cases e);have a5:Below y.heap.size b4 b9:=(Below.refl _ _).grown c5 (by omega) (fun x e=>(HO.out.lt x e).1);have A:=aB (HB.out.trans (a6.trans a5));have b7:=A.out.size;rw [List.append_assoc] at S;have a8:=aB S;obtain ⟨h7,g5,a7,_,_⟩:=b3.sl;obtain ⟨q9,p9,b2,_,_⟩:=S.sl;generalize s.length=SL at a7;generalize ([91]++(o++s)).length=L11 at b2;subst a7 b2;obtain ⟨_,_,_,m3,l9⟩:=c2.out b9 A.out;have d1:=aB (f5.out b9 A.out);clear b3 S E c5 a6 a5 b6 HO c2 u1 u2 u3 i1 g2 d2 i6
       go_wp2_with fail
       refine d1.out.mono ?_;rintro e q0 ⟨rfl,b8⟩;have d3:=aB (A.out.grown b8 b7 (fun x e=>by cases e));have c6:=aB (a8.out.K b8);clear a8 d1 b8;go_wp2
       go_roundw
       case rel=>exact ⟨0+1,_,by omega,by go_num,by rw [k5.out],O.out,by simpa using c6.out,d3.out⟩
       case measure=>simp [intOf];omega
    ·have i0:0<nd.L.length:=List.length_pos_iff.2 D;have j1:decide ((0:Int)<(nd.L.length:Int))=true:=(by simpa using i0);have HG:=aB (aA GG.out (aC HB.out));have HE:=aB (b1.out (by rw [u.out,if_neg D]));clear b1 u M D;go_wp2;go_ret2;rw [HE.out];exact ⟨none,0,0,rfl,HG.out⟩
   ·have w6:0<j:=(by omega);have u:Hid (gR (aR ind d) (aF ind d) (t.N.drop (i+1)) (j+1)=if nd.L=[] then FV.map (fun s=>(o++[44,32])++[]++s) else none):=(by unfold Hid;rw [M.out];simp [k0]);obtain ⟨vx,wx,m2,ox,gx⟩:=mY y.heap.size wr _ _ [44,32] HO.out (by intro z hz;simp at hz;omega) (by simp) c3 (by simp;omega);rw [show strOfNums [44,32] = { data:=#[44,32] } by rfl] at m2;have c4:=aB (HB.out.grown gx c3 (fun x e=>(HO.out.lt x e).1));have f7:=c4.out.size;rw [List.append_assoc] at ox;have g7:=aB ox;obtain ⟨t7,t9,n5,_,_⟩:=ox.sl;generalize q4:([91]++(o++[44,32])).length=LX at *;have r3:LX<=2000004:=(by rw [<- q4];simp at j0 ⊢;omega);subst n5;clear ox gx;obtain ⟨u1,u2,u3,i1,g2⟩:=c2.out wx c4.out
    by_cases D:nd.L=[]
    ·have d5:nd.L.length=0:=(by rw [D];rfl);rw [d5] at u1;have O:Hid (gR (aR ind d) (aF ind d) (t.N.drop (i+1)) (j+1)=FV.map (fun s=>(o++[44,32])++[]++s)):=(by unfold Hid;rw [u.out,if_pos D]);clear d5 D;have b6:=aB (f8.out wx c4.out)
     go_wp2_with fail
     refine b6.out.mono ?_;intro e b4 hE;cases FV with
     | none=>
       obtain ⟨h7,n8,g5,rfl,E⟩:=hE;have HG:=aB (aA GG.out (aC (c4.out.grown E f7 (fun x e=>by cases e))));have HE:=aB (b1.out (by rw [O.out];rfl));clear b6 O b1;go_wp2;go_ret2;rw [HE.out];exact ⟨none,0,0,rfl,HG.out⟩
     | some s=>
       obtain ⟨i2,rfl,b3,E⟩:=hE;have d2:=k2.out _ O.out;have i6:s.length<=2000000:=(by simp only [List.length_append] at d2;omega);have l2:=E.size;obtain ⟨n1,b9,g1,S,c5,_⟩:=nD y.heap.size b4 _ i2 _ s (g7.out.K E) b3.rd (by omega) (by omega);have a6:Below y.heap.size wx b4:=(Below.refl _ _).grown E f7 (fun x e=>by cases e);have a5:Below y.heap.size b4 b9:=(Below.refl _ _).grown c5 (by omega) (fun x e=>(g7.out.lt x e).1);have A:=aB (c4.out.trans (a6.trans a5));have b7:=A.out.size;rw [List.append_assoc] at S;have a8:=aB S;obtain ⟨h7,g5,a7,_,_⟩:=b3.sl;obtain ⟨q9,p9,b2,_,_⟩:=S.sl;generalize s.length=SL at a7;generalize ([91]++((o++[44,32])++s)).length=L11 at b2;subst a7 b2;obtain ⟨_,_,_,m3,l9⟩:=c2.out b9 A.out;have d1:=aB (f5.out b9 A.out);clear b3 S E c5 a6 a5 b6 g7 c2 u1 u2 u3 i1 g2 d2 i6
       go_wp2_with fail
       refine d1.out.mono ?_;rintro e q0 ⟨rfl,b8⟩;have d3:=aB (A.out.grown b8 b7 (fun x e=>by cases e));have c6:=aB (a8.out.K b8);clear a8 d1 b8;go_wp2
       go_roundw
       case rel=>exact ⟨j+1,_,by omega,by go_num,by rw [k5.out],O.out,by simpa using c6.out,d3.out⟩
       case measure=>simp [intOf];omega
    ·have i0:0<nd.L.length:=List.length_pos_iff.2 D;have j1:decide ((0:Int)<(nd.L.length:Int))=true:=(by simpa using i0);have HG:=aB (aA GG.out (aC c4.out));have HE:=aB (b1.out (by rw [u.out,if_neg D]));clear b1 u M D;go_wp2;go_ret2;rw [HE.out];exact ⟨none,0,0,rfl,HG.out⟩
  ·have q5:j=c:=(by omega);subst q5;obtain ⟨v9,w9,k7,o9,g9⟩:=mY y.heap.size wr _ _ [93] HO.out (by intro z hz;simp at hz;omega) (by simp) c3 (by simp;simp at j0;omega);rw [show strOfNums [93] = { data:=#[93] } by rfl] at k7;have q6:=aB (HB.out.grown g9 c3 (fun x e=>(HO.out.lt x e).1));have o2:=aB (aA GG.out (aC q6.out));have o6:=aB (o9.base (B':=w.heap.size) GG.out.size);obtain ⟨a9,c9,k9,_,_⟩:=o9.sl;have n3:Hid (aE (aR ind (d+1) (t.N.drop i)) []=some (([91]++o)++[93])):=(by unfold Hid;rw [c0.out,c7.out];rfl);generalize (([91]++o)++[93]).length=L9 at k9;subst k9;clear o9 g9 HO f4 c1 i7 h0 c7 g3 f3;go_wp2;go_ret2;rw [n3.out];exact ⟨_,rfl,o6.out,o2.out⟩
end Go.Proofs.YtgifkcpdihphlaaGreatDoor
