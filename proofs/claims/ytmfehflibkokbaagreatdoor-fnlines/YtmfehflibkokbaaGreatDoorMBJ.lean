import Derived.Deep.RegionLaw
import Derived.Test.YtmfehflibkokbaaGreatDoorMAG
import Derived.Test.YtmfehflibkokbaaGreatDoorMBI
set_option maxHeartbeats 16000000
set_option maxRecDepth 100000
namespace Go.Proofs.YtmfehflibkokbaaGreatDoor
open Go.Proofs.Tryz
open Go.RowKit
theorem bI (x:pK) (its:List pK):trs (x::its)=x.T::trs its:=rfl
def jR (width:Int) (gs:Option (List Int)) (its:List pK) (out met:List Int) (col:Int):Option (List Int × List Int):=lay width gs (szs (trs its)+1) its out met col
theorem oF {width:Int} {y:Option (List Int)} {f:Nat} {its:List pK} {out met:List Int} {col:Int} (h:szs (trs its)<f):lay width y f its out met col=jR width y its out met col:=
 nQ width y f _ its out met col h (by omega)
theorem aHZ (width:Int) (h:Option (List Int)) (out met:List Int) (col:Int):jR width h [] out met col=some (out,met):=by simp [jR,lay]
theorem aGB (width:Int) (y:Option (List Int)) (p:Pc) (n:Nat) (ind:Int) (rest:List pK) (out met:List Int) (col:Int):jR width y (⟨.leaf p,n,ind⟩::rest) out met col =
  if p.k=1 then jR width y rest (out++p.t) met (col+aI p.t) else if p.k=5 then jR width y rest (out++[10]) met 0
  else if p.k=2\/p.k=3\/p.k=4 then jR width y rest (out++bR ind) met ind else jR width y rest out met col:=by
 rw [jR,bI];simp only [lay,szs,sz];have h:∀ o m c,lay width y (p.t.length+1+szs (trs rest)) rest o m c=jR width y rest o m c:=fun o m c=>oF (by omega);simp only [h]
theorem aIp (width:Int) (h:Option (List Int)) (p:Pc) (x y:Tr) (n:Nat) (ind:Int) (rest:List pK) (out met:List Int) (col:Int):jR width h (⟨.bin p x y,n,ind⟩::rest) out met col =
  if p.k=6 then jR width h (⟨x,n,ind⟩::⟨y,n+bV x,ind⟩::rest) out met col else jR width h (⟨x,n,ind⟩::rest) out met col:=by
 rw [jR,bI];simp only [lay,szs,sz]
 have A:∀ o m c,lay width h (p.t.length+1+(sz x+sz y)+szs (trs rest)) (⟨x,n,ind⟩::⟨y,n+bV x,ind⟩::rest) o m c=jR width h (⟨x,n,ind⟩::⟨y,n+bV x,ind⟩::rest) o m c:=
  fun o m c=>oF (by simp only [bI,szs];omega)
 have D:∀ o m c,lay width h (p.t.length+1+(sz x+sz y)+szs (trs rest)) (⟨x,n,ind⟩::rest) o m c=jR width h (⟨x,n,ind⟩::rest) o m c:=
  fun o m c=>oF (by simp only [bI,szs];omega)
 simp only [A,D]
theorem aKi (width:Int) (h:Option (List Int)) (p:Pc) (x:Tr) (n:Nat) (ind:Int) (rest:List pK) (out met:List Int) (col:Int):jR width h (⟨.un p x,n,ind⟩::rest) out met col =
  if p.k=7 then jR width h (⟨x,n,ind+p.n⟩::rest) out met col
  else
   match h with
   | none=>
     match aM x [] with
     | some text=>
       if col+aI text+jW (rest.map (·.T))<=width then jR width h rest (out++text) (pO (.un p x) n met) (col+aI text)
       else jR width h (⟨x,n,ind⟩::rest) out (met.set (n+bV x) 2) col
     | none=>jR width h (⟨x,n,ind⟩::rest) out (met.set (n+bV x) 2) col
   | some g=>
     if g[n+bV x]?.getD 0=1 then
      match aM x [] with
      | some text=>jR width h rest (out++text) (pO (.un p x) n met) (col+aI text)
      | none=>none
     else if g[n+bV x]?.getD 0=2 then jR width h (⟨x,n,ind⟩::rest) out (met.set (n+bV x) 2) col
     else none:=by
 rw [jR,bI];simp only [lay,szs,sz]
 have y:∀ i o m c,lay width h (p.t.length+1+sz x+szs (trs rest)) (⟨x,n,i⟩::rest) o m c=jR width h (⟨x,n,i⟩::rest) o m c:=
  fun i o m c=>oF (by simp only [bI,szs];omega)
 have A:∀ o m c,lay width h (p.t.length+1+sz x+szs (trs rest)) rest o m c=jR width h rest o m c:=
  fun o m c=>oF (by omega)
 simp only [y,A];cases h with
 | none=>cases aM x []<;>rfl
 | some g=>cases aM x []<;>rfl
section
variable {doc:List Pc} {st:List Int} {gn:Nat} {its:List (pK × Nat)} {out met:List Int} {col:Int} {n b:Nat} {ind:Int}
end
theorem sT:∀ (T:Tr),1<=sz T
 | .leaf _=>by simp only [sz];omega
 | .un _ _=>by simp only [sz];omega
 | .bin _ _ _=>by simp only [sz];omega
theorem kR (width:Int):∀ (f:Nat) (its:List pK) (out met:List Int) (col:Int),szs (trs its)<f->∃ r,lay width none f its out met col=some r
 | 0,_,_,_,_,h=>by omega
 | f+1,[],out,met,col,_=>⟨(out,met),by simp only [lay]⟩
 | f+1,⟨.leaf p,n,ind⟩::rest,out,met,col,h=>by
   simp only [bI,szs,sz] at h;have A:∀ o m c,∃ r,lay width none f rest o m c=some r:=fun o m c=>kR width f rest o m c (by omega);simp only [lay]
   split
   ·exact A _ _ _
   ·split
    ·exact A _ _ _
    ·split
     ·exact A _ _ _
     ·exact A _ _ _
 | f+1,⟨.bin p x y,n,ind⟩::rest,out,met,col,h=>by
   simp only [bI,szs,sz] at h;simp only [lay]
   split
   ·exact kR width f _ _ _ _ (by simp only [bI,szs];omega)
   ·exact kR width f _ _ _ _ (by simp only [bI,szs];omega)
 | f+1,⟨.un p x,n,ind⟩::rest,out,met,col,h=>by
   simp only [bI,szs,sz] at h;simp only [lay]
   split
   ·exact kR width f _ _ _ _ (by simp only [bI,szs];omega)
   ·cases aM x [] with
    | none=>exact kR width f _ _ _ _ (by simp only [bI,szs];omega)
    | some text=>
      simp only
      split
      ·exact kR width f _ _ _ _ (by omega)
      ·exact kR width f _ _ _ _ (by simp only [bI,szs];omega)
theorem zG {doc:List Pc} {T:Tr} (h:eX doc=true) (E:bd doc []=some [T]):okN T/\dK T<=4000/\∀ p∈doc,nE p=true:=by
 have D:=h;simp only [eX,Bool.and_eq_true,E,decide_eq_true_eq] at D;have y:=D.1.1.1.2;have A:=aB3 doc [] [T] y (by intro x M;cases M) E T (by simp);refine ⟨A,?_,fun p J=>List.all_eq_true.1 y p J⟩;rcases rR T A with ⟨G,_⟩ | ⟨_,N⟩
 ·exact G
 ·have:=D.2;omega
def jQ (doc:List Pc) (width:Int):Option (List Int × List Int):=
 if eX doc=true/\0<=width/\width<=65535 then (match bd doc [] with | some [T]=>jR width none [⟨T,0,0⟩] [] (List.replicate (grp doc doc.length) 0) 0 | _=>none) else none
def aEw (w:World) (r:Option (List Int × List Int)) (e:Ending) (w':World):Prop:=
 match r with
 | some (out,met)=>∃ ov mv,e=.returned (.tuple #[ov,mv,.int .i64 0])/\OwB w.heap.size w' ov out/\OwI w.heap.size w' mv met/\(∀ g,ov.ownBlock=some g->mv.ownBlock≠some g)/\w.grownBy w' none
 | none=>e=.returned (.tuple #[.slice none 0 0,.slice none 0 0,.int .i64 1])/\w.grownBy w' none
def nU (it:pK):Prop:=okN it.T/\it.ind+dK it.T<=4000
theorem lV (width:Int) (A:Option (List Int)):∀ (f:Nat) (its:List pK) (out met:List Int) (col:Int) (o m:List Int),(∀ E∈its,nU E)->lay width A f its out met col=some (o,m)->o.length<=out.length+4001*szs (trs its)
 | 0,_,_,_,_,_,_,_,h=>by simp [lay] at h
 | f+1,[],out,met,col,o,m,_,h=>by simp only [lay,Option.some.injEq,Prod.mk.injEq] at h;rw [h.1];omega
 | f+1,⟨.leaf p,n,ind⟩::rest,out,met,col,o,m,hi,h=>by
   simp only [lay] at h;rw [bI];simp only [szs,sz];have J:∀ E∈rest,nU E:=fun E hit=>hi E (List.mem_cons_of_mem _ hit);have M:=(hi ⟨.leaf p,n,ind⟩ (by simp)).2;simp only [dK] at M;have a8:=aDP ind (by omega)
   split at h
   ·have:=lV width A f _ _ _ _ _ _ J h;rw [List.length_append] at this;omega
   ·split at h
    ·have:=lV width A f _ _ _ _ _ _ J h;simp only [List.length_append,List.length_cons,List.length_nil] at this;omega
    ·split at h
     ·have:=lV width A f _ _ _ _ _ _ J h;rw [List.length_append] at this;omega
     ·have:=lV width A f _ _ _ _ _ _ J h;omega
 | f+1,⟨.bin p x y,n,ind⟩::rest,out,met,col,o,m,hi,h=>by
   simp only [lay] at h;rw [bI];simp only [szs,sz];have J:∀ E∈rest,nU E:=fun E hit=>hi E (List.mem_cons_of_mem _ hit);have M:=hi ⟨.bin p x y,n,ind⟩ (by simp);simp only [nU,okN,dK] at M;have S:nU ⟨x,n,ind⟩:=⟨M.1.1,by simp only;omega⟩;have hy:nU ⟨y,n+bV x,ind⟩:=⟨M.1.2,by simp only;omega⟩
   split at h
   ·have:=lV width A f _ _ _ _ _ _ (fun E hit=>by
     rcases List.mem_cons.1 hit with rfl | hit
     ·exact S
     ·rcases List.mem_cons.1 hit with rfl | hit
      ·exact hy
      ·exact J E hit) h
    rw [bI,bI] at this;simp only [szs] at this;omega
   ·have:=lV width A f _ _ _ _ _ _ (fun E hit=>by
     rcases List.mem_cons.1 hit with rfl | hit
     ·exact S
     ·exact J E hit) h
    rw [bI] at this;simp only [szs] at this;omega
 | f+1,⟨.un p x,n,ind⟩::rest,out,met,col,o,m,hi,h=>by
   simp only [lay] at h;rw [bI];simp only [szs,sz];have J:∀ E∈rest,nU E:=fun E hit=>hi E (List.mem_cons_of_mem _ hit);have M:=hi ⟨.un p x,n,ind⟩ (by simp);simp only [nU,okN,dK] at M;have a4:nU ⟨x,n,ind+p.n⟩:=⟨M.1.2,by simp only;omega⟩;have S:nU ⟨x,n,ind⟩:=⟨M.1.2,by simp only;omega⟩
   have X:∀ i,nU ⟨x,n,i⟩->∀ E∈(⟨x,n,i⟩:pK)::rest,nU E:=fun i hh E hit=>by
    rcases List.mem_cons.1 hit with rfl | hit
    ·exact hh
    ·exact J E hit
   have G:∀ i (Z U:List Int) (c:Int),nU ⟨x,n,i⟩->lay width A f (⟨x,n,i⟩::rest) Z U c=some (o,m)->Z.length<=out.length->o.length<=out.length+4001*(p.t.length+1+sz x+szs (trs rest)):=fun i Z U c hh Y hl=>by
    have:=lV width A f _ _ _ _ _ _ (X i hh) Y;rw [bI] at this;simp only [szs] at this;omega
   have O:∀ (D U:List Int) (c:Int),aM x []=some D->lay width A f rest (out++D) U c=some (o,m)->o.length<=out.length+4001*(p.t.length+1+sz x+szs (trs rest)):=fun D U c N Y=>by
    have:=lV width A f _ _ _ _ _ _ J Y;have hl:=lY x [] D N;simp only [List.length_append,List.length_nil] at this hl;omega
   split at h
   ·exact G _ _ _ _ a4 h (Nat.le_refl _)
   ·cases A with
    | none=>
      simp only at h;cases N:aM x [] with
      | none=>
        rw [N] at h;exact G _ _ _ _ S h (Nat.le_refl _)
      | some D=>
        rw [N] at h;simp only at h
        split at h
        ·exact O D _ _ N h
        ·exact G _ _ _ _ S h (Nat.le_refl _)
    | some gs=>
      simp only at h
      split at h
      ·cases N:aM x [] with
       | none=>rw [N] at h;cases h
       | some D=>
         rw [N] at h;exact O D _ _ N h
      ·split at h
       ·exact G _ _ _ _ S h (Nat.le_refl _)
       ·cases h
end Go.Proofs.YtmfehflibkokbaaGreatDoor
namespace Go.Proofs.YtmfehflibkokbaaGreatDoor
open Go.Proofs.Tryz
def qU (width ind:Int) (t:Tre):List Int:=
 match t.N with
 | []=>[]
 | n::R=>((dO n.L 0++LX width (dZ ind 201 (n::R)) 0 (dO n.L 0) 0)++[10])++dO t.tail 0
theorem aG2 {t:List Int} (h:Vt t):Bys t:=by
 obtain ⟨q,A,rfl⟩:=h;intro x y;simp only [aP,List.mem_flatMap] at y;obtain ⟨p,D,y⟩:=y;have E:=aE2 (List.all_eq_true.1 A p D)
 by_cases a:p<128
 ·rw [wB p a] at y;simp at y;omega
 ·by_cases b:p<2048
  ·rw [aEM p a b] at y;simp at y;omega
  ·by_cases c:p<65536
   ·rw [aEr p b c] at y;simp at y;omega
   ·rw [aEV p c] at y;simp at y;omega
def ByT:Tr->Prop
 | .leaf p=>Bys p.t
 | .un p x=>Bys p.t/\ByT x
 | .bin p x y=>Bys p.t/\ByT x/\ByT y
theorem aCs:Bys []:=fun z h=>by simp at h
theorem zJ:∀ (T:Tr),OkT T->ShT T->ByT T
 | .leaf p,h,⟨_,_,h3⟩=>by
   by_cases A:p.k=1
   ·exact aG2 (h A).1
   ·show Bys p.t
    rw [h3 A];exact aCs
 | .un p x,h,⟨_,h2,h3⟩=>⟨by rw [h2];exact aCs,zJ x h.2 h3⟩
 | .bin p x y,h,⟨_,h2,_,h4,h5⟩=>⟨by rw [h2];exact aCs,zJ x h.1 h4,zJ y h.2 h5⟩
theorem aIV:∀ (ps:List Pc) (st A:List Tr),bd ps st=some A->(∀ T∈A,ByT T)->(∀ p∈ps,Bys p.t)/\∀ T∈st,ByT T
 | [],st,A,h,y=>by simp [bd] at h;subst h;exact ⟨by simp,y⟩
 | p::ps,st,A,h,y=>by
   simp only [bd] at h;obtain ⟨J,D,N⟩:=Option.bind_eq_some_iff.1 h;obtain ⟨M,E⟩:=aIV ps J A N y
   have:Bys p.t/\∀ T∈st,ByT T:=by
    unfold dA at D
    split at D
    ·cases D;exact ⟨E (.leaf p) (by simp),fun T y=>E T (by simp [y])⟩
    ·split at D
     ·split at D
      ·cases D;obtain ⟨a,b⟩:=E _ (List.mem_cons_self ..);exact ⟨a,fun T y=>by rcases List.mem_cons.1 y with rfl | y;exact b;exact E T (by simp [y])⟩
      ·cases D
     ·split at D
      ·cases D;obtain ⟨a,b,c⟩:=E _ (List.mem_cons_self ..);exact ⟨a,fun T y=>by simp only [List.mem_cons] at y;rcases y with rfl | rfl | y;exact c;exact b;exact E T (by simp [y])⟩
      ·cases D
   exact ⟨fun q G=>by rcases List.mem_cons.1 G with rfl | G;exact this.1;exact M q G,this.2⟩
theorem aB2:∀ (ps:List Pc) (p:Pc),p∈ps->(p.t.length:Int)<=cM ps
 | [],p,h=>by simp at h
 | q::ps,p,h=>by
   simp only [cM];rcases List.mem_cons.1 h with rfl | h
   ·have:=iC ps;omega
   ·have:=aB2 ps p h;omega
theorem aHz:bR 0=[10]:=rfl
theorem aKe {width:Int} {n:Nod} {V:Tr} {tail:List Cm} (D:OkT V) (J:OkL (fD n.L)) :
  (ly width (iV (fD n.L++(V::bD 4::fD tail))) 0 0 0).1=((dO n.L 0++LX width V 0 (dO n.L 0) 0)++[10])++dO tail 0:=by
 have G:Cu []:=mO;have O:lJ []=0:=(by have:=iR (q:=[]) rfl;simpa [aP,lJ,kZ] using this);have h:(ly width (iV (fD n.L++(V::bD 4::fD tail))) 0 0 0).1=LX width (iV (fD n.L++(V::bD 4::fD tail))) 0 [] 0:=(by unfold LX;rw [O]);have E:∀ o b,LXL width (fD n.L) 0 o b=dO n.L 0:=fun o b=>aCp _ _ _ _ _;have N:∀ o b,LXL width (fD tail) 0 o b=dO tail 0:=fun o b=>aCp _ _ _ _ _;rw [h,aEh,tX J (Int.le_refl 0) G,E,List.nil_append];have A:=(sM (width:=width) (b:=0) (Int.le_refl 0) J G).2;rw [E,List.nil_append] at A;have y:bhL (bD 4::fD tail) 0=0:=(by simp only [bhL,xX (.inr (.inr rfl))]);rw [jT D (Int.le_refl 0) A,y];have M:=(pF (width:=width) (b:=0) D (Int.le_refl 0) A).2;rw [jT (jN (by omega)) (Int.le_refl 0) M,aCt width (.inr (.inr rfl)),aHz,N];simp only [List.append_assoc]
theorem aJm {width ind:Int} {t:Tre} (hi:0<=ind) (b3:ind<=16) (b9:0<=width) (a7:width<=65535) (hl:dU (dT ind t)=false)
  (X:∀ p∈t.N,fB fO nL p) (b8:∀ p∈t.N,xJ p) (a9:t.tail.all fO=true) (b1:∀ c∈t.tail,Bys c.t) (G:aE bC 201 false (t.N,())=some ([],())) :
  (∃ met,jQ (dT ind t) width=some (qU width ind t,met))/\Doc (dT ind t)/\(qU width ind t).length<=560140000:=by
 obtain ⟨n,R,hR⟩:=mV G
 have E:∀ p∈t.N,p.k<5->p.C=0:=fun p M hk=>by
  obtain ⟨_,_,_,_,_,_,_,_,_,h,_⟩:=X p M;exact (h hk).1
 have hx:∀ p∈t.N,NdX p:=fun p M=>aHU (X p M) (b8 p M);have hV:=vG hi 201 false _ _ G E hx;have hB:=aEA ind 201 false _ _ G E;have b4:=aEI hi b3 201 (Nat.le_refl _) t.N;have hn:=hx n (by rw [hR];simp);have a8:=aHD b1 a9;have D:0<=ind*((201:Nat):Int):=(by omega);have a5:dT ind t=cV (bM n.L++((aJ ind 201 t.N).1::aH 4::bM t.tail)):=by unfold dT;rw [hR]
 have a6:Bl (dT ind t) (iV (fD n.L++(dZ ind 201 t.N::bD 4::fD t.tail))):=by
  rw [a5];exact wH ((aCk _).app (.cons hB (.cons (jU 4 (by simp [ar])) (aCk _))))
 have J:OkT (iV (fD n.L++(dZ ind 201 t.N::bD 4::fD t.tail))):=tG (aCM hn.bef (eQ hV (eQ (jN (by omega)) a8)));have A:Sh (ind*((201:Nat):Int)) (iV (fD n.L++(dZ ind 201 t.N::bD 4::fD t.tail))):=zD D (qZ (aBL D _) (dB b4 (dB (jS D (by omega)) (aBL D _))));have a4:=aKe (width:=width) (n:=n) (tail:=t.tail) hV hn.bef;have c1:qU width ind t=((dO n.L 0++LX width (dZ ind 201 t.N) 0 (dO n.L 0) 0)++[10])++dO t.tail 0:=(by unfold qU;rw [hR]);generalize iV (fD n.L++(dZ ind 201 t.N::bD 4::fD t.tail))=T at a6 J A a4;have y:bd (dT ind t) []=some [T]:=a6 [];have b0:=(aIz _ _ _ y (fun U S=>by simp at S;subst S;exact yE _ J A.1)).1;have c3:=(aIV _ _ _ y (fun U S=>by simp at S;subst S;exact zJ _ J A.1)).1;simp only [dU,Bool.or_eq_false_iff,decide_eq_false_iff_not] at hl;have Y:dT ind t≠[]:=fun e=>by rw [e] at y;simp [bd] at y
 have Z:1<=(dT ind t).length:=List.length_pos_iff.2 Y
 have b7:(gZ (dT ind t)).length=(dT ind t).length:=by
  rcases vM _ Y with ⟨h,_⟩ | ⟨_,h⟩
  ·exact h
  ·exact absurd y (h T)
 have b2:jH T<=4000:=by have:=A.2;omega
 have hv:eX (dT ind t)=true:=by
  simp only [eX,Bool.and_eq_true,decide_eq_true_eq,y];exact ⟨⟨⟨⟨⟨Z,by omega⟩,List.all_eq_true.2 b0⟩,by omega⟩,b7⟩,b2⟩
 obtain ⟨f1,f2,f3⟩:=zG hv y;obtain ⟨r,hr⟩:=kR width (szs (trs [⟨T,0,0⟩])+1) [⟨T,0,0⟩] [] (List.replicate (grp (dT ind t) (dT ind t).length) 0) 0 (by omega)
 have b5:jQ (dT ind t) width=some r:=by
  unfold jQ;rw [if_pos ⟨hv,b9,a7⟩,y];exact hr
 have O:r.1=qU width ind t:=by
  have:=mN width _ _ _ _ _ _ hr;simp only [lyS,List.map_nil,jW,List.append_nil,List.nil_append] at this;rw [this,a4,c1]
 have c2:=aH6 _ _ _ y;simp only [szs] at c2;refine ⟨⟨r.2,by rw [b5,<- O]⟩,⟨by omega,fun p M=>by have:=aB2 _ p M;omega,by omega,c3⟩,?_⟩;have ho:=lV width none _ _ _ _ _ r.1 r.2 (fun it hit=>by simp at hit;subst hit;exact ⟨f1,by simpa using f2⟩) hr;have hz:szs (trs [⟨T,0,0⟩])=sz T:=(by simp [trs,szs]);rw [hz] at ho;rw [<- O];simp at ho;omega
end Go.Proofs.YtmfehflibkokbaaGreatDoor
namespace Go.Proofs.YtmfehflibkokbaaGreatDoor
open Go.Proofs.Tryz
open Go.RowKit
theorem uH (a b:Int) (l:List Int):iM (a::b::l)=((decide (a=42)&&decide (b=47))||iM (b::l)):=rfl
theorem aLj:iM []=false:=rfl
theorem aLh (a:Int):iM [a]=false:=rfl
theorem aHG:∀ (l:List Int),iM l=true ↔ ∃ i,i+1<l.length/\l[i]?.getD 0=42/\l[i+1]?.getD 0=47
 | []=>by simp [aLj]
 | [a]=>by simp [aLh]
 | a::b::l=>by
   rw [uH,Bool.or_eq_true,aHG (b::l),Bool.and_eq_true,decide_eq_true_eq,decide_eq_true_eq];constructor
   ·rintro (⟨y,h⟩ | ⟨i,y,h,A⟩)
    ·exact ⟨0,by simp,by simpa using y,by simpa using h⟩
    ·exact ⟨i+1,by simpa using y,by simpa using h,by simpa using A⟩
   ·rintro ⟨i,y,h,A⟩;cases i with
    | zero=>exact .inl ⟨by simpa using h,by simpa using A⟩
    | succ i=>exact .inr ⟨i,by simpa using y,by simpa using h,by simpa using A⟩
theorem aFC (r:List Int):∀ (l:List Int),(∀ x∈l,128<=x)->iM (l++r)=iM r
 | [],_=>rfl
 | a::l,h=>by
   have ih:=aFC r l (fun x A=>h x (by simp [A]));have D:=h a (by simp);rw [List.cons_append];cases y:l++r with
   | nil=>
     rw [List.append_eq_nil_iff] at y;rw [y.2];rfl
   | cons b m=>
     rw [uH,<- y,ih,decide_eq_false (by omega)];rfl
theorem aFF (p:Int) (h:128<=p) (A:p<=1114111):∀ x∈enc p,128<=x:=by
 by_cases a:p<2048
 ·rw [aEM p (by omega) a];intro x y;simp only [List.mem_cons,List.not_mem_nil,or_false] at y;rcases y with rfl | rfl<;>omega
 ·by_cases b:p<65536
  ·rw [aEr p a b];intro x y;simp only [List.mem_cons,List.not_mem_nil,or_false] at y;rcases y with rfl | rfl | rfl<;>omega
  ·rw [aEV p b];intro x y;simp only [List.mem_cons,List.not_mem_nil,or_false] at y;rcases y with rfl | rfl | rfl | rfl<;>omega
theorem aIQ (p:Int) (D:0<=p) (A:p<=1114111):∃ x l,enc p=x::l/\(x=47 ↔ p=47):=by
 by_cases a:p<128
 ·exact ⟨p,[],wB p a,Iff.rfl⟩
 ·have y:=aFF p (by omega) A;cases h:enc p with
  | nil=>have:=xO p;rw [h] at this;simp at this
  | cons x l=>
    rw [h] at y;have:=y x (by simp);exact ⟨x,l,rfl,by omega⟩
theorem aHY:∀ (ps:List Int),ps.all bW=true->iM (aP ps)=iM ps
 | [],_=>rfl
 | p::ps,h=>by
   simp only [List.all_cons,Bool.and_eq_true] at h;have ih:=aHY ps h.2;have e:aP (p::ps)=enc p++aP ps:=(by simp [aP]);obtain ⟨⟨M,D⟩,_⟩:=aE5 h.1;rw [e]
   by_cases a:p<128
   ·rw [wB p a];cases ps with
    | nil=>rfl
    | cons q qs=>
      simp only [List.all_cons,Bool.and_eq_true] at h;obtain ⟨⟨y,G⟩,_⟩:=aE5 h.2.1;obtain ⟨x,l,J,A⟩:=aIQ q y G
      have E:aP (q::qs)=x::(l++aP qs):=by
       have:aP (q::qs)=enc q++aP qs:=by simp [aP]
       rw [this,J];rfl
      rw [E] at ih ⊢;rw [List.singleton_append,uH,uH,ih];congr 2;exact decide_eq_decide.2 A
   ·rw [aFC _ _ (aFF p (by omega) D),ih];cases ps with
    | nil=>rfl
    | cons q qs=>rw [uH,decide_eq_false (show ¬ p=42 by omega)];rfl
theorem aJf (b:Bool) (ps:List Int) (U:∀ p∈ps,p≠-1):(List.range ps.length).all (cAt b ps)=(ps.all (okP b)&&(!b || !iM ps)):=by
 rw [Bool.eq_iff_iff,Bool.and_eq_true,List.all_eq_true,List.all_eq_true];have J:∀ i,i<ps.length->ps[i]?.getD 0∈ps:=fun i G=>by rw [List.getElem?_eq_getElem G];simp
 constructor
 ·intro h;refine ⟨fun p X=>?_,?_⟩
  ·obtain ⟨i,G,rfl⟩:=List.getElem_of_mem X;have y:=h i (by simpa using G);have Y:=U _ X;unfold cAt at y;rw [List.getElem?_eq_getElem G,Bool.and_eq_true] at y;have A:=y.1;unfold okP;simp only [Option.getD_some] at A;rw [decide_eq_false Y];generalize lnE ps[i]=L at *;generalize decide (ps[i]=10)=D at *
   revert A
   cases L<;>cases D<;>cases b<;>decide
  ·cases b with
   | false=>rfl
   | true=>
     cases Z:iM ps with
     | false=>rfl
     | true=>
       obtain ⟨i,y,A,M⟩:=(aHG ps).1 Z;have N:=h (i+1) (by simpa using y);unfold cAt at N;rw [Nat.add_sub_cancel,A,M] at N;simp at N
 ·rintro ⟨y,A⟩ i G;have S:i<ps.length:=(by simpa using G);have M:=y _ (J i S);unfold cAt;rw [Bool.and_eq_true];constructor
  ·unfold okP at M;generalize lnE (ps[i]?.getD 0)=L at *;generalize decide (ps[i]?.getD 0=10)=D at *;generalize decide (ps[i]?.getD 0 = -1)=E at *
   revert M
   cases L<;>cases D<;>cases E<;>cases b<;>decide
  ·cases b with
   | false=>rfl
   | true=>
     rw [Bool.true_and,Bool.not_eq_true'];apply eq_false_of_ne_true;intro O;simp only [Bool.and_eq_true,decide_eq_true_eq] at O;have:iM ps=true:=(aHG ps).2 ⟨i - 1,by omega,O.2.2,by rw [show i - 1+1=i by omega];exact O.2.1⟩;rw [this] at A;simp at A
theorem aIE (c:Cm) (Z:Bys c.t):fO c=bE c:=by
 unfold fO bE
 by_cases h:∃ x∈jZ c.t,x.2 = -1
 ·obtain ⟨x,E,M⟩:=h;obtain ⟨q,r,N⟩:=List.append_of_mem E;have D:eS c.t=([],2,x.1):=aBj (q:=q) (x:=x) ⟨r,by rw [N];simp⟩ M
  have X:(jZ c.t).all (fun x=>okP c.b x.2)=false:=by
   rw [List.all_eq_false];exact ⟨x,E,by unfold okP;rw [M];simp⟩
  rw [X,D];rfl
 ·have G:∀ x∈jZ c.t,x.2≠-1:=fun x E e=>h ⟨x,E,e⟩;have D:=aBl G;have O:(eS c.t).2.1=0:=(by rw [D]);have y:=tM Z O
  have A:((jZ c.t).map (·.2)).all bW=true:=by
   rw [D] at y;apply Classical.byContradiction;intro S;unfold aB1 at y;rw [if_neg S] at y;have Y:=congrArg Prod.snd y;simp at Y
  have J:aP ((jZ c.t).map (·.2))=c.t:=by
   rw [D] at y;unfold aB1 at y;rw [if_pos A] at y;exact (Prod.mk.inj y).1
  rw [D];simp only [decide_true,Bool.true_and];rw [aJf c.b _ (fun p U=>by obtain ⟨x,E,rfl⟩:=List.mem_map.1 U;exact G x E)];rw [<- aHY _ A,J,List.all_map];rfl
theorem aCb (A:List Cm) (h:xC A):A.all fO=A.all bE:=by
 rw [Bool.eq_iff_iff,List.all_eq_true,List.all_eq_true];exact ⟨fun a x y=>by rw [<- aIE x (h x y).2];exact a x y,fun a x y=>by rw [aIE x (h x y).2];exact a x y⟩
theorem aFt (n:Nod) (h:xJ n):fB fO nL n ↔ fB bE dE n:=by
 unfold fB;rw [aCb _ h.l.2,aCb _ h.t.2,aKZ]
theorem aA3 (n:Nat) (r:Option (List Nod)) (h:∀ R,r=some R->R.length<=n):cW n r=(n:Int) ↔ r=some []:=by
 cases r with
 | none=>simp only [cW];constructor<;>intro h<;>first | (exfalso;omega) | cases h
 | some R=>
   have y:=h R rfl;simp only [cW,Option.some.injEq];constructor
   ·intro h;exact List.eq_nil_of_length_eq_zero (by omega)
   ·rintro rfl;simp
theorem aA9 (t:Tre) (G:aA6 t):lG t=cC t:=by
 have E:∀ R,gR t.N.length 201 false t.N=some R->R.length<=t.N.length:=fun R O=>by
  obtain ⟨i,U,rfl⟩:=tF t.N.length 201 false t.N (Nat.le_refl _) 0 R (by simpa using O);simp
 have hv:=aEc bE dE t.N t.tail
 have M:cC t=true ↔ t.N.length<=4000/\∃ s x,aE (dQ bE dE) 201 false (t.N,(4000,100000))=some ([],s)/\lU bE t.tail s=some x:=by
  unfold cC;rw [Bool.and_eq_true,decide_eq_true_eq];refine and_congr Iff.rfl ?_;cases S:aE (dQ bE dE) 201 false (t.N,(4000,100000)) with
  | none=>simp
  | some y=>
    obtain ⟨R,s⟩:=y;cases R with
    | cons n R=>simp
    | nil=>
      simp only [Option.isSome_iff_exists,Option.some.injEq,Prod.mk.injEq,true_and];constructor
      ·rintro ⟨x,J⟩;exact ⟨s,x,rfl,J⟩
      ·rintro ⟨s',x,rfl,J⟩;exact ⟨x,J⟩
 have D:t.N.all aS=true ↔ ∀ n∈t.N,fB bE dE n:=by
  rw [List.all_eq_true];exact ⟨fun h n A=>(aFt n (G.n n A).1).1 ((qL n).1 (h n A)),fun h n A=>(qL n).2 ((aFt n (G.n n A).1).2 (h n A))⟩
 rw [Bool.eq_iff_iff,M,hv];unfold lG;simp only [Bool.and_eq_true,decide_eq_true_eq];rw [D,aCb _ G.t.2,aA3 _ _ E];constructor
 ·rintro ⟨a,b,⟨c,d⟩,e,f,g⟩;exact ⟨b,c,d,e,f,g⟩
 ·rintro ⟨b,c,d,e,f,g⟩;refine ⟨?_,b,⟨c,d⟩,e,f,g⟩;cases A:t.N with
  | nil=>rw [A] at g;simp [gR] at g
  | cons n R=>simp
theorem aFi:∀ h,(wC h:Int)=4*bQ h+30*h.length
 | []=>by simp [wC,bQ]
 | c::h=>by have:=aFi h;simp only [wC,bQ,List.length_cons];push_cast;omega
theorem aHj:∀ y,(wNs y:Int)<=100*y.length+6*eY y+30*fR y
 | []=>by simp [wNs,eY,fR]
 | n::y=>by
   have h:=aHj y;have E:=aFi n.L;have G:=aFi n.tail;have D:=bJ n.L;have A:=bJ n.tail;simp only [wNs,wN,eY,fR,nr,nc,List.length_cons]
   push_cast
   omega
structure VF (t:Tre):Prop where
 d:pM t
 wt:wC t.tail<=2000000
 w:wNs t.N+wC t.tail<=3000000
 wk:aE bC 201 false (t.N,())=some ([],())
 tl:t.tail.all fO=true
 tb:xC t.tail
theorem oV (t:Tre) (D:aA6 t) (h:cC t=true):VF t:=by
 rw [<- aA9 t D] at h;unfold lG at h;simp only [Bool.and_eq_true,decide_eq_true_eq] at h;obtain ⟨h1,O,⟨Z,X⟩,M,G,E⟩:=h
 have A:∀ R,gR t.N.length 201 false t.N=some R->R.length<=t.N.length:=fun R S=>by
  obtain ⟨i,hi,rfl⟩:=tF t.N.length 201 false t.N (Nat.le_refl _) 0 R (by simpa using S);simp
 rw [aA3 _ _ A] at E;have J:=qD t.N.length 201 false t.N (Nat.le_refl _);rw [E] at J;have a1:=hZ t.N;have a2:=gT t.N;have a3:=bJ t.tail;have Y:=aFi t.tail;have U:=aHj t.N;rw [List.all_eq_true] at G;exact ⟨⟨O,fun p y=>(qL p).1 (G p y),fun p y=>(D.n p y).1,fun p y=>(D.n p y).2,by omega⟩,by omega,by omega,J.symm,M,D.t.2⟩
def ftR (vv:Bool) (width ind:Int) (t:Tre):List Int × Int:=if vv=true/\(0<=width/\width<=65535)/\0<=ind/\ind<=16 then (if dU (dT ind t)=true then ([],4) else (qU width ind t,0)) else ([],1)
theorem aEC {width ind:Int} {t:Tre} (h:VF t) (J:0<=ind) (D:ind<=16) (y:0<=width) (A:width<=65535) (E:dU (dT ind t)=false):(∃ met,jQ (dT ind t) width=some (qU width ind t,met))/\Doc (dT ind t)/\(qU width ind t).length<=560140000:=
 aJm J D y A E h.d.nd h.d.ok h.tl (fun c G=>(h.tb c G).2) h.wk
end Go.Proofs.YtmfehflibkokbaaGreatDoor
namespace Go.Proofs.YtmfehflibkokbaaGreatDoor
open Go.Proofs.Tryz
def lnN (n:Nod):Nat:=if 0<n.C then n.C.toNat+1 else 0
def lnS:List Nod->Nat
 | []=>0
 | n::R=>lnN n+lnS R
theorem aKx (a b:List Nod):lnS (a++b)=lnS a+lnS b:=by
 induction a with
 | nil=>simp [lnS]
 | cons p a ih=>simp only [List.cons_append,lnS,ih];omega
def Nbr (n:Nod):Prop:=n.L=[]/\n.tail=[]
theorem aK8 {s:List Int} (h:Vt s) (A:s≠[]):1<=aI s:=by
 obtain ⟨q,y,rfl⟩:=h;rw [iR y];cases q with
 | nil=>exact absurd rfl A
 | cons p q=>simp only [List.length_cons];omega
theorem aFH (ind:Int):(bR ind).count 10=1:=by
 unfold bR;rw [List.count_cons_self,List.count_eq_zero.2 (aKB _)]
theorem aLp {n:Nod} (h:OkL (nG n)):(pS n).count 10=0:=by
 rw [List.count_eq_zero];unfold pS;unfold nG at h
 split
 ·rename_i hm
  rw [if_pos hm] at h;have h:OkT (bT (fS n.key++[58,32])):=h _ (by simp);exact (h rfl).2
 ·simp
theorem aLR (k:Int):([jY k]:List Int).count 10=0:=List.count_eq_zero.2 ((vJ k) rfl).2
theorem aLO (k:Int):([kW k]:List Int).count 10=0:=List.count_eq_zero.2 ((aBM k) rfl).2
theorem aHi {ind:Int} {d:Nat} {m:Bool} {k:Nat} {R y:List Nod} (A:aO (aE bC d m) k (R,())=some (y,())) (G:∀ n∈R,n.k<5->n.C=0):bF (aJ ind d) k R=y:=by
 have D:=lX (ind:=ind) (fun R y h E=>oJ ind d m R y h E) k R y A G k (Nat.le_refl _);rw [A] at D;simpa using D.symm
theorem aHV {ind:Int} (hi:0<=ind):∀ (d:Nat) (m:Bool) (R R2:List Nod),aE bC d m (R,())=some (R2,())->(∀ n∈R,n.k<5->n.C=0)->(∀ n∈R,NdX n)->(∀ n∈R,0<=n.C)->(∀ n∈R,Nbr n)->
  ∀ (level:Int) (out:List Int) (b:Int),0<=level->Cu out->0<=b->∃ Q,R=Q++R2/\(LX 0 (dZ ind d R) level out b).count 10=lnS Q
 | 0,m,R,R2,h,_,_,_,_,_,_,_,_,_,_=>by simp [aE] at h
 | d+1,m,[],R2,h,_,_,_,_,_,_,_,_,_,_=>by simp [aE] at h
 | d+1,m,n::R,R2,h,hn,hx,hc,hb,level,out,b,hlv,hcu,hb0=>by
   obtain ⟨_,_,N⟩:=nW h;have J:∀ p∈R,p.k<5->p.C=0:=fun p E=>hn p (by simp [E]);have G:∀ p∈R,NdX p:=fun p E=>hx p (by simp [E]);have b0:∀ p∈R,0<=p.C:=fun p E=>hc p (by simp [E]);have X:∀ p∈R,Nbr p:=fun p E=>hb p (by simp [E]);have Z:=hx n (by simp);have b2:=hc n (by simp);obtain ⟨b8,S⟩:=hb n (by simp)
   by_cases U:n.k<5
   ·have M:=hn n (by simp) U;rw [M] at N;simp only [Int.toNat_zero,aO,Option.some.injEq,Prod.mk.injEq,and_true] at N;refine ⟨[n],by rw [N];rfl,?_⟩;simp only [dZ,if_pos U,pE];rw [List.count_eq_zero.2 (Z.scal rfl).2];simp [lnS,lnN,M]
   ·by_cases M:n.C=0
    ·rw [M] at N;simp only [Int.toNat_zero,aO,Option.some.injEq,Prod.mk.injEq,and_true] at N;refine ⟨[n],by rw [N];rfl,?_⟩;simp only [dZ,if_neg U,pQ,if_pos M,if_pos S,pE];rw [List.count_eq_zero.2 (aFg n.k rfl).2];simp [lnS,lnN,M]
    ·have hV:=vG hi (d+1) m _ _ h hn hx
     have hf:∀ s,aM (dZ ind (d+1) (n::R)) []=some s->¬ lJ out+aI s+b<=0:=fun s hs=>by
      have h1:0<=lJ out:=aHK hcu;have hv:=(pJ _ _ hV hs).1;simp only [dZ,if_neg U,pQ,if_neg M,aM] at hs;rw [aAY,if_pos S] at hs;obtain ⟨o,_,rfl⟩:=Option.map_eq_some_iff.1 hs;have h2:=aK8 hv (by simp);omega
     have a7:=aF7 (width:=0) (b:=b) hi hlv hcu b2 h J G Z U (fun e=>M e.1) hf
     have b3:∀ j,j<=n.C.toNat->∃ Q,R=Q++bF (aJ ind d) j R/\(xI 0 (dZ ind d) (aJ ind d) (level+ind) (out++[jY n.k]) R j).count 10=(out++[jY n.k]).count 10+j+lnS Q:=by
      intro j
      induction j with
      | zero=>intro _;exact ⟨[],rfl,by simp [xI,lnS]⟩
      | succ j ih=>
        intro hj;obtain ⟨Q,hQ,A⟩:=ih (by omega);obtain ⟨h1,Q',a9⟩:=nY (ind:=ind) N J (show j<_ by omega);obtain ⟨p,R',O⟩:=mV h1;have y:∀ q∈bF (aJ ind d) j R,q∈R:=fun q A=>by rw [a9];exact List.mem_append_right _ A
        have E:=y p (by rw [O];simp)
        obtain ⟨Q2,b1,Y⟩:=aHV hi d _ _ _ h1 (fun q A=>J q (y q A)) (fun q A=>G q (y q A)) (fun q A=>b0 q (y q A)) (fun q A=>X q (y q A)) (level+ind)
         (xI 0 (dZ ind d) (aJ ind d) (level+ind) (out++[jY n.k]) R j++bR (level+ind)++dO p.L (level+ind)++pS p) 1 (by omega) (aJV _ _ _ (G p E).key).1 (by omega)
        refine ⟨Q++Q2,by rw [List.append_assoc,<- b1];exact hQ,?_⟩;rw [aGK O];rw [O] at Y;rw [List.count_append,List.count_append,Y];simp only [List.count_append,A,aFH,aLp (G p E).key,(X p E).1,dO,List.flatMap_nil,List.count_nil,aKx];have:([44]:List Int).count 10=0:=by decide
        rw [this];omega
     obtain ⟨Q,hQ,A⟩:=b3 _ (Nat.le_refl _);rw [aHi N J] at hQ;refine ⟨n::Q,by rw [hQ];rfl,?_⟩;have D:=congrArg (List.count 10) a7;unfold BRK at D;simp only [List.count_append,aFH,aLO,aLR,S,vP,List.flatMap_nil,List.count_nil] at D A;rw [A] at D;simp only [lnS,lnN,if_pos (show 0<n.C by omega)];omega
theorem aDI {ind:Int} : ∀ (d:Nat) (m:Bool) (R M:List Nod),aE bC d m (R,())=some (M,())->(∀ n∈R,n.k<5->n.C=0)->(∀ n∈R,Nbr n)->∃ s,aM (dZ ind d R) []=some s
 | 0,m,R,M,h,_,_=>by simp [aE] at h
 | d+1,m,[],M,h,_,_=>by simp [aE] at h
 | d+1,m,n::R,M,h,hn,hb=>by
   obtain ⟨_,_,hl⟩:=nW h;have J:∀ p∈R,p.k<5->p.C=0:=fun p U=>hn p (by simp [U]);have G:∀ p∈R,Nbr p:=fun p U=>hb p (by simp [U]);obtain ⟨a5,E⟩:=hb n (by simp)
   by_cases O:n.k<5
   ·simp only [dZ,if_pos O];exact ⟨_,kK _⟩
   ·by_cases X:n.C=0
    ·simp only [dZ,if_neg O,pQ,if_pos X,if_pos E];exact ⟨_,kK _⟩
    ·simp only [dZ,if_neg O,pQ,if_neg X,aM];rw [aAY,if_pos E]
     have:∀ j,j<=n.C.toNat->∃ o,aCi (dZ ind d) (aJ ind d) R j=some o:=by
      intro j
      induction j with
      | zero=>intro _;exact ⟨[],rfl⟩
      | succ j ih=>
        intro hj;obtain ⟨o,N⟩:=ih (by omega);obtain ⟨Y,Q',S⟩:=nY (ind:=ind) hl J (show j<_ by omega);obtain ⟨p,R',A⟩:=mV Y;have y:∀ q∈bF (aJ ind d) j R,q∈R:=fun q D=>by rw [S];exact List.mem_append_right _ D
        obtain ⟨s,Z⟩:=aDI d _ _ _ Y (fun q D=>J q (y q D)) (fun q D=>G q (y q D));simp only [aCi,N,Option.bind_some,A];rw [A] at Z;rw [if_pos (G p (y p (by rw [A];simp))).1,Z];exact ⟨_,rfl⟩
     obtain ⟨o,N⟩:=this _ (Nat.le_refl _);rw [N];exact ⟨_,rfl⟩
structure zE (t:Tre):Prop where
 n:∀ p∈t.N,Nbr p
 t:t.tail=[]
section
variable {t:Tre} {ind:Int}
theorem VF.C (h:VF t):∀ p∈t.N,p.k<5->p.C=0:=fun p y A=>by
 obtain ⟨_,_,_,_,_,_,_,_,_,h,_⟩:=h.d.nd p y;exact (h A).1
theorem VF.pos (h:VF t):∀ p∈t.N,0<=p.C:=fun p y=>by
 obtain ⟨_,_,_,_,_,_,_,_,_,_,h⟩:=h.d.nd p y;exact h
theorem VF.x (h:VF t):∀ p∈t.N,NdX p:=fun p y=>aHU (h.d.nd p y) (h.d.ok p y)
theorem aDd {width:Int} (h:VF t) (A:zE t):qU width ind t=LX width (dZ ind 201 t.N) 0 [] 0++[10]:=by
 obtain ⟨n,R,y⟩:=mV h.wk;have:=A.n n (by rw [y];simp);unfold qU;rw [y,A.t];simp [this.1,dO]
theorem aLw (D:0<=ind) (h:VF t) (y:zE t):(qU 0 ind t).count 10=lnS t.N+1:=by
 rw [aDd h y,List.count_append];obtain ⟨Q,E,A⟩:=aHV D 201 false _ _ h.wk h.C h.x h.pos y.n 0 [] 0 (Int.le_refl 0) mO (Int.le_refl 0);rw [A,E];simp
theorem aC5 (h:VF t) (A:zE t):dT ind t=(aJ ind 201 t.N).1++[⟨4,[],0⟩,nF]:=by
 obtain ⟨n,R,y⟩:=mV h.wk;have:=A.n n (by rw [y];simp);unfold dT;rw [y,A.t];simp [this.1,bM,cV,iS,aH]
theorem aJp {s:List Int} (h:VF t) (G:zE t) (A:aM (dZ ind 201 t.N) []=some s) (O:aI s<=65535):qU 65535 ind t=s++[10]:=by
 rw [aDd h G];obtain ⟨n,R,E⟩:=mV h.wk;have S:=G.n n (by rw [E];simp);have M:lJ []=0:=(by have:=iR (q:=[]) rfl;simpa [aP,lJ,kZ] using this);rw [E] at A ⊢;congr 1
 by_cases y:n.k<5\/(n.C=0/\n.tail=[])
 ·obtain ⟨s',D,J⟩:=aKu (width:=65535) (ind:=ind) (level:=0) (b:=0) (d:=200) (R:=R) (out:=[]) y;rw [J];rw [A] at D;exact (Option.some.inj D).symm
 ·simp only [not_or] at y;exact aJO y.1 y.2 A (by rw [M];omega)
theorem aJk (hi:0<=ind) (S:ind<=16) (h:VF t) (hb:zE t) (M:dU (dT ind t)=false) :
  Doc (aJ ind 201 t.N).1/\eX (aJ ind 201 t.N).1=true/\bd (aJ ind 201 t.N).1 []=some [dZ ind 201 t.N]:=by
 have Z:=vG hi 201 false _ _ h.wk h.C h.x;have hB:=aEA ind 201 false _ _ h.wk h.C;have A:=aEI hi S 201 (Nat.le_refl _) t.N;have y:=hB [];rw [aC5 h hb] at M;generalize (aJ ind 201 t.N).1=ps at *;generalize dZ ind 201 t.N=T at *;have X:=(aIz _ _ _ y (fun U E=>by simp at E;subst E;exact yE _ Z A.1)).1;have Y:=(aIV _ _ _ y (fun U E=>by simp at E;subst E;exact zJ _ Z A.1)).1;simp only [dU,Bool.or_eq_false_iff,decide_eq_false_iff_not] at M;have e1:=xN (ps++[⟨4,[],0⟩,nF]);have e2:=xN ps;rw [iI] at e1;simp only [mes,nF,List.length_append,List.length_cons,List.length_nil] at e1 M;have G:ps≠[]:=fun e=>by rw [e] at y;simp [bd] at y
 have D:1<=ps.length:=List.length_pos_iff.2 G
 have J:(gZ ps).length=ps.length:=by
  rcases vM _ G with ⟨h,_⟩ | ⟨_,h⟩
  ·exact h
  ·exact absurd y (h T)
 have O:jH T<=4000:=(by have:=A.2;omega);refine ⟨⟨by omega,fun p hp=>by have:=aB2 _ p hp;omega,by omega,Y⟩,?_,y⟩;simp only [eX,Bool.and_eq_true,decide_eq_true_eq,y];exact ⟨⟨⟨⟨⟨D,by omega⟩,List.all_eq_true.2 X⟩,by omega⟩,J⟩,O⟩
end
end Go.Proofs.YtmfehflibkokbaaGreatDoor
namespace Go.Proofs.YtmfehflibkokbaaGreatDoor
open Go.Proofs.Tryz
open Go.RowKit
attribute [-go_sem] Builtin.append_
theorem aJ9 {F:Nat} {v:Value} {zs:List Int} (n:Nat) (h1:10<=n) (h2:n<=300) (Γ:Gm) (w:World) (hs:StD F v zs Γ w) :
  Calls prog 30 #[.int .i64 (n:Int)] w fun e w'=>Tds F v zs Γ w e w':=by
 have D0:Dn F v zs Γ w (upd Γ w.heap.size (.tr,1,0)) (w.alloc (Obj.cells #[.slice none 0 0,.slice none 0 0] 26)):=(Dn.refl hs).new .tr 1 _ rfl (aFV (HW.nil _ _ _) (HW.nil _ _ _));have b3:Γ (w.heap.size+1)=none:=hs.wt.gone (by omega)
 have D1:Dn F v zs Γ w (upd (upd Γ w.heap.size (.tr,1,0)) (w.heap.size+1) (.ts 0,1,0)) ((w.alloc (Obj.cells #[.slice none 0 0,.slice none 0 0] 26)).alloc (Obj.cells #[.slice none 0 0,.slice none 0 0] 26)):=by
  have h:=D0.new (.ts 0) 1 #[.slice none 0 0,.slice none 0 0] rfl (aA2 (.inl ⟨rfl,rfl⟩) (HW.nil _ _ _));simp only [World.size_alloc] at h;exact h
 have hR:upd (upd Γ w.heap.size (.tr,1,0)) (w.heap.size+1) (.ts 0,1,0) w.heap.size=some (.tr,1,0):=by
  unfold upd;rw [if_neg (by omega),if_pos rfl]
 have hT:=bG (upd Γ w.heap.size (.tr,1,0)) (w.heap.size+1) (.ts 0,1,0);generalize upd (upd Γ w.heap.size (.tr,1,0)) (w.heap.size+1) (.ts 0,1,0)=Γ1 at *;obtain ⟨W1,Y⟩:∃ W1,W1=(w.alloc (Obj.cells #[.slice none 0 0,.slice none 0 0] 26)).alloc (Obj.cells #[.slice none 0 0,.slice none 0 0] 26):=⟨_,rfl⟩;have b2:Hid (Dn F v zs Γ w Γ1 W1):=(by unfold Hid;rw [Y];exact D1);have b7:=aB b3;clear D0 D1 hs b3
 go_enter func30,ntmps30
 go_wp2;rw [<- Y];clear Y;generalize w.heap.size=R at *;have c2:R+1≠R:=by omega
 go_loopw [4] (fun i W=>∃ (j:Nat) (Γ5:Gm),j<=n/\i=.int .i64 j/\Γ5 R=some (.tr,1,0)/\Γ5 (R+1)=some (.ts j,1,0)/\Dn F v zs Γ w Γ5 W) (fun i _=>n - (intOf i).toNat)
 case atStart=>exact ⟨0,Γ1,by omega,rfl,hR,hT,b2.out⟩
 case round=>
  obtain ⟨j,Γ5,hj,rfl,y,D,A⟩:=hrel;obtain ⟨p0,d0,p1,m1,d1,t0,t1,M,a9,i3,i0⟩:=A.st.wt.trees D;clear b2 hR hT
  by_cases i1:(j:Int)<(n:Int)
  ·have n8:Nd8 64 Γ5 (.int .i64 5) (.slice none 0 0) (.bool false) (.slice none 0 0) (.slice none 0 0) (.slice none 0 0) (.int .i64 1) (.slice none 0 0):=⟨⟨5,rfl,by omega,by omega⟩,HW.nil _ _ _,⟨false,rfl⟩,HW.nil _ _ _,HW.nil _ _ _,HW.nil _ _ _,⟨1,rfl,by omega,by omega⟩,HW.nil _ _ _⟩
   have b0:∀ i u,(#[.int .i64 5,.slice none 0 0,.bool false,.slice none 0 0,.slice none 0 0,.slice none 0 0,.int .i64 1,.slice none 0 0]:Array Value)[i]?=some u->Hc 64 Γ5 .nd i u:=fun i u hi=>by
    have hl:i<8:=(Array.getElem?_eq_some_iff.1 hi).1;obtain ⟨u',e,h⟩:=n8.hc i hl;rw [hi] at e;cases e
    rwa [show i%HK.nd.sz=i from Nat.mod_eq_of_lt hl] at h
   obtain ⟨v9,w9,Γ9,E,O,S,D9⟩:=A.app (k:=.nd) M #[.int .i64 5,.slice none 0 0,.bool false,.slice none 0 0,.slice none 0 0,.slice none 0 0,.int .i64 1,.slice none 0 0] rfl b0 (by omega);have U:=S.full D;have a5:=S.full y;obtain ⟨_,_,_,_,_,d2,_,_,_,c4,_⟩:=D9.st.wt.trees U;have b4:=aB (D9.re U b7.out O);have Z:upd Γ9 (R+1) (.ts (j+1),1,0) R=some (.tr,1,0):=(by unfold upd;rw [if_neg (Ne.symm c2)];exact a5);obtain ⟨pa,pc,b8,_⟩:=O.sl;subst b8;replace E:(Builtin.append_ #[23,23] 23 #[.slice p0 j d0,.slice (some ⟨wr.heap.size,0,none⟩) 1 1]).run prog (wr.alloc (Obj.cells #[.int .i64 5,.slice none 0 0,.bool false,.slice none 0 0,.slice none 0 0,.slice none 0 0,.int .i64 1,.slice none 0 0] 35))=.ok (.slice pa (j+1) pc) w9:=E;clear D9 A M a9 n8 b0 O S U a5 D y;go_wp2
   go_roundw
   case rel=>exact ⟨j+1,upd Γ9 (R+1) (.ts (j+1),1,0),by omega,by go_num,Z,bG _ _ _,b4.out⟩
   case measure=>simp [intOf];omega
  ·have c0:j=n:=(by omega);subst c0;rcases id M with ⟨_,h0⟩ | ⟨bx,mx,sx,c3,hΓx,h3,g2⟩
   ·omega
   obtain ⟨y0,u1,h7,d3,y2,u3,h5,c8,u4,g9,c7,u5,h6,d4,y6,u7,h8,d8,⟨_,_,_,_,_,_,i6,_⟩,_,a6⟩:=A.st.wt.eight hΓx (i:=j - 1) (by omega);have g5:=(a6 ((j - 1)*8+6)).resolve_right (by omega);have D6:=A.set hΓx ((j - 1)*8+6) (u:=.int .i64 0) (by rw [show ((j - 1)*8+6)%HK.nd.sz=6 by simp only [HK.sz];omega];exact ⟨0,rfl,by omega,by omega⟩);obtain ⟨_,_,_,_,_,_,r0,r1,h9,g4⟩:=D6.st.wt.tree y;obtain ⟨N,X,a4,a8,b1,g7,g8,J,G,f7,f4⟩:=D6.st.wt.trees D;have D8:=D6.set y 0 (u:=.slice N j X) (⟨j,by omega,J⟩:HW Γ5 .nd (64*50) (.slice N j X));have c5:=aB (D8.set y 1 (u:=.slice a4 a8 b1) G);have a7:=aB J;have b5:=aB G;cases c3;have g3:((j:Int) - 1).toNat=j - 1:=(by omega);clear D6 D8 A M a9 J G D y a6;go_wp2;refine bodyPost_ret (v:=.agg #[.slice N j X,.slice a4 a8 b1]) (by simp [results,Tryz.results30,go_sem,r0,r1]) rfl ?_;exact ⟨_,_,rfl,Γ5,j,a7.out,⟨by omega,by omega⟩,b5.out,c5.out⟩
end Go.Proofs.YtmfehflibkokbaaGreatDoor
