import Derived.Shelf.Strings.Split
import Derived.Test.YtckcaefnokeodaaGreatDoorMBP
set_option maxHeartbeats 16000000
set_option maxRecDepth 100000
namespace Go.Proofs.YtckcaefnokeodaaGreatDoor
open Go.Proofs.Tryz List World
section
open Go.RowKit
theorem aJd {A:List (List Pc)} {p:Pc} (h:p∈A.flatten) (G:∀ D∈A,∀ q∈D,q.t.length<=1000000000):p.t.length<=1000000000:=by
 obtain ⟨D,E,F⟩:=mem_flatten.1 h;exact G D E p F
theorem PaR.texts {w} {F:Nat->Prop} {v A} (h:PaR w F v A):∀ H∈A,∀ q∈H,q.t.length<=1000000000:=by
 intro H D;obtain ⟨j,E,rfl⟩:=getElem_of_mem D;obtain ⟨a,M,e,Z,h2,O⟩:=h;obtain ⟨b,S,Y,hb,N,I⟩:=O (fun e=>by rw [e] at E;simp at E);obtain ⟨f,G,_,J⟩:=I j A[j] (by simp [E]);exact J.2.1
theorem aIS {D:List (List Pc)} {p:Pc} (h:p∈jM D) (G:∀ E∈D,∀ q∈E,q.t.length<=1000000000):p.t.length<=1000000000:=by
 unfold jM at h;obtain ⟨E,F,A⟩:=mem_flatMap.1 h;rcases mem_append.1 A with A | A
 .exact G E F p A
 .simp [wV] at A;subst A;simp
theorem mU (J n:Int) (v A) (F:Nat->Prop) (w) (N:PaR w F v A) (Z:∀ k,F k->k<w.heap.size) (hl:A.length<=1000000000) :
  Calls prog 101 #[.agg #[.int .i64 J,.slice none 0 0,.int .i64 n],v] w fun e O=>∃ f D,e=.returned (.func (.func f) #[] D)/\bU O (fun k=>F k\/(w.heap.size<=k/\k<O.heap.size)) f D (A.flatten++[⟨J,[],n⟩])/\w.grownBy O none:=by
 obtain ⟨a,G,hv,_,_⟩:=N.sl;subst hv
 go_enter func101,ntmps101
 go_wp2;go_ret;have g:=aA (grownBy_alloc w (Obj.cells #[.int .i64 J,.slice none 0 0,.int .i64 n] 88) none) (grownBy_alloc _ (Obj.cells #[.slice a A.length G] 111) _);refine ⟨_,_,rfl,⟨fun args W=>by kernel_rfl,fun p h=>?_,fun H bd W s E hd S hH=>?_⟩,g⟩
 .rcases mem_append.1 h with h | h
  .exact aJd h N.texts
  .simp at h;subst h;simp
 .have I:=E w.heap.size (.inr ⟨Nat.le_refl _,by simp;omega⟩);have Y:=E (w.heap.size+1) (.inr ⟨by omega,by simp⟩);have M:PaR W F (.slice a A.length G) A:=N.at (fun k h=>h) (by have:=Y.1;omega) (fun k h=>(E k (.inl h)).2.2.trans (g.block k (Z k h) (by simp)))
  exact aLs H bd (w.heap.size+1) w.heap.size s F J n _ A W (fun k h=>⟨(E k (.inl h)).1,(E k (.inl h)).2.1⟩) ⟨I.1,I.2.1⟩ hl
   (cM (by simp [go_sem]) Y.2.2) (cM (by simp [go_sem]) I.2.2) (cM (by simp [go_sem]) I.2.2) (cM (by simp [go_sem]) I.2.2) M hd S hH
theorem aKL (w) (F:Nat->Prop):PaR w F (.slice none 0 0) []:=⟨none,0,rfl,Nat.le_refl _,by unfold maxLen;omega,fun h=>absurd rfl h⟩
theorem eE (D:Int) (w) :
  Calls prog 60 #[.int .i64 D] w fun e E=>∃ f A,e=.returned (.func (.func f) #[] A)/\bU E (fun k=>w.heap.size<=k/\k<E.heap.size) f A (aM D)/\w.grownBy E none:=by
 have G:=aB (mU D 0 (.slice none 0 0) [] (fun _=>False) w (aKL _ _) (fun _ h=>h.elim) (by simp))
 go_enter func60,ntmps60
 go_wp2_with fail
 refine G.out.mono ?_;rintro e I ⟨f,A,rfl,F,g⟩;have H:=aB F;clear G F;go_wp2;go_ret;exact ⟨f,A,rfl,H.out.at (fun k h=>h.resolve_left (fun h=>h)) (fun _ _=>rfl),g⟩
theorem sN (v A) (F:Nat->Prop) (w) (E:PaR w F v A) (hF:∀ k,F k->k<w.heap.size) (hl:A.length<=1000000000) :
  Calls prog 61 #[v] w fun e S=>∃ f D,e=.returned (.func (.func f) #[] D)/\bU S (fun k=>F k\/(w.heap.size<=k/\k<S.heap.size)) f D (eR A)/\w.grownBy S none:=by
 obtain ⟨a,I,hv,_,_⟩:=E.sl;subst hv;rcases A with _ | ⟨J,A⟩
 .have HL:Hid (∀ W:World,_):=fun W=>eE 0 W;simp only [length_nil];have gA:=grownBy_alloc w (Obj.cells #[.slice a 0 I] 111) none;have GA:=aB gA;clear E
  go_enter func61,ntmps61
  go_wp2_with fail
  refine (HL.out _).mono ?_;rintro e w1 ⟨f,D,rfl,E,g⟩;have HP:=aB E;have G:=aB (aA GA.out g);clear HL E g;go_wp2;go_ret;exact ⟨f,D,rfl,HP.out.at (fun k h=>.inr ⟨by have:=h.1;simp at this;omega,h.2⟩) (fun _ _=>rfl),G.out⟩
 .have O:(J::A).length=A.length+1:=rfl;rw [O] at *
  go_enter func61,ntmps61
  have a3:(((A.length:Int)+1)==0)=false:=(by simp;omega);go_wp2;go_ret;have g:=grownBy_alloc w (Obj.cells #[.slice a (A.length+1) I] 111) none;refine ⟨_,_,rfl,⟨fun args W=>by kernel_rfl,fun p h=>?_,fun H bd W s M hd Y hH=>?_⟩,g⟩
  .rcases mem_append.1 h with h | h
   .exact E.texts J (by simp) p h
   .exact aIS h (fun ds Z=>E.texts ds (by simp [Z]))
  .have N:=M w.heap.size (.inr ⟨Nat.le_refl _,by simp⟩);have a0:PaR W F (.slice a (A.length+1) I) (J::A):=E.at (fun k h=>h) (by have:=N.1;omega) (fun k h=>(M k (.inl h)).2.2.trans (g.block k (hF k h) (by simp)));exact aMf H bd w.heap.size s F _ J A W (fun k h=>⟨(M k (.inl h)).1,(M k (.inl h)).2.1⟩) ⟨N.1,N.2.1⟩ (Nat.le_trans (Nat.le_succ _) hl) (cM (by simp [go_sem]) N.2.2) a0 hd Y hH
def PoL (B:Nat) (w:World) (v:Value) (dss:List (List Pc)):Prop:=
 ∃ (F:Nat->Prop) (xs:List Value),w.ownsRow B 57 1 v dss.length xs/\(∀ k,F k->B<=k/\k<w.heap.size/\v.ownBlock≠some k)/\∀ (j:Nat) (ds:List Pc),dss[j]?=some ds->∃ f caps,xs[j]?=some (.func (.func f) #[] caps)/\bU w F f caps ds
theorem PoL.nil (B w):PoL B w (.slice none 0 0) []:=⟨fun _=>False,[],⟨by simp,.inl ⟨rfl,rfl⟩⟩,fun _ h=>h.elim,fun j A h=>by simp at h⟩
theorem PoL.lt {B w v A} (h:PoL B w v A):∀ k,v.ownBlock=some k->B<=k/\k<w.heap.size:=by
 obtain ⟨F,E,D,_⟩:=h;exact fun k e=>ownsRow.lt D k e
theorem PoL.sl {B w v A} (h:PoL B w v A):∃ a D,v=.slice a A.length D:=by
 obtain ⟨F,G,E,_⟩:=h;exact aBq E
theorem PoL.K {B w w' v E} (h:PoL B w v E) (g:w.grownBy w' none):PoL B w' v E:=by
 obtain ⟨F,O,J,G,I⟩:=h;refine ⟨F,O,ownsRow.kept J g (by cases v.ownBlock<;>simp),fun k A=>⟨(G k A).1,Nat.lt_of_lt_of_le (G k A).2.1 g.size,(G k A).2.2⟩,fun j M H=>?_⟩;obtain ⟨f,D,N,S⟩:=I j M H;exact ⟨f,D,N,S.at (fun _ h=>h) (fun k A=>g.block k (G k A).2.1 (by simp))⟩
theorem PoL.row {B w J v G} {r:Nat} (h:PoL B w v G) (g:w.grownBy J (some r)) (Z:r<B):PoL B J v G:=by
 obtain ⟨F,Y,H,D,N⟩:=h;refine ⟨F,Y,ownsRow.kept H g (.inr (fun e=>by have:=(ownsRow.lt H r e).1;omega)),fun k A=>⟨(D k A).1,Nat.lt_of_lt_of_le (D k A).2.1 g.size,(D k A).2.2⟩,fun j S M=>?_⟩;obtain ⟨f,E,I,O⟩:=N j S M;exact ⟨f,E,I,O.at (fun _ h=>h) (fun k A=>g.block k (D k A).2.1 (fun e=>by have I:=(D k A).1;simp only [Option.some.injEq] at e;omega))⟩
theorem PoL.base {B} {B':Nat} {w v A} (h:PoL B w v A) (G:B'<=B):PoL B' w v A:=by
 obtain ⟨F,J,I,D,H⟩:=h;exact ⟨F,J,gP G I,fun k E=>⟨Nat.le_trans G (D k E).1,(D k E).2⟩,H⟩
theorem PoL.pa {B w v G} (h:PoL B w v G):∃ F,(∀ k,F k->B<=k/\k<w.heap.size)/\PaR w F v G:=by
 obtain ⟨F,xs,E,M,hp⟩:=h;refine ⟨fun k=>F k\/v.ownBlock=some k,fun k hk=>hk.elim (fun h=>⟨(M k h).1,(M k h).2.1⟩) (fun h=>ownsRow.lt E k h),?_⟩;rcases id E.2 with ⟨A,O⟩ | ⟨g,H,Z,A,hg,N,J,I,_⟩
 .exact ⟨none,0,by rw [A,O],by omega,by unfold maxLen;omega,fun Y=>absurd (eq_nil_of_length_eq_zero O) Y⟩
 .refine ⟨_,H,A,J,I,fun Y=>⟨g,0,rfl,.inr (by rw [A];rfl),(ownsRow.lt E g (by rw [A];rfl)).2,fun j ds S=>?_⟩⟩;obtain ⟨f,D,h1,h2⟩:=hp j ds S;have a4:=(List.getElem?_eq_some_iff.1 S).1;rw [A] at E;exact ⟨f,D,by rw [Nat.zero_add,ownsRow.cellAt E j (by omega)];exact h1,h2.at (fun _ h=>.inl h) (fun _ _=>rfl)⟩
theorem aMq:(prog.info? 57).map (fun i=>(i.zero,i.size,i.bytes))=some (some .nilFunc,1,8):=by kernel_rfl
theorem cJ (B w v u E D) (G:Nat->Prop) (hv:PoL B w v E) (hu:PaR w G u D) (hG:∀ k,G k->B<=k/\k<w.heap.size/\v.ownBlock≠some k) (hB:B<=w.heap.size) (hn:E.length+D.length<=1000000000) :
  ∃ v' Y,(Builtin.append_ #[111,111] 111 #[v,u]).run prog w=.ok v' Y/\PoL B Y v' (E++D)/\w.grownBy Y v.ownBlock:=by
 obtain ⟨i0,hi,a7,b7,b1⟩:=info_parts aMq;obtain ⟨F,xs,ho,hF,hp⟩:=id hv;obtain ⟨a,a4,rfl,d3,d0,hq⟩:=hu;cases a with
 | none=>
   have b0:D=[]:=by
    rcases D with _ | ⟨z,zs⟩
    .rfl
    .obtain ⟨b,a6,ha,_⟩:=hq (by simp);cases ha
   subst b0;exact ⟨v,w,yF B _ _ _ i0 1 underlying111 hi v _ _ ho a4,by rw [append_nil];exact hv,grownBy.refl _ _⟩
 | some ad=>
   obtain ⟨S,c8,b8,I⟩:∃ S:List Value,S.length=D.length/\(∀ (j:Nat) (M:List Pc),D[j]?=some M->∃ f A,S[j]?=some (.func (.func f) #[] A)/\bU w G f A M)/\∀ (j:Nat) (x:Value),S[j]?=some x->w.cell? (ad.add j)=some x/\x.oneCell'=true:=by
    by_cases h0:D=[]
    .subst h0;exact ⟨[],rfl,fun j M h=>by simp at h,fun j x h=>by simp at h⟩
    .obtain ⟨b,a6,ha,hb,d1,a1⟩:=hq h0;cases ha;refine ⟨(range D.length).map fun j=>(w.cell? ⟨b,a6+j,none⟩).getD default,by simp,fun j M J=>?_,fun j x hx=>?_⟩
     .obtain ⟨f,A,Z,h2⟩:=a1 j M J;have H:=(List.getElem?_eq_some_iff.1 J).1;exact ⟨f,A,by simp [H,Z],h2⟩
     .have H:j<D.length:=(by have:=(List.getElem?_eq_some_iff.1 hx).1;simpa using this);obtain ⟨f,A,Z,h2⟩:=a1 j D[j] (by simp [H]);simp only [getElem?_map,getElem?_range H,Option.map_some,Z,Option.getD_some,Option.some.injEq] at hx;subst hx;rw [Addr.add_lit];exact ⟨Z,rfl⟩
   obtain ⟨v',Y,a3,Z,h2,_,h4⟩:=run_append_own_at (P:=prog) w B 111 111 57 i0 .nilFunc 1 8 underlying111 hi a7 b7 b1 rfl (by decide) v E.length xs ho ad D.length a4 S (by omega) (fun j u J=>(I j u J).1)
    (by intro x hx;obtain ⟨j,J,rfl⟩:=getElem_of_mem hx;exact (I j _ (getElem?_eq_getElem J)).2) (by unfold maxLen;omega) (by omega) hB
   have a8:∀ x,v'.ownBlock=some x->(v.ownBlock=some x\/x=w.heap.size):=fun x e=>by
    rcases h4 with h | h
    .exact .inl (by rw [<- h];exact e)
    .rw [h] at e;cases e;exact .inr rfl
   refine ⟨v',Y,a3,⟨fun k=>F k\/G k,xs++S,by rw [length_append];exact Z,?_,fun j M J=>?_⟩,h2⟩
   .intro k hk;have O:B<=k/\k<w.heap.size/\v.ownBlock≠some k:=hk.elim (hF k) (hG k);refine ⟨O.1,Nat.lt_of_lt_of_le O.2.1 h2.size,fun e=>?_⟩;rcases a8 k e with h | h
    .exact O.2.2 h
    .have:=O.2.1;omega
   .have d2:=ho.1
    have N:∀ k,(F k\/G k)->Y.heap[k]?=w.heap[k]?:=fun k hk=>by
     have O:B<=k/\k<w.heap.size/\v.ownBlock≠some k:=hk.elim (hF k) (hG k);exact h2.block k O.2.1 (fun e=>O.2.2 e.symm)
    by_cases H:j<E.length
    .rw [getElem?_append_left H] at J;obtain ⟨f,A,k1,k2⟩:=hp j M J;exact ⟨f,A,by rw [getElem?_append_left (by omega)];exact k1,k2.at (fun _ h=>.inl h) (fun k h=>N k (.inl h))⟩
    .rw [getElem?_append_right (by omega)] at J;obtain ⟨f,A,k1,k2⟩:=b8 _ M J;refine ⟨f,A,?_,k2.at (fun _ h=>.inr h) (fun k h=>N k (.inr h))⟩;rw [getElem?_append_right (by omega),show j - xs.length=j - E.length by omega];exact k1
theorem aNq {w:World} {D f A G} (g:w.grownBy D none) (h:bU D (fun k=>w.heap.size<=k/\k<D.heap.size) f A G) :
  PaR (D.alloc (Obj.cells #[.func (.func f) #[] A] 57)) (fun k=>w.heap.size<=k/\k<(D.alloc (Obj.cells #[.func (.func f) #[] A] 57)).heap.size) (.slice (some ⟨D.heap.size,0,none⟩) 1 1) [G]:=by
 have H:=grownBy_alloc D (Obj.cells #[.func (.func f) #[] A] 57) none;refine ⟨_,1,rfl,Nat.le_refl _,by unfold maxLen;omega,fun _=>⟨D.heap.size,0,rfl,⟨g.size,by simp⟩,by simp,fun j d E=>?_⟩⟩
 match j,E with
 | 0,E=>simp at E;subst E;exact ⟨f,A,by simp [go_sem],h.at (fun k F=>⟨F.1,by simp;omega⟩) (fun k F=>H.block k F.2 (by simp))⟩
 | j+1,E=>simp at E
theorem aFR {w:World} {E f I D A J H} (g:w.grownBy E none) (h:bU E (fun k=>w.heap.size<=k/\k<E.heap.size) f D J) (N:bU E (fun k=>w.heap.size<=k/\k<E.heap.size) I A H) :
  PaR (E.alloc (Obj.cells #[.func (.func f) #[] D,.func (.func I) #[] A] 57)) (fun k=>w.heap.size<=k/\k<(E.alloc (Obj.cells #[.func (.func f) #[] D,.func (.func I) #[] A] 57)).heap.size) (.slice (some ⟨E.heap.size,0,none⟩) 2 2) [J,H]:=by
 have M:=grownBy_alloc E (Obj.cells #[.func (.func f) #[] D,.func (.func I) #[] A] 57) none;refine ⟨_,2,rfl,Nat.le_refl _,by unfold maxLen;omega,fun _=>⟨E.heap.size,0,rfl,⟨g.size,by simp⟩,by simp,fun j d F=>?_⟩⟩
 match j,F with
 | 0,F=>simp at F;subst F;exact ⟨f,D,by simp [go_sem],h.at (fun k G=>⟨G.1,by simp;omega⟩) (fun k G=>M.block k G.2 (by simp))⟩
 | 1,F=>simp at F;subst F;exact ⟨I,A,by simp [go_sem],N.at (fun k G=>⟨G.1,by simp;omega⟩) (fun k G=>M.block k G.2 (by simp))⟩
 | j+2,F=>simp at F
theorem aGI {w:World} {D f A G} (g:w.grownBy D none) (h:bU D (fun k=>w.heap.size<=k/\k<D.heap.size) f A G) :
  PoL w.heap.size (D.alloc (Obj.cells #[.func (.func f) #[] A] 57)) (.slice (some ⟨D.heap.size,0,none⟩) 1 1) [G]:=by
 have H:=grownBy_alloc D (Obj.cells #[.func (.func f) #[] A] 57) none;refine ⟨fun k=>w.heap.size<=k/\k<D.heap.size,[.func (.func f) #[] A],⟨by simp,.inr ⟨D.heap.size,1,#[.func (.func f) #[] A],rfl,g.size,by show (D.heap.push _)[D.heap.size]?=_;simp,Nat.le_refl _,by unfold maxLen;omega,by simp,by simp⟩⟩,fun k E=>⟨E.1,by have:=E.2;simp;omega,fun e=>by have I:=E.2;simp only [Value.ownBlock,Option.some.injEq] at e;omega⟩,fun j d F=>?_⟩
 match j,F with
 | 0,F=>simp at F;subst F;exact ⟨f,A,rfl,h.at (fun k E=>E) (fun k E=>H.block k E.2 (by simp))⟩
 | j+1,F=>simp at F
theorem bU.more {w:World} {F E} {B:Nat} {f A G} (h:bU F (fun k=>w.heap.size<=k/\k<F.heap.size) f A G) (H:B<=w.heap.size) (g:F.grownBy E none):bU E (fun k=>B<=k/\k<E.heap.size) f A G:=
 h.at (fun k D=>⟨Nat.le_trans H D.1,Nat.lt_of_lt_of_le D.2 g.size⟩) (fun k D=>g.block k D.2 (by simp))
end
section
open Go.RowKit Go.Shelf
def aMv:Go.Shelf.Ren:=⟨fun | 146=>141 | 221=>159 | 268=>178 | 138=>179 | 143=>180 | 195=>189 | 197=>190 | 218=>191 | 219=>192 | 260=>193 | 217=>194 | 225=>195 | 224=>171 | 267=>196 | 266=>197 | 314=>198 | n=>n,fun | 9=>9 | 31=>140 | 3=>3 | 4=>4 | 0=>0 | 105=>218 | 21=>21 | 5=>5 | 46=>230 | 119=>243 | 139=>246 | 138=>245 | 146=>237 | 51=>236 | n=>n,fun | 1=>1 | 3=>2 | 4=>3 | n=>n⟩
theorem aKx:Go.Proofs.Lays.n146 prog aMv:={
 mixed:=by kernel_rfl
 f138:=func179.trans (congrArg some (by kernel_rfl))
 f143:=func180.trans (congrArg some (by kernel_rfl))
 f146:=func141.trans (congrArg some (by kernel_rfl))
 f195:=func189.trans (congrArg some (by kernel_rfl))
 f197:=func190.trans (congrArg some (by kernel_rfl))
 f217:=func194.trans (congrArg some (by kernel_rfl))
 f218:=func191.trans (congrArg some (by kernel_rfl))
 f219:=func192.trans (congrArg some (by kernel_rfl))
 f221:=func159.trans (congrArg some (by kernel_rfl))
 f224:=func171.trans (congrArg some (by kernel_rfl))
 f225:=func195.trans (congrArg some (by kernel_rfl))
 f260:=func193.trans (congrArg some (by kernel_rfl))
 f266:=func197.trans (congrArg some (by kernel_rfl))
 f267:=func196.trans (congrArg some (by kernel_rfl))
 f268:=func178.trans (congrArg some (by kernel_rfl))
 f314:=func198.trans (congrArg some (by kernel_rfl))
 t0:=underlying0
 a0:=Tryz.isAgg0
 z0:=Tryz.sizeOf0
 v0:=Tryz.zeroValue0
 t3:=underlying3
 a3:=Tryz.isAgg3
 z3:=Tryz.sizeOf3
 v3:=Tryz.zeroValue3
 t4:=underlying4
 a4:=Tryz.isAgg4
 z4:=Tryz.sizeOf4
 v4:=Tryz.zeroValue4
 t5:=underlying5
 a5:=Tryz.isAgg5
 z5:=Tryz.sizeOf5
 v5:=Tryz.zeroValue5
 t9:=underlying9
 a9:=Tryz.isAgg9
 z9:=Tryz.sizeOf9
 v9:=Tryz.zeroValue9
 t21:=underlying21
 a21:=Tryz.isAgg21
 z21:=Tryz.sizeOf21
 v21:=Tryz.zeroValue21
 t31:=underlying140
 a31:=Tryz.isAgg140
 z31:=Tryz.sizeOf140
 v31:=Tryz.zeroValue140
 t46:=underlying230
 a46:=Tryz.isAgg230
 z46:=Tryz.sizeOf230
 v46:=Tryz.zeroValue230
 t51:=underlying236
 a51:=Tryz.isAgg236
 z51:=Tryz.sizeOf236
 v51:=Tryz.zeroValue236
 t105:=underlying218
 a105:=Tryz.isAgg218
 z105:=Tryz.sizeOf218
 v105:=Tryz.zeroValue218
 t119:=underlying243
 a119:=Tryz.isAgg243
 z119:=Tryz.sizeOf243
 t138:=underlying245
 a138:=Tryz.isAgg245
 z138:=Tryz.sizeOf245
 v138:=Tryz.zeroValue245
 t139:=underlying246
 a139:=Tryz.isAgg246
 z139:=Tryz.sizeOf246
 v139:=Tryz.zeroValue246
 t146:=underlying237
 a146:=Tryz.isAgg237
 z146:=Tryz.sizeOf237
 v146:=Tryz.zeroValue237
 g1:=by kernel_rfl
 g3:=by kernel_rfl
 g4:=by kernel_rfl }
def aEZ {α:Type} (x:α):List (List α)->List (List α)
 | []=>[]
 | l::ls=>(x::l)::ls
theorem aKv (A):∀ (x:Int) (h:List Int),spl (x::h) A=aEZ x (spl h A):=by
 induction A with
 | nil=>intro x h;rfl
 | cons y ys ih=>
   intro x h;simp only [spl]
   split
   .rfl
   .exact ih x (h++[y])
theorem aJO (x:Int) (h:List Int):spl [] (x::h)=if x=10 then []::spl [] h else aEZ x (spl [] h):=by
 simp only [spl,nil_append]
 split
 .rfl
 .exact aKv h x []
theorem aHL (c:UInt8):Lib.count [] [c]=0:=by rw [Lib.count_one];rfl
theorem aEl (b c:UInt8) (l:List UInt8) (h:b≠c):Lib.index (b::l) [c]=if Lib.index l [c] == -1 then -1 else Lib.index l [c]+1:=by
 have:([c]:List UInt8).isPrefixOf (b::l)=false:=by simp [isPrefixOf];exact fun e=>h e.symm
 rw [Lib.index,this];rfl
theorem aEE (c:UInt8) (l:List UInt8):Lib.index (c::l) [c]=0:=by
 have:([c]:List UInt8).isPrefixOf (c::l)=true:=by simp [isPrefixOf]
 rw [Lib.index,this];rfl
theorem aFM (b c:UInt8) (l:List UInt8):Lib.split (b::l) [c]=if b=c then []::Lib.split l [c] else aEZ b (Lib.split l [c]):=by
 unfold Lib.split
 by_cases h:b=c
 .subst h;rw [if_pos rfl,Lib.count_cons_eq,Nat.add_comm,Lib.splitK,aEE];simp
 .rw [if_neg h,Lib.count_cons_ne b c l h];cases H:Lib.count l [c] with
  | zero=>rfl
  | succ k=>
    simp only [Lib.splitK];rw [aEl b c l h]
    by_cases D:Lib.index l [c] = -1
    .simp [D,aEZ]
    .have F:=Lib.index_ge l [c];have G:(Lib.index l [c] == -1)=false:=(by simpa using D);have A:(Lib.index l [c]+1 == -1)=false:=(by simp;omega);simp only [G,Bool.false_eq_true,if_false,A];obtain ⟨n,E⟩:∃ n:Nat,Lib.index l [c]=n:=⟨(Lib.index l [c]).toNat,by omega⟩;rw [E];rw [show ((n:Int)+1).toNat=n+1 by omega,show ((n:Int)).toNat=n by omega];simp [aEZ]
def byU (zs:List Int):List UInt8:=zs.map fun n=>UInt8.ofNat n.toNat
theorem aCw:∀ (E:List Int),Bys E->Lib.split (byU E) [10]=(spl [] E).map byU
 | [],_=>by
   show Lib.split [] [10]=_
   unfold Lib.split;rw [aHL];rfl
 | z::E,h=>by
   have ih:=aCw E (fun x F=>h x (by simp [F]));have G:=h z (by simp);have e:byU (z::E)=UInt8.ofNat z.toNat::byU E:=rfl;rw [e,aFM,ih,aJO]
   have D:UInt8.ofNat z.toNat=10 ↔ z=10:=by
    constructor
    .intro h;have:=congrArg UInt8.toNat h;simp at this;omega
    .intro h;subst h;rfl
   by_cases A:z=10
   .rw [if_pos (D.2 A),if_pos A];rfl
   .rw [if_neg (fun e=>A (D.1 e)),if_neg A];cases spl [] E with
    | nil=>rfl
    | cons l ls=>rfl
theorem aFs (h):(strOfNums h).data.toList=byU h:=rfl
theorem aA6 (A) (h:Bys A):Lib.splitB ⟨#[10]⟩ 0 (Lib.countB (strOfNums A) ⟨#[10]⟩) (strOfNums A)=(spl [] A).map strOfNums:=by
 have E:=Lib.splitB_data ⟨#[10]⟩ 0 (Lib.countB (strOfNums A) ⟨#[10]⟩) (strOfNums A);have F:Lib.splitK (⟨#[10]⟩:ByteArray).data.toList 0 (Lib.countB (strOfNums A) ⟨#[10]⟩) (strOfNums A).data.toList=Lib.split (byU A) [10]:=rfl;rw [F,aCw A h] at E
 have D:∀ (a:List ByteArray) (b:List (List Int)),a.map (·.data.toList)=b.map byU->a=b.map strOfNums:=by
  intro a
  induction a with
  | nil=>intro b e;cases b with
    | nil=>rfl
    | cons x b=>simp at e
  | cons x a ih=>
    intro b e;cases b with
    | nil=>simp at e
    | cons y b=>
      simp only [map_cons,List.cons.injEq] at e;rw [map_cons,ih b e.2];congr 1;have:x.data=(strOfNums y).data:=Array.toList_inj.1 (by rw [aFs];exact e.1);cases x;cases this;rfl
 exact D _ _ E
theorem aHB (A) (h:Bys A) (m:Int) (w:World) (G:A.length<4294967281) (H:w.cell? ⟨1,0,none⟩=some (.int .i64 m)) :
  Calls prog 141 #[.string (strOfNums A),.string { data:=#[10] }] w fun e D=>e=.returned (.slice (some ⟨w.heap.size,0,none⟩) (spl [] A).length (spl [] A).length)/\w.alloc (.cells (((spl [] A).map strOfNums).map Value.string).toArray 9)=D:=by
 have F:=Any.strings_Split aKx (by kernel_rfl) (strOfNums A) { data:=#[10] } m w (by rw [strOfNums_size];exact G) H (by decide);refine F.mono ?_;rintro e D ⟨rfl,rfl⟩;have E:=congrArg List.length (aA6 A h);rw [Lib.splitB_all _ (by decide) 0 _ _ rfl,length_map] at E;refine ⟨by rw [E],?_⟩;rw [<- aA6 A h];rfl
end
section
open Go.RowKit
attribute [-go_sem] Builtin.append_
theorem wZ (a b):strOfNums a++strOfNums b=strOfNums (a++b):=by
 apply ByteArray.ext;simp [strOfNums,ByteArray.data_append]
theorem wR (t I) (w:World) (S:RdB w.heap.size w I t) (hs:Sl I t.length) (hb:Bys t) (hn:t.length<=1000000) :
  Calls prog 104 #[.agg #[.bool false,I]] w fun e H=>∃ f A,e=.returned (.func (.func f) #[] A)/\bU H (fun k=>w.heap.size<=k/\k<H.heap.size) f A (aI (47::47::t))/\w.grownBy H none:=by
 have Z:∀ (x:Bool) (w:World),(Op.unary .not (.bool x)).run prog w=.ok (.bool (!x)) w:=fun _ _=>rfl;obtain ⟨a,E,M,_,_⟩:=hs;subst M;have F:=grownBy_alloc w (Obj.cells #[.bool false,.slice a t.length E] 96) none;have D:=qF (S.K F);have J:Hid (∀ W:World,_):=fun W=>cN (47::47::t) (by intro z N;simp at N;rcases N with rfl | h;omega;exact hb z h) (by simp;omega) W;have e:({ data:=#[47,47] } : ByteArray)++strOfNums t=strOfNums (47::47::t):=wZ [47,47] t;rw [<- e] at J;have Y:¬ 9223372036854775807<2+(strOfNums t).size:=(by rw [strOfNums_size];omega);have HG:=aB F;clear S F e
 go_enter func104,ntmps104
 go_wp2_with fail
 refine (J.out _).mono ?_;rintro e w1 ⟨f,A,rfl,O,g⟩;have HP:=aB O;have G:=aB (aA HG.out g);clear J O g D;go_wp2;go_ret;exact ⟨f,A,rfl,HP.out.at (fun k h=>⟨by have:=h.1;simp at this;omega,h.2⟩) (fun _ _=>rfl),G.out⟩
theorem aCN:∀ (D A:List Int),Bys D->Bys A->∀ l∈spl A D,Bys l
 | [],A,_,hc,l,hl=>by simp [spl] at hl;subst hl;exact hc
 | x::D,A,hx,hc,l,hl=>by
   simp only [spl] at hl;have E:Bys D:=fun z F=>hx z (by simp [F])
   split at hl
   .rcases mem_cons.1 hl with rfl | h
    .exact hc
    .exact aCN D [] E (fun z F=>by simp at F) l h
   .exact aCN D (A++[x]) E (fun z F=>by rcases mem_append.1 F with h | h;exact hc z h;simp at h;subst h;exact hx _ (by simp)) l hl
theorem aIl (E A:List Int):∀ l∈spl A E,l.length<=A.length+E.length:=by
 intro l F;have h:=sH A E
 have:∀ (D:List (List Int)),l∈D->l.length+1<=pH D:=by
  intro D
  induction D with
  | nil=>intro h;simp at h
  | cons m D ih=>
    intro h;simp only [pH];rcases mem_cons.1 h with rfl | h
    .omega
    .have:=ih h;omega
 have:=this _ F;omega
theorem aJ7 (h:List (List Int)):h.length<=pH h:=by
 induction h with
 | nil=>simp
 | cons m h ih=>simp only [pH,length_cons];omega
theorem uZ (t tv) (m:Int) (w:World) (hv:RdB w.heap.size w tv t) (hs:Sl tv t.length) (hb:Bys t) (hn:t.length<=1000000) (hM:w.cell? ⟨1,0,none⟩=some (.int .i64 m)) :
  Calls prog 104 #[.agg #[.bool true,tv]] w fun e w'=>∃ f E,e=.returned (.func (.func f) #[] E)/\bU w' (fun k=>w.heap.size<=k/\k<w'.heap.size) f E (eR (tK (spl [] (47::42::t++[42,47]))))/\w.grownBy w' none:=by
 have k9:∀ (x:Bool) (w:World),(Op.unary .not (.bool x)).run prog w=.ok (.bool (!x)) w:=fun _ _=>rfl;obtain ⟨a,c1,i3,_,_⟩:=hs;subst i3;have gA:=grownBy_alloc w (Obj.cells #[.bool true,.slice a t.length c1] 96) none;have c0:=qF (hv.K gA)
 have f8:Bys (47::42::t++[42,47]):=by
  intro z hz;simp at hz;rcases hz with rfl | rfl | h | rfl | rfl
  .omega
  .omega
  .exact hb z h
  .omega
  .omega
 have f2:=gA.cell hM (by simp);have HS:=aB (aHB (47::42::t++[42,47]) f8 m _ (by simp;omega) f2)
 have e:(({ data:=#[47,42] } : ByteArray)++strOfNums t)++{ data:=#[42,47] } = strOfNums (47::42::t++[42,47]):=by
  have e1:=wZ [47,42] t;have e2:=wZ ([47,42]++t) [42,47];rw [<- e1] at e2;exact e2
 rw [<- e] at HS;have l3:¬ 9223372036854775807<2+(strOfNums t).size:=(by rw [strOfNums_size];omega);have i2:¬ 9223372036854775807<2+(strOfNums t).size+2:=(by rw [strOfNums_size];omega);have HL:=aB (aCN (47::42::t++[42,47]) [] f8 (fun z hz=>by simp at hz));have a4:=aB (aIl (47::42::t++[42,47]) []);have M:=aJ7 (spl [] (47::42::t++[42,47]));rw [sH] at M;simp only [length_nil,length_append,length_cons] at M;have HG:=aB gA;have HM:=aB hM;clear hv gA e hM f2
 obtain ⟨D,A,b5⟩:∃ D A,spl [] (47::42::t++[42,47])=D::A:=by
  cases h:spl [] (47::42::t++[42,47]) with
  | nil=>exact absurd h (aH4 _ _)
  | cons D A=>exact ⟨D,A,rfl⟩
 rw [b5] at HS HL a4 M;have a9:=aB (show eR (tK (spl [] (47::42::t++[42,47])))=eR (aI D::sF A) by rw [b5,aIz]);have h0:Bys D:=HL.out D (by simp);have f7:=a4.out D (by simp);have d4:Hid (∀ W:World,_):=fun W=>cN D h0 (by simp at f7;omega) W;have j3:Hid (∀ W:World,_):=fun W=>eE 5 W;have i8:Hid (∀ (j:Nat) (hj:j<A.length) (W:World),_):=fun j hj W=>cN A[j] (HL.out _ (by simp)) (by have:=a4.out A[j] (by simp);simp at this;omega) W;clear b5 h0 f7 HL a4
 go_enter func104,ntmps104
 go_wp2_with fail
 refine HS.out.mono ?_;rintro e Z ⟨rfl,a3⟩;have sA:(w.alloc (Obj.cells #[.bool true,.slice a t.length c1] 96)).heap.size=w.heap.size+1:=by simp
 have b3:∀ (j:Nat) (l:List Int),(D::A)[j]?=some l->Z.cell? ⟨w.heap.size+1,j,none⟩=some (.string (strOfNums l)):=fun j l hj=>by
  rw [<- a3,<- sA];have:=cell?_alloc_mark (w.alloc (Obj.cells #[.bool true,.slice a t.length c1] 96)) (List.map Value.string (List.map strOfNums (D::A))).toArray 9 (0,0) j;rw [this];have e2:((D::A).map strOfNums).map Value.string=(D::A).map (fun l=>Value.string (strOfNums l)):=(by simp);rw [e2];simp only [getElem?_toArray,getElem?_map,hj,Option.map_some]
 have g1:w.grownBy Z none:=(by rw [<- a3];exact aA HG.out gWA);have s1:Z.heap.size=w.heap.size+2:=(by rw [<- a3];simp);have c9:=aB b3;have i7:=b3 0 D rfl;have G1:=aB g1;have b6:(D::A).length=A.length+1:=rfl;rw [sA,b6];rw [b6] at M;have d2:=aB (d4.out Z);clear HS a3 b3 g1 d4 c0 sA b6
 go_wp2_with fail
 refine d2.out.mono ?_;rintro e w2 ⟨f0,O,rfl,c7,g2⟩;have I:=aGI g2 c7;have g3:=grownBy_alloc w2 (Obj.cells #[.func (.func f0) #[] O] 57) none;have f9:=aB I;have G3:=aB (aA g2 g3)
 have b0:∀ j,j<A.length->Z.cell? ⟨w.heap.size+1,1+j,none⟩=some (.string (strOfNums (A[j]?.getD []))):=fun j hj=>by
  have h1:=c9.out (1+j) (A[j]'hj) (by rw [Nat.add_comm];simp [hj]);rw [h1];simp [hj]
 clear d2 c7 I g2 g3 i7 c9
 by_cases c6:A.length=0
 .have k0:A=[]:=eq_nil_of_length_eq_zero c6;subst k0;simp only [length_nil,Nat.zero_add];go_wp2
  go_loopw [4,29] (fun pv i U=>pv=.slice (some ⟨w2.heap.size,0,none⟩) 1 1/\i=.int .i64 0/\(w2.alloc (Obj.cells #[.func (.func f0) #[] O] 57))=U) (fun _ _ _=>0)
  case atStart=>exact ⟨rfl,rfl,rfl⟩
  case round=>
   obtain ⟨rfl,rfl,c2⟩:=hrel;have J:Hid (PoL Z.heap.size wr (.slice (some ⟨w2.heap.size,0,none⟩) 1 1) (aI D::sF [])):=(by unfold Hid;rw [<- c2];exact f9.out);have gx:Z.grownBy wr none:=(by rw [<- c2];exact G3.out);have GX:=aB gx;clear c2 gx;have b7:=J.out.pa;obtain ⟨F,hF,H⟩:=b7;have a1:=aB (sN _ _ F wr H (fun k h=>(hF k h).2) (by simp [sF]));have Y:=aB hF;clear H hF
   go_wp2_with fail
   refine a1.out.mono ?_;rintro e w5 ⟨f,E,rfl,N,g5⟩;have b9:=aB N;have a0:=aB (aA (aA G1.out GX.out) g5);have i5:=g5.size;have j1:=G1.out.size;clear a1 N g5;go_wp2;go_ret;refine ⟨f,E,rfl,?_,a0.out⟩;have G:=b9.out;rw [<- a9.out] at G;exact G.at (fun k h=>h.elim (fun h=>⟨by have:=(Y.out k h).1;omega,by have:=(Y.out k h).2;omega⟩) (fun h=>⟨by have:=h.1;have:=GX.out.size;omega,h.2⟩)) (fun _ _=>rfl)
 .have k6:((A.length:Int)+1==1)=false:=by
   rw [beq_eq_false_iff_ne];omega
  have h9:(A.length+1==1)=false:=(by simpa using c6);have k8:A.length<=1000010:=(by omega);have j7:=aB b0;clear b0;go_wp2
  go_loopw [4,29] (fun pv i U=>∃ (j:Nat),j<=A.length/\i=.int .i64 j/\PoL Z.heap.size U pv (aI D::sF (A.take j))/\Z.grownBy U none)
   (fun _ i _=>A.length - (intOf i).toNat)
  case atStart=>exact ⟨0,Nat.zero_le _,rfl,f9.out,G3.out⟩
  case round=>
   obtain ⟨j,hj,rfl,I,gU⟩:=hrel;have gx:=gU;have m1:=gx.size
   have i9:(aI D::sF (A.take j)).length<=2000030:=by
    have h:∀ (l:List (List Int)),(sF l).length=2*l.length:=by
     intro l
     induction l with
     | nil=>rfl
     | cons x l ih=>rw [show sF (x::l)=[aM 5,aI x]++sF l by simp [sF],length_append,ih];simp;omega
    rw [length_cons,h,length_take];omega
   obtain ⟨pa,pc,b4⟩:=I.sl;have J:=aB I
   by_cases a6:j<A.length
   .have d8:=gU.cell (j7.out j a6) (by simp);have d7:A[j]?.getD []=A[j]:=(by simp [a6]);rw [d7] at d8;have d6:=aB (i8.out j a6)
    have i4:=aB (show sF (A.take (j+1))=sF (A.take j)++[aM 5,aI A[j]] by
     rw [show A.take (j+1)=A.take j++[A[j]] by rw [take_add_one];simp [a6]];simp only [sF,flatMap_append,flatMap_cons,flatMap_nil,append_nil])
    have d0:=aB (j3.out wr);have GX:=aB gx;have h8:=aB gU;generalize c8:(aI D::sF (A.take j)).length=PL at *;subst b4;clear I gU gx d7;generalize A[j]=lj at *
    go_wp2_with fail
    refine d0.out.mono ?_;rintro e w3 ⟨f3,b2,rfl,f1,g3⟩;have f6:=aB f1;have d3:=aB g3;clear d0 f1 g3
    go_wp2_with fail
    refine (d6.out w3).mono ?_;rintro e w4 ⟨f4,c3,rfl,g0,g4⟩;have h3:=f6.out.more (Nat.le_refl _) g4;have h4:=g0.more d3.out.size (grownBy.refl _ _);have S:=aA d3.out g4;have d5:=aFR S h3 h4;have gA:=grownBy_alloc w4 (Obj.cells #[.func (.func f3) #[] b2,.func (.func f4) #[] c3] 57) none;have m3:=S.size;obtain ⟨v5,w5,l1,o5,g5⟩:=cJ Z.heap.size _ _ _ _ _ _ ((J.out.K S).K gA) d5 (fun k hk=>⟨by have:=hk.1;omega,hk.2,fun e=>by have h1:=hk.1;have h2:=(J.out.lt k e).2;omega⟩) (by simp;omega) (by rw [c8];simp;omega);obtain ⟨a5,c5,d9⟩:=o5.sl;have k1:(aI D::sF (A.take j)++[aM 5,aI lj]).length=PL+2:=(by rw [length_append,c8];rfl);rw [k1] at d9;have i1:Hid (PoL Z.heap.size w5 v5 (aI D::sF (A.take (j+1)))):=(by unfold Hid;rw [i4.out];exact o5);have a0:=aB (bC (aA h8.out (aA S gA)) g5 (fun x e=>(J.out.lt x e).1));subst d9;clear o5 g5 d5 gA S h3 h4 f6 g0 g4 d6 d8;go_wp2
    go_roundw
    case rel=>exact ⟨j+1,by omega,by go_num,i1.out,a0.out⟩
    case measure=>simp [intOf];omega
   .have j5:j=A.length:=(by omega);subst j5;rw [take_length] at J b4 i9;have GX:=aB gx;subst b4;clear I gU gx;have b7:=J.out.pa;obtain ⟨F,hF,H⟩:=b7;have a1:=aB (sN _ _ F wr H (fun k h=>(hF k h).2) (by omega));have Y:=aB hF;clear H hF
    go_wp2_with fail
    refine a1.out.mono ?_;rintro e w5 ⟨f,E,rfl,N,g5⟩;have b9:=aB N;have a0:=aB (aA (aA G1.out GX.out) g5);have i5:=g5.size;have j1:=G1.out.size;clear a1 N g5;go_wp2;go_ret;refine ⟨f,E,rfl,?_,a0.out⟩;have G:=b9.out;rw [<- a9.out] at G;exact G.at (fun k h=>h.elim (fun h=>⟨by have:=(Y.out k h).1;omega,by have:=(Y.out k h).2;omega⟩) (fun h=>⟨by have:=h.1;have:=GX.out.size;omega,h.2⟩)) (fun _ _=>rfl)
theorem pQ (c:Cm) (A) (m:Int) (w:World) (E:RdB w.heap.size w A c.t) (G:Sl A c.t.length) (H:Bys c.t) (F:c.t.length<=1000000) (I:w.cell? ⟨1,0,none⟩=some (.int .i64 m)) :
  Calls prog 104 #[.agg #[.bool c.b,A]] w fun e D=>∃ f h,e=.returned (.func (.func f) #[] h)/\bU D (fun k=>w.heap.size<=k/\k<D.heap.size) f h (kC c)/\w.grownBy D none:=by
 obtain ⟨b,t⟩:=c;cases b with
 | false=>exact wR t A w E G H F
 | true=>exact uZ t A m w E G H F I
theorem nK (cv h) (m:Int) (w:World) (hc:RdC w.heap.size w cv h) (ho:zI h) (hn:wC h<=4000000) (hM:w.cell? ⟨1,0,none⟩=some (.int .i64 m)) :
  Calls prog 62 #[cv] w fun e w'=>∃ v',e=.returned v'/\PoL w.heap.size w' v' (bT h)/\w.grownBy w' none:=by
 have b1:=aB hc;have g0:=aDV h;obtain ⟨a,g9,b5,_,_,_⟩:=id hc;have HM:=aB hM;subst b5;clear hc hM
 go_enter func62,ntmps62
 go_wp2
 go_loopw [3,8] (fun pv i U=>∃ (j:Nat),j<=h.length/\i=.int .i64 j/\PoL w.heap.size U pv (bT (h.take j))/\w.grownBy U none)
  (fun _ i _=>h.length - (intOf i).toNat)
 case atStart=>exact ⟨0,Nat.zero_le _,rfl,PoL.nil _ _,grownBy.refl _ _⟩
 case round=>
  obtain ⟨j,hj,rfl,E,J⟩:=hrel;have a9:=J.size;have f0:(bT (h.take j)).length<=4000000:=(by have h1:=dH (bT (h.take j));have h2:=tE h j;omega);obtain ⟨pa,pc,H⟩:=E.sl;have D:=aB E;have N:=aB J
  by_cases F:j<h.length
  .obtain ⟨b,f9,c6,tv,c2,g2,c0,c1,S,O⟩:=(b1.out.K J).at j F;cases c2;have hm:=aDa h h[j] (getElem_mem F);have Z:=(ho _ (getElem_mem F)).2;have HC:Hid (∀ W:World,wr.grownBy W none->_):=fun W (g:wr.grownBy W none)=>pQ h[j] tv m W ((S.K g).wideC (Nat.le_trans a9 g.size)) O Z (by omega) ((aA J g).cell HM.out (by simp));have HL:Hid (∀ W:World,_):=fun W=>eE 4 W;have HE:=aB (show bT (h.take (j+1))=bT (h.take j)++[kC h[j],aM 4] by rw [show h.take (j+1)=h.take j++[h[j]] by rw [take_add_one];simp [F],aCk]);obtain ⟨ta,tc,a8,_,_⟩:=O;generalize M:(bT (h.take j)).length=PL at *;subst H a8;clear E J S Z;generalize h[j]=c at *;have gB:wr.grownBy (wr.alloc (Obj.cells #[.bool c.b,.slice ta c.t.length tc] 96)) none:=gWA;have GB:=aB gB
   go_wp2_with fail
   refine (HC.out _ gB).mono ?_;rintro e w3 ⟨f3,G,rfl,a2,g3⟩;have a3:=aB a2;have Y:=aB (aA gB g3);clear a2 g3
   go_wp2_with fail
   refine (HL.out w3).mono ?_;rintro e w4 ⟨f4,I,rfl,a4,g4⟩;have h3:=a3.out.more (B:=wr.heap.size) GB.out.size g4;have h4:=a4.more (B:=wr.heap.size) Y.out.size (grownBy.refl _ _);have A:=aA Y.out g4;have a0:=aFR A h3 h4;have gA:=grownBy_alloc w4 (Obj.cells #[.func (.func f3) #[] G,.func (.func f4) #[] I] 57) none;have g1:=A.size;obtain ⟨v5,w5,d2,o5,g5⟩:=cJ w.heap.size _ _ _ _ _ _ ((D.out.K A).K gA) a0 (fun k hk=>⟨by have:=hk.1;omega,hk.2,fun e=>by have h1:=hk.1;have h2:=(D.out.lt k e).2;omega⟩) (by simp;omega) (by rw [M];simp;omega);obtain ⟨a5,c5,a1⟩:=o5.sl;have b9:(bT (h.take j)++[kC c,aM 4]).length=PL+2:=(by rw [length_append,M];rfl);rw [b9] at a1;have a7:Hid (PoL w.heap.size w5 v5 (bT (h.take (j+1)))):=(by unfold Hid;rw [HE.out];exact o5);have b6:=aB (bC (aA N.out (aA A gA)) g5 (fun x e=>(D.out.lt x e).1));subst a1;clear o5 g5 a0 gA A h3 h4 a3 a4 g4 HC HL c0 c1;go_wp2
   go_roundw
   case rel=>exact ⟨j+1,by omega,by go_num,a7.out,b6.out⟩
   case measure=>simp [intOf];omega
  .have b3:j=h.length:=(by omega);subst b3;rw [take_length] at D H;subst H;clear E J;generalize (bT h).length=LL at *;go_wp2;go_ret;exact ⟨_,rfl,D.out,N.out⟩
theorem rW (cv A) (m:Int) (w:World) (hc:RdC w.heap.size w cv A) (ho:zI A) (hn:wC A<=4000000) (hM:w.cell? ⟨1,0,none⟩=some (.int .i64 m)) :
  Calls prog 137 #[cv] w fun e w'=>∃ v',e=.returned v'/\PoL w.heap.size w' v' (cW A)/\w.grownBy w' none:=by
 have c9:=aB hc;have i6:=aDV A;obtain ⟨a,j1,d5,_,_,_⟩:=id hc;have HM:=aB hM;subst d5;clear hc hM
 go_enter func137,ntmps137
 go_wp2
 go_loopw [3,8] (fun pv i U=>∃ (j:Nat),j<=A.length/\i=.int .i64 j/\PoL w.heap.size U pv (cW (A.take j))/\w.grownBy U none)
  (fun _ i _=>A.length - (intOf i).toNat)
 case atStart=>exact ⟨0,Nat.zero_le _,rfl,PoL.nil _ _,grownBy.refl _ _⟩
 case round=>
  obtain ⟨j,hj,rfl,J,Y⟩:=hrel;have c7:=Y.size;have h9:(cW (A.take j)).length<=4000000:=(by have h1:=dH (cW (A.take j));have h2:=tE A j;omega);obtain ⟨pa,pc,O⟩:=J.sl;have D:=aB J;have a2:=aB Y
  by_cases M:j<A.length
  .obtain ⟨b,i5,f7,tv,f0,i8,c0,c1,a6,a4⟩:=(c9.out.K Y).at j M;cases f0;have hm:=aDa A A[j] (getElem_mem M);have a7:=(ho _ (getElem_mem M)).2;have HC:Hid (∀ W:World,wr.grownBy W none->_):=fun W (g:wr.grownBy W none)=>pQ A[j] tv m W ((a6.K g).wideC (Nat.le_trans c7 g.size)) a4 a7 (by omega) ((aA Y g).cell HM.out (by simp));have HL:Hid (∀ W:World,_):=fun W=>eE 4 W;have HE:=aB (show cW (A.take (j+1))=cW (A.take j)++[aM 4,kC A[j]] by rw [show A.take (j+1)=A.take j++[A[j]] by rw [take_add_one];simp [M],aCl]);obtain ⟨ta,tc,c6,_,_⟩:=a4;generalize Z:(cW (A.take j)).length=PL at *;subst O c6;clear J Y a6 a7;generalize A[j]=c at *;have gB:wr.grownBy (wr.alloc (Obj.cells #[.bool c.b,.slice ta c.t.length tc] 96)).drew none:=aA gWA ⟨rfl,rfl,rfl,Nat.le_refl _,fun _ _ _=>rfl⟩;have GB:=aB gB;obtain ⟨I,hI⟩:∃ I:World->Prop,I=(fun W:World=>W.cell? ⟨wr.heap.size,0,none⟩=some (.bool c.b)/\W.cell? ⟨wr.heap.size,1,none⟩=some (.slice ta c.t.length tc)):=⟨_,rfl⟩;have S:I (wr.alloc (Obj.cells #[.bool c.b,.slice ta c.t.length tc] 96)).drew:=(by rw [hI];exact ⟨by simp [go_sem],by simp [go_sem]⟩);have G:∀ (U U':World) (r:Option Nat),I U->U.grownBy U' r->some wr.heap.size≠r->I U':=fun U U' r h g hr=>by rw [hI] at h ⊢;exact ⟨g.cell h.1 hr,g.cell h.2 hr⟩
   go_wp2;refine aW I (fun _=>false) (by kernel_rfl) ?_
   show fK _ _ _ _ _ _ 7 (Array.replicate 7 false) _ _
   refine bG (i:=0) (.slice pa PL pc) rfl S (bI rfl (fun W hW=>by go_simp)) ?_;refine bG (i:=2) (.agg #[.bool c.b,.slice ta c.t.length tc]) rfl S (bI rfl (fun W hW=>by rw [hI] at hW;obtain ⟨h1,h2⟩:=hW;go_simp)) ?_;generalize hG:Act.put _ _ _=A0;simp [Act.put] at hG;subst hG;refine aG (i:=1) (by kernel_rfl) (eW rfl rfl (by go_simp) (HL.out (wr.alloc (Obj.cells #[.bool c.b,.slice ta c.t.length tc] 96)).drew) ?_);rintro e w3 ⟨f3,E,rfl,b3,g3⟩;have b1:=G _ _ none S g3 (by simp);have b5:=aB b3;have N:=aB (aA gB g3);refine ⟨_,rfl,.inr b1,?_⟩;clear b3 g3;refine aG (i:=3) (by kernel_rfl) (eW rfl rfl (by go_simp) (HC.out w3 N.out) ?_);rintro e w4 ⟨f4,H,rfl,b6,g4⟩;have a3:=G _ _ none b1 g4 (by simp);refine ⟨_,rfl,.inr a3,?_⟩;have h3:=b5.out.more (B:=wr.heap.size) GB.out.size g4;have h4:=b6.more (B:=wr.heap.size) N.out.size (grownBy.refl _ _);have F:=aA N.out g4;have a9:=aFR F h3 h4;have gA:=grownBy_alloc w4 (Obj.cells #[.func (.func f3) #[] E,.func (.func f4) #[] H] 57) none;have i7:=F.size;obtain ⟨v5,w5,h0,o5,g5⟩:=cJ w.heap.size _ _ _ _ _ _ ((D.out.K F).K gA) a9 (fun k hk=>⟨by have:=hk.1;omega,hk.2,fun e=>by have h1:=hk.1;have h2:=(D.out.lt k e).2;omega⟩) (by simp;omega) (by rw [Z];simp;omega);obtain ⟨a5,c5,b2⟩:=o5.sl;have d9:(cW (A.take j)++[aM 4,kC c]).length=PL+2:=(by rw [length_append,Z];rfl);rw [d9] at b2;have c4:Hid (PoL w.heap.size w5 v5 (cW (A.take (j+1)))):=(by unfold Hid;rw [HE.out];exact o5);have d6:=aB (bC (aA a2.out (aA F gA)) g5 (fun x e=>(D.out.lt x e).1));have a0:=G _ _ none a3 gA (by simp);have a8:=G _ _ _ a0 g5 (fun e=>by have:=(D.out.lt _ e.symm).2;omega);subst b2;clear o5 g5 a9 gA F h3 h4 b5 b6 g4 HC HL c0 c1 G;refine aG (i:=4) (by kernel_rfl) (bM (w':=w4.alloc (Obj.cells #[.func (.func f3) #[] E,.func (.func f4) #[] H] 57)) (v:=.slice (some ⟨w4.heap.size,0,none⟩) 2 2) rfl rfl (by go_simp) ⟨.inr a0,?_⟩);refine aG (i:=5) (by kernel_rfl) (bM (w':=w5) (v:=.slice a5 (PL+2) c5) rfl rfl (by go_simp) ⟨.inr a8,?_⟩);refine aG (i:=6) (by kernel_rfl) (bM (w':=w5) (v:=.slice a5 (PL+2) c5) rfl rfl (by go_simp) ⟨.inr a8,?_⟩);refine bK (by kernel_rfl) ?_ _;subst hI;go_wp2
   go_roundw
   case rel=>exact ⟨j+1,by omega,by go_num,c4.out,d6.out⟩
   case measure=>simp [intOf];omega
  .have d2:j=A.length:=(by omega);subst d2;rw [take_length] at D O;subst O;clear J Y;generalize (cW A).length=LL at *;go_wp2;go_ret;exact ⟨_,rfl,D.out,a2.out⟩
end
open Go.RowKit
theorem mO (p:Int) (w):Calls prog 158 #[.int .i32 p] w fun e J=>e=.returned (.bool (iS p))/\w=J:=by
 by_cases h:iS p=true
 .have A:Hid (iS p=true):=h;have D:(97<=p/\p<=122)\/(65<=p/\p<=90)\/p=95\/p=36:=(by simpa [iS] using h);clear h;rcases D with ⟨G,F⟩ | ⟨G,F⟩ | rfl | rfl
  .have E:¬ p<=90:=(by omega);have H:65<=p:=by omega
   go_enter func158,ntmps158
   go_wp2;go_ret;exact ⟨by rw [A.out];rfl,rfl⟩
  .have E:¬ 97<=p:=by omega
   go_enter func158,ntmps158
   go_wp2;go_ret;exact ⟨by rw [A.out];rfl,rfl⟩
  all_goals
   go_enter func158,ntmps158
   go_wp2;go_ret;exact ⟨rfl,rfl⟩
 .have A:Hid (iS p=false):=(by simpa [Hid] using h);have D:¬ ((97<=p/\p<=122)\/(65<=p/\p<=90)\/p=95\/p=36):=(by simpa [iS] using h);clear h;have I:(p==95)=false:=(by simp;omega);have M:(p==36)=false:=by simp;omega
  by_cases G:65<=p
  .have F:¬ p<=90:=by omega
   by_cases E:97<=p
   .have H:¬ p<=122:=(by omega);clear D
    go_enter func158,ntmps158
    go_wp2;go_ret;exact ⟨by rw [A.out];rfl,rfl⟩
   .clear D
    go_enter func158,ntmps158
    go_wp2;go_ret;exact ⟨by rw [A.out];rfl,rfl⟩
  .have E:¬ 97<=p:=(by omega);clear D
   go_enter func158,ntmps158
   go_wp2;go_ret;exact ⟨by rw [A.out];rfl,rfl⟩
theorem iP (p:Int) (w):Calls prog 157 #[.int .i32 p] w fun e h=>e=.returned (.bool (iS p||aK p))/\w=h:=by
 cases A:iS p
 all_goals
  go_enter func157,ntmps157
  go_wp2_with (first
   | (go_at_call 158;refine (mO _ _).mono ?_;rintro e h ⟨rfl,rfl⟩;rw [A])
   | (go_at_call 177;refine (fY _ _).mono ?_;rintro e h ⟨rfl,rfl⟩))
  go_ret;exact ⟨by simp,rfl⟩
theorem aAs (v A) (w:World) (hv:RdI w.heap.size w v A) (hn:A.length<=2097152) :
  Calls prog 139 #[v] w fun e G=>e=.returned (.bool (nmR A))/\w=G:=by
 obtain ⟨a,a8,rfl,hr⟩:=hv;have a4:∀ (x:Bool) (w:World),(Op.unary .not (.bool x)).run prog w=.ok (.bool (!x)) w:=fun _ _=>rfl
 go_enter func139,ntmps139
 go_wp2
 go_loopw [7] (fun i wr=>∃ k:Nat,k<=A.length/\i=.int .i64 k/\uR A k=true/\w=wr)
  (fun i _=>A.length - (intOf i).toNat)
 case atStart=>exact ⟨0,Nat.zero_le _,rfl,rfl,rfl⟩
 case round=>
  obtain ⟨k,hk,rfl,H,rfl⟩:=hrel
  by_cases M:k<A.length
  .obtain ⟨b,a9,rfl,hb,hc⟩:=hr (fun h=>by simp [h] at M);have a2:=hc k M;have F:=aB (aB5 A k H);have E:=aB (aGH A k M);generalize A[k]?.getD 0=p at a2 F E;clear hc hr;cases J:cD p
   .have N:Hid (nmR A=false):=E.out (by simp [cD] at J;simp [xG,iS,aK];omega);clear F E
    go_wp2_with (first
     | (go_at_call 149;refine (fG _ _).mono ?_;rintro e G ⟨rfl,rfl⟩;rw [J]))
    go_ret;exact ⟨by rw [N.out];rfl,rfl⟩
   .have a0:0<=p/\p<65536:=(by simpa [cD] using J);have b0:IntKind.i32.wrap p=p:=(by rw [IntKind.wrap];simp [IntKind.bits,IntKind.signed];omega);obtain ⟨a7,a6⟩:=a0;cases I:iS p
    .cases S:aK p
     .have N:Hid (nmR A=false):=E.out (by simp [xG,I,S]);clear F E
      go_wp2_with (first
       | (go_at_call 149;refine (fG _ _).mono ?_;rintro e G ⟨rfl,rfl⟩;rw [J])
       | (go_at_call 157;refine (iP _ _).mono ?_;rintro e G ⟨rfl,rfl⟩;rw [I,S]))
      go_ret;exact ⟨by rw [N.out];rfl,rfl⟩
     .by_cases D:k=0
      .have O:((k:Int)==0)=true:=(by simp [D]);have N:Hid (nmR A=false):=E.out (by simp [xG,I,D]);have HK:=aB D;clear F E D
       go_wp2_with (first
        | (go_at_call 149;refine (fG _ _).mono ?_;rintro e G ⟨rfl,rfl⟩;rw [J])
        | (go_at_call 157;refine (iP _ _).mono ?_;rintro e G ⟨rfl,rfl⟩;rw [I,S])
        | (go_at_call 158;refine (mO _ _).mono ?_;rintro e G ⟨rfl,rfl⟩;rw [I]))
       go_ret;exact ⟨by rw [N.out];rfl,rfl⟩
      .have O:((k:Int)==0)=false:=(by simp;omega);have Z:Hid (uR A (k+1)=true):=F.out (by simp [xG,I,S,D]);clear F E
       go_wp2_with (first
        | (go_at_call 149;refine (fG _ _).mono ?_;rintro e G ⟨rfl,rfl⟩;rw [J])
        | (go_at_call 157;refine (iP _ _).mono ?_;rintro e G ⟨rfl,rfl⟩;rw [I,S]))
       go_roundw
       case rel=>exact ⟨k+1,by omega,by go_num,Z.out,trivial⟩
       case measure=>simp [intOf];omega
    .have Z:Hid (uR A (k+1)=true):=F.out (by simp [xG,I]);clear F E
     by_cases D:k=0
     .have O:((k:Int)==0)=true:=(by simp [D]);have HK:=aB D;clear D
      go_wp2_with (first
       | (go_at_call 149;refine (fG _ _).mono ?_;rintro e G ⟨rfl,rfl⟩;rw [J])
       | (go_at_call 157;refine (iP _ _).mono ?_;rintro e G ⟨rfl,rfl⟩;rw [I])
       | (go_at_call 158;refine (mO _ _).mono ?_;rintro e G ⟨rfl,rfl⟩;rw [I]))
      go_roundw
      case rel=>exact ⟨k+1,by omega,by go_num,Z.out,trivial⟩
      case measure=>simp [intOf];omega
     .have O:((k:Int)==0)=false:=by simp;omega
      go_wp2_with (first
       | (go_at_call 149;refine (fG _ _).mono ?_;rintro e G ⟨rfl,rfl⟩;rw [J])
       | (go_at_call 157;refine (iP _ _).mono ?_;rintro e G ⟨rfl,rfl⟩;rw [I]))
      go_roundw
      case rel=>exact ⟨k+1,by omega,by go_num,Z.out,trivial⟩
      case measure=>simp [intOf];omega
  .have Y:k=A.length:=(by omega);rw [Y] at H;have N:Hid (nmR A=decide (0<A.length)):=aGt A H;have HG:Hid (decide ((0:Int)<(A.length:Int))=decide (0<A.length)):=(by simp [Hid]);clear hr H Y;go_wp2;go_ret;exact ⟨by rw [N.out,<- HG.out];rfl,rfl⟩
end Go.Proofs.YtckcaefnokeodaaGreatDoor
