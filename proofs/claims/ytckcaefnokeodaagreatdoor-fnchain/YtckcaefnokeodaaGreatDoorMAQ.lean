import Derived.Maps.OwnOps
import Derived.Test.YtckcaefnokeodaaGreatDoorMAP
set_option maxHeartbeats 16000000
set_option maxRecDepth 100000
namespace Go.Proofs.YtckcaefnokeodaaGreatDoor
open Go.Proofs.Tryz List World
section
open Go.RowKit
def aGQ (t:TypeId):Prop:=t=164\/t=165\/t=166\/t=167\/t=168
def aMr (t:TypeId):Prop:=t=169\/t=177\/t=172\/t=180\/t=184
inductive NKey (w:World):Value->Prop
 | leaf (t:TypeId) (h:aGQ t):NKey w (.iface t (.agg #[]))
 | ptr (t:TypeId) (b:Nat) (cs:Array Value) (t':TypeId) (h:aMr t) (hb:w.heap[b]?=some (.cells cs t')):NKey w (.iface t (.pointer (some ⟨b,0,none⟩)))
theorem NKey.turn {w} {A:World} {v} (h:NKey w v) (D:∀ t b,v=.iface t (.pointer (some ⟨b,0,none⟩))->A.heap[b]?=w.heap[b]?):NKey A v:=by
 cases h with
 | leaf t h=>exact .leaf t h
 | ptr t b cs t' h hb=>exact .ptr t b cs t' h ((D t b rfl).trans hb)
def jB:Value->Option (TypeId × Option Nat)
 | .iface t (.agg _)=>some (t,none)
 | .iface t (.pointer (some a))=>some (t,some a.block)
 | .pointer (some a)=>some (0,some a.block)
 | _=>none
def kEq (x y:Value):Bool:=
 match jB x,jB y with
 | some a,some b=>a==b
 | _,_=>false
theorem xL (x y):kEq x y=kEq y x:=by
 unfold kEq;cases jB x<;>cases jB y<;>simp [Bool.beq_comm]
theorem aEo {x y} (h:kEq x y=true):∃ c,jB x=some c/\jB y=some c:=by
 unfold kEq at h;cases A:jB x with
 | none=>rw [A] at h;cases h
 | some a=>
   cases D:jB y with
   | none=>rw [A,D] at h;cases h
   | some b=>
     rw [A,D] at h;simp at h;exact ⟨a,rfl,by rw [h]⟩
theorem aMK {x y} {c:TypeId × Option Nat} (h:jB x=some c) (A:jB y=some c):kEq x y=true:=by
 unfold kEq;rw [h,A];simp
theorem sM {x y z} (h:kEq x y=true) (G:kEq y z=true):kEq x z=true:=by
 obtain ⟨c,E,H⟩:=aEo h;obtain ⟨d,A,D⟩:=aEo G;rw [H] at A;cases A;exact aMK E D
theorem wL {w:World} {a b:Nat} {E G:Array Value} {A H:TypeId} (D:w.heap[a]?=some (.cells E A)) (I:w.heap[b]?=some (.cells G H)) :
  (sameAddr ⟨a,0,none⟩ ⟨b,0,none⟩).run prog w=.ok (a==b) w:=by
 by_cases h:a=b
 .subst h;simp [sameAddr]
 .have J:(a==b)=false:=(by simpa using h);have N:w.shape? a=some (A,E.size):=(by simp [shape?,D]);have M:w.shape? b=some (H,G.size):=(by simp [shape?,I]);simp [sameAddr,J,go_sem,noView,viewAt,mayBeOne,stringish,N,M,D,I,frozen?]
theorem aFJ (t) (h:aMr t) (a b:Addr) (w:World):(Op.equal 63 (.iface t (.pointer (some a))) (.iface t (.pointer (some b)))).run prog w=(sameAddr a b).run prog w:=by
 rcases h with rfl | rfl | rfl | rfl | rfl<;>kernel_rfl
theorem aLr (t A) (h:aGQ t) (D:aGQ A) (w:World):(Op.equal 63 (.iface t (.agg #[])) (.iface A (.agg #[]))).run prog w=.ok (t==A) w:=by
 rcases h with rfl | rfl | rfl | rfl | rfl<;>rcases D with rfl | rfl | rfl | rfl | rfl<;>kernel_rfl
theorem aC2 (t A:TypeId) (x y:Value) (h:t≠A) (w:World):(Op.equal 63 (.iface t x) (.iface A y)).run prog w=.ok false w:=by
 unfold Op.equal Op.maxDepth;rw [show (10000:Nat)=9999+1 from rfl];generalize 9999=d;simp [Op.equalIn,go_sem,h]
theorem wB {t} (h:aGQ t) (A:aMr t):False:=by
 rcases h with rfl | rfl | rfl | rfl | rfl<;>rcases A with h | h | h | h | h<;>cases h
theorem aDs {w k D} (h:NKey w k) (A:NKey w D):(Op.equal 63 k D).run prog w=.ok (kEq k D) w:=by
 cases h with
 | leaf t h=>
   cases A with
   | leaf t' A=>rw [aLr t t' h A w];congr 1;rw [Bool.eq_iff_iff];simp [kEq,jB]
   | ptr t' b cs t'' A hb=>rw [aC2 t t' _ _ (fun e=>wB (by rw [e] at h;exact h) A) w];simp [kEq,jB]
 | ptr t b cs t'' h hb=>
   cases A with
   | leaf t' A=>rw [aC2 t t' _ _ (fun e=>wB A (by rw [e] at h;exact h)) w];simp [kEq,jB]
   | ptr t' b' cs' t3 A hb'=>
     by_cases e:t=t'
     .subst e;rw [aFJ t h,wL hb hb'];congr 1;rw [Bool.eq_iff_iff];simp [kEq,jB]
     .rw [aC2 t t' _ _ e];simp [kEq,jB,e]
theorem oH {w k D} (h:NKey w k) (A:NKey w D):kEq k D=true ↔ k=D:=by
 cases h with
 | leaf t h=>
   cases A with
   | leaf t' A=>simp [kEq,jB]
   | ptr t' b cs t'' A hb=>simp [kEq,jB]
 | ptr t b cs t'' h hb=>
   cases A with
   | leaf t' A=>simp [kEq,jB]
   | ptr t' b' cs' t3 A hb'=>simp [kEq,jB]
theorem kEq_self {w k} (h:NKey w k):kEq k k=true:=(oH h h).2 rfl
def dE (k:Value):List MapEntry->Nat->Option (Nat × Value)
 | [],_=>none
 | e::es,i=>if kEq k e.key then some (i,e.val) else dE k es (i+1)
theorem iN {w k} (h:NKey w k):∀ (A:List MapEntry) (i:Nat),(∀ e∈A,NKey w e.key)->(Instr.findAsking 63 k A i).run prog w=.ok (dE k A i) w
 | [],i,_=>by simp [Instr.findAsking,dE]
 | e::A,i,he=>by
   have G:=aDs h (he e (mem_cons_self ..));have D:=iN h A (i+1) (fun x E=>he x (mem_cons_of_mem _ E));simp only [Instr.findAsking,dE,Sem.run_bind,G,Result.andThen_ok];cases kEq k e.key
   .simpa using D
   .simp
theorem mD {w k} (h:NKey w k) (A:List MapEntry) (E:∀ e∈A,NKey w e.key):(Instr.findKey 63 k A).run prog w=.ok (dE k A 0) w:=by
 have D:=iN h A 0 E;unfold Instr.findKey;rw [Sem.run_bind,run_underlying underlying63,Result.andThen_ok];cases A with
 | nil=>simp [Instr.findNow,dE]
 | cons e A=>
   simp only [Instr.findNow,Instr.sameNow];exact D
theorem lA {w k} (h:NKey w k) (e):(Instr.checkKey e 10000 63 k).run prog w=.ok () w:=by
 cases h with
 | leaf t h=>rcases h with rfl | rfl | rfl | rfl | rfl<;>kernel_rfl
 | ptr t b cs t' h hb=>rcases h with rfl | rfl | rfl | rfl | rfl<;>kernel_rfl
def MapIs (w:World) (b:Nat) (f:Value->Option Value) (n:Nat):Prop:=
 ∃ es clock,w.heap[b]?=some (.map es clock)/\es.size=n/\(∀ e∈es.toList,NKey w e.key)/\∀ k,(dE k es.toList 0).map (·.2)=f k
theorem fB (k):∀ (h:List MapEntry) (i:Nat),dE k h i=(dE k h 0).map (fun x=>(x.1+i,x.2))
 | [],i=>by simp [dE]
 | e::h,i=>by
   simp only [dE];rw [fB k h (i+1),fB k h (0+1)];cases kEq k e.key
   .simp only [Bool.false_eq_true,if_false,Option.map_map];congr 1
    funext x
    simp;omega
   .simp
theorem aBj {w:World} {k} : ∀ (h:List MapEntry) (e:MapEntry) (i:Nat),dE k (h++[e]) i=match dE k h i with | some x=>some x | none=>if kEq k e.key then some (i+h.length,e.val) else none
 | [],e,i=>by simp [dE]
 | d::h,e,i=>by
   simp only [cons_append,dE];cases kEq k d.key
   .simp only [Bool.false_eq_true,if_false];rw [aBj (w:=w) h e (i+1)];simp only [length_cons];rw [show i+1+h.length=i+(h.length+1) by omega]
   .simp
theorem mapIs_made (w:World):MapIs (w.alloc (.map #[] 0)) w.heap.size (fun _=>none) 0:=
 ⟨#[],0,heap_alloc_new _ _,rfl,by simp,fun k=>by simp [dE]⟩
theorem MapIs.run_lookup {w b n} {f:Value->Option Value} (h:MapIs w b f n) {t} {e:TypeId} (J:prog.underlying t=some (.map 63 e)) {z:Value} (O:(zeroValue e).run prog w=.ok z w) {k} (H:NKey w k) :
  (Instr.lookup t (.map (some b)) k false).run prog w=.ok ((f k).getD z) w:=by
 obtain ⟨G,E,N,Z,S,Y⟩:=h;have D:=mD H G.toList S;have A:=Y k;have M:=lA H G.isEmpty;cases I:dE k G.toList 0 with
 | none=>
   rw [I] at A D;simp only [Option.map_none] at A;rw [<- A];simp [Instr.lookup,run_underlying J,MapKept.run_getObj_map N,M,D,O]
 | some x=>
   rw [I] at A D;simp only [Option.map_some] at A;rw [<- A];simp [Instr.lookup,run_underlying J,MapKept.run_getObj_map N,M,D]
theorem MapIs.lt {w b n} {f:Value->Option Value} (h:MapIs w b f n):b<w.heap.size:=by
 obtain ⟨E,A,D,_⟩:=h;exact (Array.getElem?_eq_some_iff.1 D).1
theorem mC {w k k'} {x:Value} (I:NKey w k):∀ (l:List MapEntry) (i:Nat) (v:Value),(∀ e∈l,NKey w e.key)->dE k l 0=some (i,v)->
  (dE k' (l.modify i fun e=>{ e with key:=k,val:=x }) 0).map (·.2)=if kEq k k' then some x else (dE k' l 0).map (·.2)
 | [],i,v,_,h=>by simp [dE] at h
 | e::es,i,v,he,h=>by
   have E:=he e (mem_cons_self ..);simp only [dE] at h;cases A:kEq k e.key with
   | true=>
     rw [A] at h;simp only [if_true,Option.some.injEq,Prod.mk.injEq] at h;obtain ⟨rfl,_⟩:=h;have H:=(oH I E).1 A;rw [modify_zero_cons];simp only [dE];rw [<- H,xL k' k];cases kEq k k'<;>simp
   | false=>
     rw [A] at h;simp only [Bool.false_eq_true,if_false] at h;rw [fB] at h;cases G:dE k es 0 with
     | none=>rw [G] at h;cases h
     | some y=>
       obtain ⟨j,u⟩:=y;rw [G] at h;simp only [Option.map_some,Option.some.injEq,Prod.mk.injEq] at h;obtain ⟨N,S⟩:=h;subst N;have O:=mC (k':=k') (x:=x) I es j u (fun z J=>he z (mem_cons_of_mem _ J)) G;rw [show 0+1=1 from rfl,modify_succ_cons];simp only [dE];cases D:kEq k' e.key with
       | true=>
         have M:kEq k k'=false:=by
          rw [Bool.eq_false_iff];intro h;rw [sM h D] at A;cases A
         simp [M]
       | false=>
         simp only [Bool.false_eq_true,if_false];rw [fB k' _ (0+1),fB k' es (0+1)];simpa [Option.map_map,Function.comp_def] using O
theorem qC {w k} (h:NKey w k):Instr.sameBits 10000 k k=true:=by
 rw [show (10000:Nat)=9998+1+1 from rfl];generalize 9998=d;cases h<;>simp [Instr.sameBits]
theorem xW {w k} (h:NKey w k):(Instr.keyThatStays k k).run prog w=.ok k w:=by
 simp [Instr.keyThatStays,qC h]
theorem vS {w k} (E:NKey w k):∀ (l:List MapEntry) (i:Nat) (v:Value),(∀ e∈l,NKey w e.key)->dE k l 0=some (i,v)->∃ e,l[i]?=some e/\e.key=k
 | [],i,v,_,h=>by simp [dE] at h
 | e::es,i,v,he,h=>by
   simp only [dE] at h;cases D:kEq k e.key with
   | true=>
     rw [D] at h;simp only [if_true,Option.some.injEq,Prod.mk.injEq] at h;obtain ⟨rfl,_⟩:=h;exact ⟨e,rfl,((oH E (he e (mem_cons_self ..))).1 D).symm⟩
   | false=>
     rw [D] at h;simp only [Bool.false_eq_true,if_false] at h;rw [fB] at h;cases A:dE k es 0 with
     | none=>rw [A] at h;cases h
     | some y=>
       obtain ⟨j,u⟩:=y;rw [A] at h;simp only [Option.map_some,Option.some.injEq,Prod.mk.injEq] at h;obtain ⟨I,M⟩:=h;subst I;obtain ⟨d,J,H⟩:=vS E es j u (fun z G=>he z (mem_cons_of_mem _ G)) A;exact ⟨d,by simpa using J,H⟩
theorem NKey.set {w:World} {b:Nat} {E:Array MapEntry} {c:Nat} (A:w.heap[b]?=some (.map E c)) (o) {v} (h:NKey w v):NKey { w with heap:=w.heap.setIfInBounds b o } v:=
 h.turn fun t k e=>by
  refine (MapKept.heap_set A).2 k fun D=>?_;cases h with
  | leaf t h=>cases e
  | ptr t b' cs t' h hb'=>
    cases e;rw [D,A] at hb';cases hb'
theorem NKey.K {w w' v} (h:NKey w v) (A:w.grownBy w' none):NKey w' v:=by
 cases h with
 | leaf t h=>exact .leaf t h
 | ptr t b cs t' h hb=>exact .ptr t b cs t' h ((A.block b (Array.getElem?_eq_some_iff.1 hb).1 (by simp)).trans hb)
theorem MapIs.K {w w' b n} {f:Value->Option Value} (h:MapIs w b f n) (E:w.grownBy w' none):MapIs w' b f n:=by
 have D:=h.lt;obtain ⟨I,A,M,H,G,N⟩:=h;exact ⟨I,A,(E.block b D (by simp)).trans M,H,fun e J=>(G e J).K E,N⟩
theorem MapIs.run_update {w b n} {f:Value->Option Value} (h:MapIs w b f n) {t} {e:TypeId} (ht:prog.underlying t=some (.map 63 e)) {k} (N:NKey w k) (x) :
  ∃ w',(Instr.mapUpdate t (.map (some b)) k x).run prog w=.ok () w'/\MapIs w' b (fun A=>if kEq k A then some x else f A) (if (f k).isSome then n else n+1)/\w.grownBy w' (some b):=by
 obtain ⟨M,a6,D,hn,Z,hl⟩:=h;have h1:=mD N M.toList Z;have I:=hl k;have h3:=lA N false;have S:∀ o,w.grownBy { w with heap:=w.heap.setIfInBounds b o } (some b):=fun o=>⟨rfl,rfl,rfl,by simp,fun i _ G=>(MapKept.heap_set D).2 i (fun e=>G (by rw [e]))⟩;cases Y:dE k M.toList 0 with
 | none=>
   rw [Y] at I h1;simp only [Option.map_none] at I;refine ⟨_,by simp [Instr.mapUpdate,run_underlying ht,MapKept.run_getObj_map D,h3,h1,MapKept.run_setObj_map _ D];rfl,⟨_,_,(MapKept.heap_set D).1,?_,?_,?_⟩,S _⟩
   .rw [<- I];simp [hn]
   .intro z E;rw [Array.toList_push] at E;rcases mem_append.1 E with E | E
    .exact (Z z E).set D _
    .simp only [mem_singleton] at E;subst E;exact N.set D _
   .intro A;rw [Array.toList_push,aBj (w:=w)];have O:=hl A;cases hy:dE A M.toList 0 with
    | none=>
      rw [hy] at O;simp only [Option.map_none] at O;dsimp only;rw [<- O,xL A k];cases kEq k A<;>simp
    | some y=>
      rw [hy] at O;simp only [Option.map_some] at O ⊢
      have e2:kEq k A=false:=by
       rw [Bool.eq_false_iff];intro h
       have hn:∀ (l:List MapEntry) (i:Nat),dE k l i=none->dE A l i=none:=by
        intro l
        induction l with
        | nil=>intro i _;rfl
        | cons d l IH=>
          intro i G;simp only [dE] at G ⊢;cases H:kEq k d.key with
          | true=>rw [H] at G;simp at G
          | false=>
            rw [H] at G;simp only [Bool.false_eq_true,if_false] at G
            have:kEq A d.key=false:=by
             rw [Bool.eq_false_iff];intro I;rw [sM h I] at H;cases H
            rw [this];simp only [Bool.false_eq_true,if_false];exact IH (i+1) G
       rw [hn _ _ Y] at hy;cases hy
      rw [e2];simpa using O
 | some y=>
   obtain ⟨i,v⟩:=y;rw [Y] at I h1;simp only [Option.map_some] at I;obtain ⟨d,hd,a7⟩:=vS N M.toList i v Z Y;have a4:M[i]?=some d:=(by rw [<- Array.getElem?_toList];exact hd);refine ⟨_,by simp [Instr.mapUpdate,run_underlying ht,MapKept.run_getObj_map D,h3,h1,a4,a7,xW N,MapKept.run_setObj_map _ D];rfl,⟨_,_,(MapKept.heap_set D).1,?_,?_,?_⟩,S _⟩
   .rw [<- I];simp [hn]
   .intro z E;rw [Array.toList_modify] at E;obtain ⟨j,J⟩:=mem_iff_getElem?.1 E;rw [getElem?_modify] at J;cases H:M.toList[j]? with
    | none=>rw [H] at J;simp at J
    | some q=>
      rw [H] at J;simp only [Option.map_eq_map,Option.map_some,Option.some.injEq] at J
      split at J
      .subst J;exact N.set D _
      .subst J;exact (Z q (mem_of_getElem? H)).set D _
   .intro A;rw [Array.toList_modify,mC N M.toList i v Z Y,hl A]
theorem wpList_mapUpdate_node (w) {G h} {o:Oper} {a:Act} {Q:Exit->Act->World->Prop} (S:o.guard=none) (m x v t) (J:o.op=Op.mapUpdate t m x v) (e:TypeId) (ht:prog.underlying t=some (.map 63 e)) (b:Nat) (n) (f:Value->Option Value) (hm:a.eval m=.map (some b)) (A:MapIs w b f n) (key val:Value) (hx:a.eval x=key) (Y:a.eval v=val) (H:NKey w key) (N:∀ E,MapIs E b (fun M=>if kEq key M then some val else f M) (if (f key).isSome then n else n+1)->w.grownBy E (some b)->wpList prog G Q h (a.put o.dst undef) E) :
  wpList prog G Q (o::h) a w:=by
 refine wpList_plain S fun K' I=>?_;obtain ⟨E,D,O,Z⟩:=A.run_update ht H val;unfold Oper.wp;simp [execOp,J,hm,hx,Y,D,Result.andThen];exact I _ _ (N E O Z)
def aJy (B:Nat) (w:World) (pre:List Value):Value->Tr->Prop
 | v,.leaf p=>Rep (fun _=>False) B w v (.leaf p)
 | v,.un p x=>∃ b u,b<w.heap.size/\w.cell? ⟨b,0,none⟩=some u/\Rep (fun _=>False) B w u x/\u∈pre/\
   ((p.k=8/\v=.iface 177 (.pointer (some ⟨b,0,none⟩)))\/(p.k=7/\v=.iface 172 (.pointer (some ⟨b,0,none⟩))/\w.cell? ⟨b,1,none⟩=some (.int .i64 p.n)))
 | v,.bin p x y=>∃ b u u',b<w.heap.size/\w.cell? ⟨b,0,none⟩=some u/\w.cell? ⟨b,1,none⟩=some u'/\Rep (fun _=>False) B w u x/\Rep (fun _=>False) B w u' y/\u∈pre/\u'∈pre/\
   ((p.k=6/\v=.iface 180 (.pointer (some ⟨b,0,none⟩)))\/(p.k=9/\v=.iface 184 (.pointer (some ⟨b,0,none⟩))))
theorem aJy.more {B w} {D:List Value} {A} (h:∀ v∈D,v∈A):∀ {T:Tr} {v:Value},aJy B w D v T->aJy B w A v T
 | .leaf _,_,e=>e
 | .un _ _,_,⟨b,u,h1,h2,h3,h4,h5⟩=>⟨b,u,h1,h2,h3,h u h4,h5⟩
 | .bin _ _ _,_,⟨b,u,u',h1,h2,h2',h3,h3',h4,h4',h5⟩=>⟨b,u,u',h1,h2,h2',h3,h3',h u h4,h u' h4',h5⟩
theorem aCg {B w} : ∀ {T:Tr} {v:Value} {l:List Value},Rep (fun _=>False) B w v T->cU w v T l->∃ N,l=N++[v]/\aJy B w N v T
 | .leaf p,v,l,hr,hp=>⟨[],by simpa [cU] using hp,hr⟩
 | .un p x,v,l,hr,hp=>by
   simp only [Rep] at hr;simp only [cU] at hp;obtain ⟨b0,u0,h3,h4,E,h6,h⟩:=hr;obtain ⟨t,b,u,Z,hv,G,k2,k3,O⟩:=hp
   have D:b=b0:=by
    rcases h with ⟨_,h⟩ | ⟨_,h⟩<;>(rw [hv] at h;simp at h;exact h.2)
   subst D;have S:u0=u:=(by rw [E] at G;exact Option.some.inj G);subst S;obtain ⟨N,A⟩:=k3.last;refine ⟨Z,O,b,u0,h4,E,h6,by rw [A];simp,?_⟩;rcases h with ⟨h,Y⟩ | ⟨h,Y⟩
   .exact .inl ⟨h,Y⟩
   .exact .inr ⟨h,Y,k2 h⟩
 | .bin p x y,v,l,hr,hp=>by
   simp only [Rep] at hr;simp only [cU] at hp;obtain ⟨b0,u0,M,h3,h4,E,J,h6,a4,h⟩:=hr;obtain ⟨t,b,u,u',Z,l2,hv,G,H,k3,a5,O⟩:=hp
   have D:b=b0:=by
    rcases h with ⟨_,h⟩ | ⟨_,h⟩<;>(rw [hv] at h;simp at h;exact h.2)
   subst D;have S:u0=u:=(by rw [E] at G;exact Option.some.inj G);have a0:M=u':=(by rw [J] at H;exact Option.some.inj H);subst S a0;obtain ⟨N,A⟩:=k3.last;obtain ⟨a8,I⟩:=a5.last;exact ⟨Z++l2,O,b,u0,M,h4,E,J,h6,a4,by rw [A];simp,by rw [I];simp,h⟩
theorem lL {B w} : ∀ {T:Tr} {v:Value} {l:List Value},Rep (fun _=>False) B w v T->cU w v T l->∀ (i:Nat) (u:Value),l[i]?=some u->∃ A,aJy B w (l.take i) u A/\Rep (fun _=>False) B w u A/\sz A<=sz T
 | .leaf p,v,l,hr,hp,i,u,hi=>by
   simp only [cU] at hp;subst hp
   match i,hi with
   | 0,hi=>
     simp at hi;subst hi;exact ⟨.leaf p,hr,hr,Nat.le_refl _⟩
 | .un p x,v,l,hr,hp,i,u,hi=>by
   obtain ⟨l',J,he⟩:=aCg hr hp;have E:=hr;simp only [Rep] at hr;simp only [cU] at hp;obtain ⟨b0,u0,h3,h4,h5,h6,h⟩:=hr;obtain ⟨t,b,u1,M,hv,O,k2,k3,D⟩:=hp
   have N:b=b0:=by
    rcases h with ⟨_,h⟩ | ⟨_,h⟩<;>(rw [hv] at h;simp at h;exact h.2)
   subst N;have hu:u0=u1:=(by rw [h5] at O;exact Option.some.inj O);subst hu;have G:l'=M:=(by rw [J] at D;simpa using D);subst G;subst D
   by_cases H:i<l'.length
   .rw [getElem?_append_left H] at hi;obtain ⟨A,S,Z,e3⟩:=lL h6 k3 i u hi;rw [take_append_of_le_length (by omega)];exact ⟨A,S,Z,by simp only [sz];omega⟩
   .have I:i=l'.length:=by
     have:=(List.getElem?_eq_some_iff.1 hi).1;simp at this;omega
    subst I;rw [getElem?_append_right (Nat.le_refl _)] at hi;simp at hi;subst hi;exact ⟨.un p x,by simpa using he,E,Nat.le_refl _⟩
 | .bin p x y,v,l,hr,hp,i,u,hi=>by
   obtain ⟨l',J,he⟩:=aCg hr hp;have E:=hr;simp only [Rep] at hr;simp only [cU] at hp;obtain ⟨b0,u0,a6,h3,h4,h5,a5,h6,b2,h⟩:=hr;obtain ⟨t,b,u1,a2,M,l2,hv,O,Y,k3,b3,D⟩:=hp
   have N:b=b0:=by
    rcases h with ⟨_,h⟩ | ⟨_,h⟩<;>(rw [hv] at h;simp at h;exact h.2)
   subst N;have hu:u0=u1:=(by rw [h5] at O;exact Option.some.inj O);have a7:a6=a2:=(by rw [a5] at Y;exact Option.some.inj Y);subst hu a7;have G:l'=M++l2:=(by rw [J] at D;exact append_cancel_right D);subst G;subst D
   by_cases H:i<M.length
   .rw [append_assoc,getElem?_append_left H] at hi;obtain ⟨A,S,Z,e3⟩:=lL h6 k3 i u hi;rw [append_assoc,take_append_of_le_length (by omega)];exact ⟨A,S,Z,by simp only [sz];omega⟩
   .by_cases b6:i<M.length+l2.length
    .rw [append_assoc,getElem?_append_right (by omega),getElem?_append_left (by omega)] at hi;obtain ⟨A,S,Z,e3⟩:=lL b2 b3 (i - M.length) u hi;refine ⟨A,S.more ?_,Z,by simp only [sz];omega⟩;intro z hz;rw [append_assoc,take_append];refine mem_append_right _ ?_;rw [take_append_of_le_length (by omega)];exact hz
    .have I:i=(M++l2).length:=by
      have:=(List.getElem?_eq_some_iff.1 hi).1;simp at this ⊢;omega
     subst I;rw [getElem?_append_right (Nat.le_refl _)] at hi;simp at hi;subst hi;exact ⟨.bin p x y,by rw [take_left];exact he,E,Nat.le_refl _⟩
def Sim:Tr->Tr->Prop
 | .leaf p,.leaf q=>p.k=q.k/\(p.k=1->aF p.t=aF q.t)
 | .un p x,.un q y=>p.k=q.k/\Sim x y
 | .bin p x x',.bin q y y'=>p.k=q.k/\Sim x y/\Sim x' y'
 | _,_=>False
def flatW:Tr->Int
 | .leaf p=>if p.k=1 then aF p.t else if p.k=2 then 1 else if p.k=4\/p.k=5 then -1 else 0
 | .un _ x=>flatW x
 | .bin p x y=>if p.k=6 then (if flatW x = -1\/flatW y = -1 then -1 else flatW x+flatW y) else flatW y
theorem Sim.flatW:∀ {T D:Tr},Sim T D->flatW T=flatW D
 | .leaf p,.leaf q,h=>by
   simp only [Sim] at h;simp only [Proofs.YtckcaefnokeodaaGreatDoor.flatW,h.1]
   by_cases A:q.k=1
   .rw [if_pos A,if_pos A,h.2 (by rw [h.1];exact A)]
   .rw [if_neg A,if_neg A]
 | .un _ x,.un _ y,h=>by simp only [Proofs.YtckcaefnokeodaaGreatDoor.flatW];exact Sim.flatW h.2
 | .bin p x x',.bin q y y',h=>by
   simp only [Proofs.YtckcaefnokeodaaGreatDoor.flatW,h.1,Sim.flatW h.2.1,Sim.flatW h.2.2]
 | .leaf _,.un _ _,h=>h.elim
 | .leaf _,.bin _ _ _,h=>h.elim
 | .un _ _,.leaf _,h=>h.elim
 | .un _ _,.bin _ _ _,h=>h.elim
 | .bin _ _ _,.leaf _,h=>h.elim
 | .bin _ _ _,.un _ _,h=>h.elim
theorem Sim.leadT:∀ {T D:Tr},Sim T D->leadT T=leadT D
 | .leaf p,.leaf q,h=>by
   simp only [Sim] at h;simp only [Proofs.YtckcaefnokeodaaGreatDoor.leadT,h.1]
   by_cases A:q.k=1
   .rw [if_pos A,if_pos A,h.2 (by rw [h.1];exact A)]
   .rw [if_neg A,if_neg A]
 | .un _ x,.un _ y,h=>by simp only [Proofs.YtckcaefnokeodaaGreatDoor.leadT];exact Sim.leadT h.2
 | .bin p x x',.bin q y y',h=>by
   simp only [Proofs.YtckcaefnokeodaaGreatDoor.leadT,h.1,Sim.leadT h.2.1,Sim.leadT h.2.2]
 | .leaf _,.un _ _,h=>h.elim
 | .leaf _,.bin _ _ _,h=>h.elim
 | .un _ _,.leaf _,h=>h.elim
 | .un _ _,.bin _ _ _,h=>h.elim
 | .bin _ _ _,.leaf _,h=>h.elim
 | .bin _ _ _,.un _ _,h=>h.elim
theorem vY {X:Nat->Prop} {B w} : ∀ {T T':Tr} {v:Value},Rep X B w v T->Rep X B w v T'->Sim T T'
 | .leaf p,.leaf q,v,h,D=>by
   simp only [Rep] at h D;simp only [Sim];rcases h with h | h | h | h | h | ⟨h1,b,tv,O,_,_,Z,_⟩<;>rcases D with D | D | D | D | D | ⟨b1,S,b3,a3,_,_,E,_⟩
   all_goals first
    | (exfalso;have:=h.2.symm.trans D.2;simp at this;done)
    | (exfalso;have:=h.2.symm.trans a3;simp at this;done)
    | (exfalso;have:=O.symm.trans D.2;simp at this;done)
    | (have hh:=h.1.trans D.1.symm;exact ⟨hh,fun e=>by rw [h.1] at e;simp at e⟩)
    | skip
   have e:=O.symm.trans a3;simp only [Value.iface.injEq,Value.pointer.injEq,Option.some.injEq,Addr.mk.injEq,and_true,true_and] at e;subst e;rw [Z] at E;refine ⟨by rw [h1,b1],fun _=>?_⟩;simp at E;exact E.2
 | .un p x,.un q y,v,h,D=>by
   simp only [Rep] at h D;simp only [Sim];obtain ⟨b,u,_,_,Z,h6,H⟩:=h;obtain ⟨S,Y,_,_,E,I,A⟩:=D
   have e:b=S/\p.k=q.k:=by
    rcases H with ⟨H,h8⟩ | ⟨H,h8⟩<;>rcases A with ⟨A,M⟩ | ⟨A,M⟩<;>(have e:=h8.symm.trans M;simp at e)<;>exact ⟨e,by rw [H,A]⟩
   obtain ⟨e1,e2⟩:=e;subst e1;have hu:u=Y:=(by rw [Z] at E;exact Option.some.inj E);subst hu;exact ⟨e2,vY h6 I⟩
 | .bin p x x2,.bin q y y2,v,h,D=>by
   simp only [Rep] at h D;simp only [Sim];obtain ⟨b,u,u2,_,_,Z,a6,h6,a9,H⟩:=h;obtain ⟨S,Y,N,_,_,E,G,I,J,A⟩:=D
   have e:b=S/\p.k=q.k:=by
    rcases H with ⟨H,h8⟩ | ⟨H,h8⟩<;>rcases A with ⟨A,M⟩ | ⟨A,M⟩<;>(have e:=h8.symm.trans M;simp at e)<;>exact ⟨e,by rw [H,A]⟩
   obtain ⟨e1,e2⟩:=e;subst e1;have hu:u=Y:=(by rw [Z] at E;exact Option.some.inj E);have a8:u2=N:=(by rw [a6] at G;exact Option.some.inj G);subst hu a8;exact ⟨e2,vY h6 I,vY a9 J⟩
 | .leaf p,.un q y,v,h,D=>by
   exfalso;simp only [Rep] at h D;obtain ⟨S,Y,_,_,E,I,A⟩:=D;rcases h with h | h | h | h | h | ⟨h1,b,tv,O,_⟩<;>rcases A with ⟨_,A⟩ | ⟨_,A⟩
   all_goals first
    | (have:=h.2.symm.trans A;simp at this)
    | (have:=O.symm.trans A;simp at this)
 | .leaf p,.bin q y y2,v,h,D=>by
   exfalso;simp only [Rep] at h D;obtain ⟨S,Y,N,_,_,E,G,I,J,A⟩:=D;rcases h with h | h | h | h | h | ⟨h1,b,tv,O,_⟩<;>rcases A with ⟨_,A⟩ | ⟨_,A⟩
   all_goals first
    | (have:=h.2.symm.trans A;simp at this)
    | (have:=O.symm.trans A;simp at this)
 | .un q y,.leaf p,v,D,h=>by
   exfalso;simp only [Rep] at h D;obtain ⟨S,Y,_,_,E,I,A⟩:=D;rcases h with h | h | h | h | h | ⟨h1,b,tv,O,_⟩<;>rcases A with ⟨_,A⟩ | ⟨_,A⟩
   all_goals first
    | (have:=h.2.symm.trans A;simp at this)
    | (have:=O.symm.trans A;simp at this)
 | .bin q y y2,.leaf p,v,D,h=>by
   exfalso;simp only [Rep] at h D;obtain ⟨S,Y,N,_,_,E,G,I,J,A⟩:=D;rcases h with h | h | h | h | h | ⟨h1,b,tv,O,_⟩<;>rcases A with ⟨_,A⟩ | ⟨_,A⟩
   all_goals first
    | (have:=h.2.symm.trans A;simp at this)
    | (have:=O.symm.trans A;simp at this)
 | .un p x,.bin q y y2,v,h,D=>by
   exfalso;simp only [Rep] at h D;obtain ⟨b,u,_,_,Z,h6,H⟩:=h;obtain ⟨S,Y,N,_,_,E,G,I,J,A⟩:=D;rcases H with ⟨_,H⟩ | ⟨_,H⟩<;>rcases A with ⟨_,A⟩ | ⟨_,A⟩<;>(have:=H.symm.trans A;simp at this)
 | .bin q y y2,.un p x,v,D,h=>by
   exfalso;simp only [Rep] at h D;obtain ⟨b,u,_,_,Z,h6,H⟩:=h;obtain ⟨S,Y,N,_,_,E,G,I,J,A⟩:=D;rcases H with ⟨_,H⟩ | ⟨_,H⟩<;>rcases A with ⟨_,A⟩ | ⟨_,A⟩<;>(have:=H.symm.trans A;simp at this)
theorem mE (h:∀ t,-1<=aF t/\aF t<=t.length):∀ (T:Tr),-1<=flatW T/\flatW T<=sz T
 | .leaf p=>by
   have:=h p.t;simp only [flatW,sz]
   split
   .omega
   .split
    .omega
    .split<;>omega
 | .un p x=>by
   have:=mE h x;simp only [flatW,sz];omega
 | .bin p x y=>by
   have D:=mE h x;have A:=mE h y;simp only [flatW,sz]
   split
   .split<;>omega
   .omega
theorem jS {B w l} (G:lY (fun _=>False) w l) {v:Value} (A:v∈l) {T} (h:Rep (fun _=>False) B w v T):NKey w v:=by
 cases T with
 | leaf p=>
   simp only [Rep] at h;rcases h with h | h | h | h | h | ⟨O,b,N,M,_,_,J,_⟩
   .rw [h.2];exact .leaf _ (.inl rfl)
   .rw [h.2];exact .leaf _ (.inr (.inl rfl))
   .rw [h.2];exact .leaf _ (.inr (.inr (.inl rfl)))
   .rw [h.2];exact .leaf _ (.inr (.inr (.inr (.inl rfl))))
   .rw [h.2];exact .leaf _ (.inr (.inr (.inr (.inr rfl))))
   .rw [M];exact .ptr _ b _ _ (.inl rfl) J
 | un p x=>
   simp only [Rep] at h;obtain ⟨b,u,_,_,_,_,D | D⟩:=h
   .rw [D.2] at A ⊢;obtain ⟨_,I,H,E⟩:=G.lt _ _ A;exact .ptr _ b _ _ (.inr (.inl rfl)) E
   .rw [D.2] at A ⊢;obtain ⟨_,I,H,E⟩:=G.lt _ _ A;exact .ptr _ b _ _ (.inr (.inr (.inl rfl))) E
 | bin p x y=>
   simp only [Rep] at h;obtain ⟨b,u,S,_,_,_,_,_,_,D | D⟩:=h
   .rw [D.2] at A ⊢;obtain ⟨_,I,H,E⟩:=G.lt _ _ A;exact .ptr _ b _ _ (.inr (.inr (.inr (.inl rfl)))) E
   .rw [D.2] at A ⊢;obtain ⟨_,I,H,E⟩:=G.lt _ _ A;exact .ptr _ b _ _ (.inr (.inr (.inr (.inr rfl)))) E
end
section
open Go.RowKit Go.Shelf
section
variable {F:Fence} {n m:Nat} {P:Program}
end
end
open Go.RowKit
abbrev bF (T C:TypeId) (v z:Value):Prop:=∀ w:World,(Instr.typeAssert (.iface T v) 63 C true).run prog w=.ok (.tuple #[z,.bool false]) w
abbrev tU (T C:TypeId) (v:Value):Prop:=∀ w:World,(Instr.typeAssert (.iface T v) 63 C true).run prog w=.ok (.tuple #[v,.bool true]) w
theorem pL:tU 164 164 (.agg #[])/\bF 164 169 (.agg #[]) (.pointer none)/\bF 164 165 (.agg #[]) (.agg #[])/\bF 164 166 (.agg #[]) (.agg #[])/\bF 164 167 (.agg #[]) (.agg #[])/\bF 164 168 (.agg #[]) (.agg #[])/\bF 164 177 (.agg #[]) (.pointer none)/\bF 164 172 (.agg #[]) (.pointer none)/\bF 164 180 (.agg #[]) (.pointer none)/\bF 164 184 (.agg #[]) (.pointer none):=
 ⟨fun w=>by kernel_rfl,fun w=>by kernel_rfl,fun w=>by kernel_rfl,fun w=>by kernel_rfl,fun w=>by kernel_rfl,fun w=>by kernel_rfl,fun w=>by kernel_rfl,fun w=>by kernel_rfl,fun w=>by kernel_rfl,fun w=>by kernel_rfl⟩
theorem rX (v):bF 169 164 v (.agg #[])/\tU 169 169 v/\bF 169 165 v (.agg #[])/\bF 169 166 v (.agg #[])/\bF 169 167 v (.agg #[])/\bF 169 168 v (.agg #[])/\bF 169 177 v (.pointer none)/\bF 169 172 v (.pointer none)/\bF 169 180 v (.pointer none)/\bF 169 184 v (.pointer none):=
 ⟨fun w=>by kernel_rfl,fun w=>by kernel_rfl,fun w=>by kernel_rfl,fun w=>by kernel_rfl,fun w=>by kernel_rfl,fun w=>by kernel_rfl,fun w=>by kernel_rfl,fun w=>by kernel_rfl,fun w=>by kernel_rfl,fun w=>by kernel_rfl⟩
theorem rI:bF 165 164 (.agg #[]) (.agg #[])/\bF 165 169 (.agg #[]) (.pointer none)/\tU 165 165 (.agg #[])/\bF 165 166 (.agg #[]) (.agg #[])/\bF 165 167 (.agg #[]) (.agg #[])/\bF 165 168 (.agg #[]) (.agg #[])/\bF 165 177 (.agg #[]) (.pointer none)/\bF 165 172 (.agg #[]) (.pointer none)/\bF 165 180 (.agg #[]) (.pointer none)/\bF 165 184 (.agg #[]) (.pointer none):=
 ⟨fun w=>by kernel_rfl,fun w=>by kernel_rfl,fun w=>by kernel_rfl,fun w=>by kernel_rfl,fun w=>by kernel_rfl,fun w=>by kernel_rfl,fun w=>by kernel_rfl,fun w=>by kernel_rfl,fun w=>by kernel_rfl,fun w=>by kernel_rfl⟩
theorem rY:bF 166 164 (.agg #[]) (.agg #[])/\bF 166 169 (.agg #[]) (.pointer none)/\bF 166 165 (.agg #[]) (.agg #[])/\tU 166 166 (.agg #[])/\bF 166 167 (.agg #[]) (.agg #[])/\bF 166 168 (.agg #[]) (.agg #[])/\bF 166 177 (.agg #[]) (.pointer none)/\bF 166 172 (.agg #[]) (.pointer none)/\bF 166 180 (.agg #[]) (.pointer none)/\bF 166 184 (.agg #[]) (.pointer none):=
 ⟨fun w=>by kernel_rfl,fun w=>by kernel_rfl,fun w=>by kernel_rfl,fun w=>by kernel_rfl,fun w=>by kernel_rfl,fun w=>by kernel_rfl,fun w=>by kernel_rfl,fun w=>by kernel_rfl,fun w=>by kernel_rfl,fun w=>by kernel_rfl⟩
theorem wH:bF 167 164 (.agg #[]) (.agg #[])/\bF 167 169 (.agg #[]) (.pointer none)/\bF 167 165 (.agg #[]) (.agg #[])/\bF 167 166 (.agg #[]) (.agg #[])/\tU 167 167 (.agg #[])/\bF 167 168 (.agg #[]) (.agg #[])/\bF 167 177 (.agg #[]) (.pointer none)/\bF 167 172 (.agg #[]) (.pointer none)/\bF 167 180 (.agg #[]) (.pointer none)/\bF 167 184 (.agg #[]) (.pointer none):=
 ⟨fun w=>by kernel_rfl,fun w=>by kernel_rfl,fun w=>by kernel_rfl,fun w=>by kernel_rfl,fun w=>by kernel_rfl,fun w=>by kernel_rfl,fun w=>by kernel_rfl,fun w=>by kernel_rfl,fun w=>by kernel_rfl,fun w=>by kernel_rfl⟩
theorem zR:bF 168 164 (.agg #[]) (.agg #[])/\bF 168 169 (.agg #[]) (.pointer none)/\bF 168 165 (.agg #[]) (.agg #[])/\bF 168 166 (.agg #[]) (.agg #[])/\bF 168 167 (.agg #[]) (.agg #[])/\tU 168 168 (.agg #[])/\bF 168 177 (.agg #[]) (.pointer none)/\bF 168 172 (.agg #[]) (.pointer none)/\bF 168 180 (.agg #[]) (.pointer none)/\bF 168 184 (.agg #[]) (.pointer none):=
 ⟨fun w=>by kernel_rfl,fun w=>by kernel_rfl,fun w=>by kernel_rfl,fun w=>by kernel_rfl,fun w=>by kernel_rfl,fun w=>by kernel_rfl,fun w=>by kernel_rfl,fun w=>by kernel_rfl,fun w=>by kernel_rfl,fun w=>by kernel_rfl⟩
theorem pN (v):bF 177 164 v (.agg #[])/\bF 177 169 v (.pointer none)/\bF 177 165 v (.agg #[])/\bF 177 166 v (.agg #[])/\bF 177 167 v (.agg #[])/\bF 177 168 v (.agg #[])/\tU 177 177 v/\bF 177 172 v (.pointer none)/\bF 177 180 v (.pointer none)/\bF 177 184 v (.pointer none):=
 ⟨fun w=>by kernel_rfl,fun w=>by kernel_rfl,fun w=>by kernel_rfl,fun w=>by kernel_rfl,fun w=>by kernel_rfl,fun w=>by kernel_rfl,fun w=>by kernel_rfl,fun w=>by kernel_rfl,fun w=>by kernel_rfl,fun w=>by kernel_rfl⟩
theorem rB (v):bF 172 164 v (.agg #[])/\bF 172 169 v (.pointer none)/\bF 172 165 v (.agg #[])/\bF 172 166 v (.agg #[])/\bF 172 167 v (.agg #[])/\bF 172 168 v (.agg #[])/\bF 172 177 v (.pointer none)/\tU 172 172 v/\bF 172 180 v (.pointer none)/\bF 172 184 v (.pointer none):=
 ⟨fun w=>by kernel_rfl,fun w=>by kernel_rfl,fun w=>by kernel_rfl,fun w=>by kernel_rfl,fun w=>by kernel_rfl,fun w=>by kernel_rfl,fun w=>by kernel_rfl,fun w=>by kernel_rfl,fun w=>by kernel_rfl,fun w=>by kernel_rfl⟩
theorem vL (v):bF 180 164 v (.agg #[])/\bF 180 169 v (.pointer none)/\bF 180 165 v (.agg #[])/\bF 180 166 v (.agg #[])/\bF 180 167 v (.agg #[])/\bF 180 168 v (.agg #[])/\bF 180 177 v (.pointer none)/\bF 180 172 v (.pointer none)/\tU 180 180 v/\bF 180 184 v (.pointer none):=
 ⟨fun w=>by kernel_rfl,fun w=>by kernel_rfl,fun w=>by kernel_rfl,fun w=>by kernel_rfl,fun w=>by kernel_rfl,fun w=>by kernel_rfl,fun w=>by kernel_rfl,fun w=>by kernel_rfl,fun w=>by kernel_rfl,fun w=>by kernel_rfl⟩
theorem xA (v):bF 184 164 v (.agg #[])/\bF 184 169 v (.pointer none)/\bF 184 165 v (.agg #[])/\bF 184 166 v (.agg #[])/\bF 184 167 v (.agg #[])/\bF 184 168 v (.agg #[])/\bF 184 177 v (.pointer none)/\bF 184 172 v (.pointer none)/\bF 184 180 v (.pointer none)/\tU 184 184 v:=
 ⟨fun w=>by kernel_rfl,fun w=>by kernel_rfl,fun w=>by kernel_rfl,fun w=>by kernel_rfl,fun w=>by kernel_rfl,fun w=>by kernel_rfl,fun w=>by kernel_rfl,fun w=>by kernel_rfl,fun w=>by kernel_rfl,fun w=>by kernel_rfl⟩
theorem bL {p:Prop} (h:p):Hid p:=h
def uJ (B:Nat) (w:World) (l:List Value) (f:Value->Option Value) (F:Tr->Value):Prop:=∀ v∈l,∀ T,Rep (fun _=>False) B w v T->f v=some (F T)
theorem aEM {B w l} {f:Value->Option Value} {F:Tr->Value} (Y:∀ T D,Sim T D->F T=F D) (H:lY (fun _=>False) w l) {k:Nat} {v:Value} {D} (O:l[k]?=some v) (M:Rep (fun _=>False) B w v D) (h:uJ B w (l.take k) f F):uJ B w (l.take (k+1)) (fun S=>if kEq v S then some (F D) else f S) F:=by
 intro G I T J;have A:v∈l:=mem_of_getElem? O;have N:G∈l:=mem_of_mem_take I;dsimp only
 by_cases e:v=G
 .subst e;rw [if_pos (kEq_self (jS H A M)),Y _ _ (vY M J)]
 .have Z:kEq v G=false:=(by rw [Bool.eq_false_iff];exact fun h=>e ((oH (jS H A M) (jS H N J)).1 h));rw [if_neg (by rw [Z];simp)];refine h G ?_ T J;rw [take_add_one,O] at I;rcases mem_append.1 I with E | E
  .exact E
  .simp at E;exact absurd E.symm e
def fwV (T:Tr):Value:=.int .i64 (flatW T)
theorem aGh (T A) (h:Sim T A):fwV T=fwV A:=by unfold fwV;rw [h.flatW]
theorem aDz (a b:Int) (w) (I : -1<=a/\a<=1000000) (M : -1<=b/\b<=1000000) :
  Calls prog 109 #[.int .i64 a,.int .i64 b] w fun e G=>e=.returned (.int .i64 (if a = -1\/b = -1 then -1 else a+b))/\w=G:=by
 obtain ⟨R,h⟩:∃ R,R=if a = -1\/b = -1 then -1 else a+b:=⟨_,rfl⟩
 rw [<- h]
 by_cases D:a = -1
 .have A:Hid (R = -1):=(by unfold Hid;rw [h,if_pos (.inl D)]);clear h;subst D
  go_enter func109,ntmps109
  go_wp2;go_ret;exact ⟨by rw [A.out];rfl,rfl⟩
 .have J:(a == -1)=false:=by simpa using D
  by_cases E:b = -1
  .have A:Hid (R = -1):=(by unfold Hid;rw [h,if_pos (.inr E)]);clear h D;subst E
   go_enter func109,ntmps109
   go_wp2;go_ret;exact ⟨by rw [A.out];rfl,rfl⟩
  .have H:(b == -1)=false:=(by simpa using E);have A:Hid (R=a+b):=(by unfold Hid;rw [h,if_neg (by omega)]);clear D E h
   go_enter func109,ntmps109
   go_wp2;go_ret;exact ⟨by rw [A.out];go_num,rfl⟩
theorem aAl (B nv u0 T0) (l:List Value) (w:World) (b2:w.ownsRow B 63 1 nv l.length l) (hr:Rep (fun _=>False) B w u0 T0) (hp:cU w u0 T0 l) (ho:lY (fun _=>False) w l) (l2:sz T0<=140000) :
  Calls prog 64 #[nv] w fun e w'=>∃ f n,e=.returned (.map (some w.heap.size))/\MapIs w' w.heap.size f n/\uJ B w l f fwV/\w.grownBy w' none:=by
 obtain ⟨a,i8,i0,l4,h7⟩:=aZ b2;subst i0;unfold maxLen at h7;have HR:Hid (w.ownsRow B 63 1 (.slice a l.length i8) l.length l):=b2;have g6:Hid (Rep (fun _=>False) B w u0 T0):=hr;have j3:Hid (cU w u0 T0 l):=hp;have b3:Hid (lY (fun _=>False) w l):=ho;clear b2 hr hp ho
 have l6:(Instr.makeMap 69 (some (.int .i64 (l.length:Int)))).run prog w=.ok (.map (some w.heap.size)) (w.alloc (.map #[] 0)):=by
  simp [Instr.makeMap,run_underlying underlying69,asInt,asIntOf]
 go_enter func64,ntmps64
 go_wp2
 go_loopw [19] (fun i wr=>∃ (k:Nat) (f:Value->Option Value) (n:Nat),k<=l.length/\i=.int .i64 k/\MapIs wr w.heap.size f n/\Hid (uJ B w (l.take k) f fwV)/\w.grownBy wr none) (fun i _=>l.length - (intOf i).toNat)
 case atStart=>exact ⟨0,_,0,Nat.zero_le _,rfl,mapIs_made w,(by intro v hv;simp at hv),gWA⟩
 case round=>
  obtain ⟨k,f,n,hk,rfl,hM,HN,I⟩:=hrel
  by_cases i5:k<l.length
  .obtain ⟨v,hv⟩:∃ v,l[k]?=some v:=⟨_,getElem?_eq_getElem i5⟩;obtain ⟨T,he,H,d9⟩:=lL g6.out j3.out k v hv;have i3:v∈l:=mem_of_getElem? hv;have c9:=(jS b3.out i3 H).K I;have A:=bL (aEM aGh b3.out hv H HN.out);have l3:=mE gH T;rcases HR.out.2 with ⟨_,h0⟩ | ⟨g,cp,l5,g8,l9,g9,j8,k8,i7,i2⟩
   .omega
   cases g8;have d3:=ownsRow.cellAt HR.out k (by omega);rw [hv] at d3;have m0:=I.cell d3 (by simp);clear d3;have k5:=I.size;have k2:=hM.lt;have HM:=bL hM;have HK:=bL c9;have HG:=bL I;have a9:∀ w1,w.grownBy w1 none->∀ w2,w1.grownBy w2 (some w.heap.size)->w.grownBy w2 none:=fun w1 S w2 M=>bC S M (fun j e=>by cases e;exact Nat.le_refl _);have D:=bL a9;clear g9 i7 i2 hM c9 a9;cases T with
   | leaf p=>
     have d8:=H;simp only [Rep] at d8;rcases d8 with ⟨S,M⟩ | ⟨S,M⟩ | ⟨S,M⟩ | ⟨S,M⟩ | ⟨S,M⟩ | ⟨S,b,tv,M,_,h4,h5,_⟩
     .have Y:Hid (fwV (.leaf p)=.int .i64 (0)):=(by unfold Hid fwV;simp [flatW,S]);obtain ⟨f1,f2,f3,f4,f5,f6,f7,f8,f9,N⟩:=pL;subst M;clear H he HN hv I
      go_wp2_with (at_mapUpdate;refine wpList_mapUpdate_node _ rfl _ _ _ 69 rfl 3 underlying69 _ n f rfl HM.out _ _ rfl rfl HK.out ?_;intro w1 G E)
      go_roundw
      case rel=>exact ⟨k+1,_,_,by omega,by go_num,G,by rw [<- Y.out];exact A.out,D.out _ HG.out _ E⟩
      case measure=>simp [intOf];omega
     .have Y:Hid (fwV (.leaf p)=.int .i64 (1)):=(by unfold Hid fwV;simp [flatW,S]);obtain ⟨f1,f2,f3,f4,f5,f6,f7,f8,f9,N⟩:=rI;subst M;clear H he HN hv I;have gA:wr.grownBy (wr.alloc (.cells #[] 165)) none:=gWA;have d6:=HM.out.K gA;have i4:=bL d6;have g4:=bL (HK.out.K gA);have g3:=bL (aA HG.out gA);clear d6 gA
      go_wp2_with (at_mapUpdate;refine wpList_mapUpdate_node _ rfl _ _ _ 69 rfl 3 underlying69 _ n f rfl i4.out _ _ rfl rfl g4.out ?_;intro w1 G E)
      go_roundw
      case rel=>exact ⟨k+1,_,_,by omega,by go_num,G,by rw [<- Y.out];exact A.out,D.out _ g3.out _ E⟩
      case measure=>simp [intOf];omega
     .have Y:Hid (fwV (.leaf p)=.int .i64 (0)):=(by unfold Hid fwV;simp [flatW,S]);obtain ⟨f1,f2,f3,f4,f5,f6,f7,f8,f9,N⟩:=rY;subst M;clear H he HN hv I
      go_wp2_with (at_mapUpdate;refine wpList_mapUpdate_node _ rfl _ _ _ 69 rfl 3 underlying69 _ n f rfl HM.out _ _ rfl rfl HK.out ?_;intro w1 G E)
      go_roundw
      case rel=>exact ⟨k+1,_,_,by omega,by go_num,G,by rw [<- Y.out];exact A.out,D.out _ HG.out _ E⟩
      case measure=>simp [intOf];omega
     .have Y:Hid (fwV (.leaf p)=.int .i64 (-1)):=(by unfold Hid fwV;simp [flatW,S]);obtain ⟨f1,f2,f3,f4,f5,f6,f7,f8,f9,N⟩:=wH;subst M;clear H he HN hv I
      go_wp2_with (at_mapUpdate;refine wpList_mapUpdate_node _ rfl _ _ _ 69 rfl 3 underlying69 _ n f rfl HM.out _ _ rfl rfl HK.out ?_;intro w1 G E)
      go_roundw
      case rel=>exact ⟨k+1,_,_,by omega,by go_num,G,by rw [<- Y.out];exact A.out,D.out _ HG.out _ E⟩
      case measure=>simp [intOf];omega
     .have Y:Hid (fwV (.leaf p)=.int .i64 (-1)):=(by unfold Hid fwV;simp [flatW,S]);obtain ⟨f1,f2,f3,f4,f5,f6,f7,f8,f9,N⟩:=zR;subst M;clear H he HN hv I
      go_wp2_with (at_mapUpdate;refine wpList_mapUpdate_node _ rfl _ _ _ 69 rfl 3 underlying69 _ n f rfl HM.out _ _ rfl rfl HK.out ?_;intro w1 G E)
      go_roundw
      case rel=>exact ⟨k+1,_,_,by omega,by go_num,G,by rw [<- Y.out];exact A.out,D.out _ HG.out _ E⟩
      case measure=>simp [intOf];omega
     .have Y:Hid (fwV (.leaf p)=.int .i64 (aF p.t)):=(by unfold Hid fwV;simp [flatW,S]);obtain ⟨f1,f2,f3,f4,f5,f6,f7,f8,f9,N⟩:=rX (.pointer (some ⟨b,0,none⟩));have c1:wr.cell? ⟨b,1,none⟩=some (.int .i64 (aF p.t)):=I.cell (by simp [cell?,h5]) (by simp);subst M;clear H he HN hv I h5
      go_wp2_with (at_mapUpdate;refine wpList_mapUpdate_node _ rfl _ _ _ 69 rfl 3 underlying69 _ n f rfl HM.out _ _ rfl rfl HK.out ?_;intro w1 G E)
      go_roundw
      case rel=>exact ⟨k+1,_,_,by omega,by go_num,G,by rw [<- Y.out];exact A.out,D.out _ HG.out _ E⟩
      case measure=>simp [intOf];omega
   | un p x=>
     obtain ⟨b,u,h6,c0,J,O,d0⟩:=he;have i6:=I.cell c0 (by simp);have a3:u∈l:=mem_of_mem_take O
     have b1:(Instr.lookup 69 (.map (some w.heap.size)) u false).run prog wr=.ok (.int .i64 (flatW x)) wr:=by
      have:=HM.out.run_lookup (z:=.int .i64 0) underlying69 rfl ((jS b3.out a3 J).K I);rw [HN.out u O x J] at this;exact this
     have h9:=mE gH x;have Y:Hid (fwV (.un p x)=.int .i64 (flatW x)):=rfl;obtain ⟨tu,yu,a2⟩:=J.form;subst a2;simp only [sz] at d9;generalize flatW x=fx at *;rcases d0 with ⟨S,M⟩ | ⟨S,M,h3⟩
     .obtain ⟨f1,f2,f3,f4,f5,f6,f7,f8,f9,N⟩:=pN (.pointer (some ⟨b,0,none⟩));subst M;clear H HN hv I J c0 a3 O
      go_wp2_with (at_mapUpdate;refine wpList_mapUpdate_node _ rfl _ _ _ 69 rfl 3 underlying69 _ n f rfl HM.out _ _ rfl rfl HK.out ?_;intro w1 G E)
      go_roundw
      case rel=>exact ⟨k+1,_,_,by omega,by go_num,G,by rw [<- Y.out];exact A.out,D.out _ HG.out _ E⟩
      case measure=>simp [intOf];omega
     .obtain ⟨f1,f2,f3,f4,f5,f6,f7,f8,f9,N⟩:=rB (.pointer (some ⟨b,0,none⟩));subst M;clear H HN hv I J c0 a3 O h3
      go_wp2_with (at_mapUpdate;refine wpList_mapUpdate_node _ rfl _ _ _ 69 rfl 3 underlying69 _ n f rfl HM.out _ _ rfl rfl HK.out ?_;intro w1 G E)
      go_roundw
      case rel=>exact ⟨k+1,_,_,by omega,by go_num,G,by rw [<- Y.out];exact A.out,D.out _ HG.out _ E⟩
      case measure=>simp [intOf];omega
   | bin p x y=>
     obtain ⟨b,u,u',h6,c0,c1,J,Z,O,a5,d0⟩:=he;have i6:=I.cell c0 (by simp);have k6:=I.cell c1 (by simp);have a3:u∈l:=mem_of_mem_take O;have b0:u'∈l:=mem_of_mem_take a5
     have b1:∀ W,w.grownBy W none->MapIs W w.heap.size f n->(Instr.lookup 69 (.map (some w.heap.size)) u false).run prog W=.ok (.int .i64 (flatW x)) W:=by
      intro W hW d2;have:=d2.run_lookup (z:=.int .i64 0) underlying69 rfl ((jS b3.out a3 J).K hW);rw [HN.out u O x J] at this;exact this
     have a6:∀ W,w.grownBy W none->MapIs W w.heap.size f n->(Instr.lookup 69 (.map (some w.heap.size)) u' false).run prog W=.ok (.int .i64 (flatW y)) W:=by
      intro W hW d2;have:=d2.run_lookup (z:=.int .i64 0) underlying69 rfl ((jS b3.out b0 Z).K hW);rw [HN.out u' a5 y Z] at this;exact this
     have hA:=b1 wr I HM.out;have g7:=a6 wr I HM.out;have a7:∀ q,wr.grownBy (wr.drewN q) none:=fun q=>cA (grownBy.refl _ _) q;have d1:=bL a7;have hD:∀ q,_:=fun q=>b1 (wr.drewN q) (aA I (a7 q)) (HM.out.K (a7 q));have f0:∀ q,_:=fun q=>a6 (wr.drewN q) (aA I (a7 q)) (HM.out.K (a7 q));clear a7;have h9:=mE gH x;have l0:=mE gH y;obtain ⟨tu,yu,a2⟩:=J.form;obtain ⟨l1,l7,c6⟩:=Z.form;subst a2 c6;simp only [sz] at d9;rcases d0 with ⟨S,M⟩ | ⟨S,M⟩
     .have Y:Hid (fwV (.bin p x y)=.int .i64 (if flatW x = -1\/flatW y = -1 then -1 else flatW x+flatW y)):=(by unfold Hid fwV;simp only [flatW];rw [if_pos S]);obtain ⟨f1,f2,f3,f4,f5,f6,f7,f8,f9,N⟩:=vL (.pointer (some ⟨b,0,none⟩))
      have hS:∀ q,Calls prog 109 #[.int .i64 (flatW x),.int .i64 (flatW y)] (wr.drewN q) fun e w'=>e=.returned (.int .i64 (if flatW x = -1\/flatW y = -1 then -1 else flatW x+flatW y))/\w'=wr.drewN q:=
       fun q=>(aDz (flatW x) (flatW y) _ (by omega) (by omega)).mono fun e w' h=>⟨h.1,h.2.symm⟩
      generalize (if flatW x = -1\/flatW y = -1 then -1 else flatW x+flatW y)=fs at *;generalize flatW x=fx at *;generalize flatW y=fy at *;subst M;clear H HN hv I J Z c0 c1 a3 O b0 a5 b1 a6
      go_wp2_with fail
      go_quiet ((go_at_call 109;refine Calls.quiet_of_same (hS _)))
      have i1:=bL (HM.out.K (d1.out nq));have j0:=bL (HK.out.K (d1.out nq));clear hD f0 hA g7 hS
      go_wp2_with (at_mapUpdate;refine wpList_mapUpdate_node _ rfl _ _ _ 69 rfl 3 underlying69 _ n f rfl i1.out _ _ rfl rfl j0.out ?_;intro w1 G E)
      go_roundw
      case rel=>exact ⟨k+1,_,_,by omega,by go_num,G,by rw [<- Y.out];exact A.out,D.out _ (aA HG.out (d1.out nq)) _ E⟩
      case measure=>simp [intOf];omega
     .have Y:Hid (fwV (.bin p x y)=.int .i64 (flatW y)):=(by unfold Hid fwV;simp only [flatW];rw [if_neg (by omega)]);obtain ⟨f1,f2,f3,f4,f5,f6,f7,f8,f9,N⟩:=xA (.pointer (some ⟨b,0,none⟩));generalize flatW x=fx at *;generalize flatW y=fy at *;subst M;clear H HN hv I J Z c0 c1 a3 O b0 a5 b1 a6 hD f0 hA
      go_wp2_with (at_mapUpdate;refine wpList_mapUpdate_node _ rfl _ _ _ 69 rfl 3 underlying69 _ n f rfl HM.out _ _ rfl rfl HK.out ?_;intro w1 G E)
      go_roundw
      case rel=>exact ⟨k+1,_,_,by omega,by go_num,G,by rw [<- Y.out];exact A.out,D.out _ HG.out _ E⟩
      case measure=>simp [intOf];omega
  .have j2:k=l.length:=(by omega);have h8:Hid (uJ B w l f fwV):=(by have:=HN.out;rw [j2,take_length] at this;exact this);clear HN;go_wp2;go_ret;exact ⟨f,n,rfl,hM,h8.out,I⟩
end Go.Proofs.YtckcaefnokeodaaGreatDoor
