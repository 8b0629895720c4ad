import Derived.Maps.OwnOps
import Derived.Test.YtmfehflibkokbaaGreatDoorMAL
set_option maxHeartbeats 16000000
set_option maxRecDepth 100000
namespace Go.Proofs.YtmfehflibkokbaaGreatDoor
open Go.Proofs.Tryz
open Go.RowKit
def aF2 (t:TypeId):Prop:=t=178\/t=73\/t=179\/t=74\/t=75
def aKQ (t:TypeId):Prop:=t=67\/t=185\/t=180\/t=188\/t=192
inductive NKey (w:World):Value->Prop
 | leaf (t:TypeId) (h:aF2 t):NKey w (.iface t (.agg #[]))
 | ptr (t:TypeId) (b:Nat) (cs:Array Value) (t':TypeId) (h:aKQ t) (hb:w.heap[b]?=some (.cells cs t')):NKey w (.iface t (.pointer (some ⟨b,0,none⟩)))
theorem NKey.turn {w w':World} {v:Value} (h:NKey w v) (y:∀ t b,v=.iface t (.pointer (some ⟨b,0,none⟩))->w'.heap[b]?=w.heap[b]?):NKey w' v:=by
 cases h with
 | leaf t h=>exact .leaf t h
 | ptr t b cs t' h hb=>exact .ptr t b cs t' h ((y t b rfl).trans hb)
def iL:Value->Option (TypeId × Option Nat)
 | .iface t (.agg _)=>some (t,none)
 | .iface t (.pointer (some a))=>some (t,some a.block)
 | .pointer (some a)=>some (0,some a.block)
 | _=>none
def kEq (x y:Value):Bool:=
 match iL x,iL y with
 | some a,some b=>a==b
 | _,_=>false
theorem uD (x y:Value):kEq x y=kEq y x:=by
 unfold kEq;cases iL x<;>cases iL y<;>simp [Bool.beq_comm]
theorem aC7 {x y:Value} (h:kEq x y=true):∃ c,iL x=some c/\iL y=some c:=by
 unfold kEq at h;cases A:iL x with
 | none=>rw [A] at h;cases h
 | some a=>
   cases D:iL y with
   | none=>rw [A,D] at h;cases h
   | some b=>
     rw [A,D] at h;simp at h;exact ⟨a,rfl,by rw [h]⟩
theorem aLD {x y:Value} {c:TypeId × Option Nat} (A:iL x=some c) (h:iL y=some c):kEq x y=true:=by
 unfold kEq;rw [A,h];simp
theorem rE {x y z:Value} (h:kEq x y=true) (E:kEq y z=true):kEq x z=true:=by
 obtain ⟨c,G,J⟩:=aC7 h;obtain ⟨d,A,D⟩:=aC7 E;rw [J] at A;cases A;exact aLD G D
theorem uT {w:World} {a b:Nat} {D E:Array Value} {y A:TypeId} (G:w.heap[a]?=some (.cells D y)) (J:w.heap[b]?=some (.cells E A)) :
  (sameAddr ⟨a,0,none⟩ ⟨b,0,none⟩).run prog w=.ok (a==b) w:=by
 by_cases h:a=b
 ·subst h;simp [sameAddr]
 ·have M:(a==b)=false:=(by simpa using h);have N:w.shape? a=some (y,D.size):=(by simp [World.shape?,G]);have sb:w.shape? b=some (A,E.size):=(by simp [World.shape?,J]);simp [sameAddr,M,go_sem,noView,viewAt,mayBeOne,stringish,N,sb,G,J,World.frozen?]
theorem aEx (t:TypeId) (h:aKQ t) (a b:Addr) (w:World):(Op.equal 62 (.iface t (.pointer (some a))) (.iface t (.pointer (some b)))).run prog w=(sameAddr a b).run prog w:=by
 rcases h with rfl | rfl | rfl | rfl | rfl<;>kernel_rfl
theorem aJ4 (t y:TypeId) (h:aF2 t) (A:aF2 y) (w:World):(Op.equal 62 (.iface t (.agg #[])) (.iface y (.agg #[]))).run prog w=.ok (t==y) w:=by
 rcases h with rfl | rfl | rfl | rfl | rfl<;>rcases A with rfl | rfl | rfl | rfl | rfl<;>kernel_rfl
theorem aCD (t A:TypeId) (x y:Value) (h:t≠A) (w:World):(Op.equal 62 (.iface t x) (.iface A y)).run prog w=.ok false w:=by
 unfold Op.equal Op.maxDepth;rw [show (10000:Nat)=9999+1 from rfl];generalize 9999=d;simp [Op.equalIn,go_sem,h]
theorem uW {t:TypeId} (h:aF2 t) (y:aKQ t):False:=by
 rcases h with rfl | rfl | rfl | rfl | rfl<;>rcases y with h | h | h | h | h<;>cases h
theorem aCN {w:World} {k k':Value} (h:NKey w k) (y:NKey w k'):(Op.equal 62 k k').run prog w=.ok (kEq k k') w:=by
 cases h with
 | leaf t h=>
   cases y with
   | leaf t' y=>rw [aJ4 t t' h y w];congr 1;rw [Bool.eq_iff_iff];simp [kEq,iL]
   | ptr t' b cs t'' y hb=>rw [aCD t t' _ _ (fun e=>uW (by rw [e] at h;exact h) y) w];simp [kEq,iL]
 | ptr t b cs t'' h hb=>
   cases y with
   | leaf t' y=>rw [aCD t t' _ _ (fun e=>uW y (by rw [e] at h;exact h)) w];simp [kEq,iL]
   | ptr t' b' cs' t3 y hb'=>
     by_cases e:t=t'
     ·subst e;rw [aEx t h,uT hb hb'];congr 1;rw [Bool.eq_iff_iff];simp [kEq,iL]
     ·rw [aCD t t' _ _ e];simp [kEq,iL,e]
theorem nC {w:World} {k k':Value} (h:NKey w k) (y:NKey w k'):kEq k k'=true ↔ k=k':=by
 cases h with
 | leaf t h=>
   cases y with
   | leaf t' y=>simp [kEq,iL]
   | ptr t' b cs t'' y hb=>simp [kEq,iL]
 | ptr t b cs t'' h hb=>
   cases y with
   | leaf t' y=>simp [kEq,iL]
   | ptr t' b' cs' t3 y hb'=>simp [kEq,iL]
theorem kEq_self {w:World} {k:Value} (h:NKey w k):kEq k k=true:=(nC h h).2 rfl
def cX (k:Value):List MapEntry->Nat->Option (Nat × Value)
 | [],_=>none
 | e::es,i=>if kEq k e.key then some (i,e.val) else cX k es (i+1)
theorem gQ {w:World} {k:Value} (h:NKey w k):∀ (y:List MapEntry) (i:Nat),(∀ e∈y,NKey w e.key)->(Instr.findAsking 62 k y i).run prog w=.ok (cX k y i) w
 | [],i,_=>by simp [Instr.findAsking,cX]
 | e::y,i,he=>by
   have A:=aCN h (he e (List.mem_cons_self ..));have D:=gQ h y (i+1) (fun x E=>he x (List.mem_cons_of_mem _ E));simp only [Instr.findAsking,cX,Sem.run_bind,A,Result.andThen_ok];cases kEq k e.key
   ·simpa using D
   ·simp
theorem kU {w:World} {k:Value} (h:NKey w k) (y:List MapEntry) (D:∀ e∈y,NKey w e.key):(Instr.findKey 62 k y).run prog w=.ok (cX k y 0) w:=by
 have A:=gQ h y 0 D;unfold Instr.findKey;rw [Sem.run_bind,run_underlying underlying62,Result.andThen_ok];cases y with
 | nil=>simp [Instr.findNow,cX]
 | cons e y=>
   simp only [Instr.findNow,Instr.sameNow];exact A
theorem jO {w:World} {k:Value} (h:NKey w k) (e:Bool):(Instr.checkKey e 10000 62 k).run prog w=.ok () w:=by
 cases h with
 | leaf t h=>rcases h with rfl | rfl | rfl | rfl | rfl<;>kernel_rfl
 | ptr t b cs t' h hb=>rcases h with rfl | rfl | rfl | rfl | rfl<;>kernel_rfl
def MapIs (w:World) (b:Nat) (f:Value->Option Value) (n:Nat):Prop:=
 ∃ es clock,w.heap[b]?=some (.map es clock)/\es.size=n/\(∀ e∈es.toList,NKey w e.key)/\∀ k,(cX k es.toList 0).map (·.2)=f k
theorem eR (k:Value):∀ (h:List MapEntry) (i:Nat),cX k h i=(cX k h 0).map (fun x=>(x.1+i,x.2))
 | [],i=>by simp [cX]
 | e::h,i=>by
   simp only [cX];rw [eR k h (i+1),eR k h (0+1)];cases kEq k e.key
   ·simp only [Bool.false_eq_true,if_false,Option.map_map];congr 1
    funext x
    simp;omega
   ·simp
theorem aAu {w:World} {k:Value} : ∀ (h:List MapEntry) (e:MapEntry) (i:Nat),cX k (h++[e]) i=match cX k h i with | some x=>some x | none=>if kEq k e.key then some (i+h.length,e.val) else none
 | [],e,i=>by simp [cX]
 | d::h,e,i=>by
   simp only [List.cons_append,cX];cases kEq k d.key
   ·simp only [Bool.false_eq_true,if_false];rw [aAu (w:=w) h e (i+1)];simp only [List.length_cons];rw [show i+1+h.length=i+(h.length+1) by omega]
   ·simp
theorem mapIs_made (w:World):MapIs (w.alloc (.map #[] 0)) w.heap.size (fun _=>none) 0:=
 ⟨#[],0,heap_alloc_new _ _,rfl,by simp,fun k=>by simp [cX]⟩
theorem MapIs.run_lookup {w:World} {b n:Nat} {f:Value->Option Value} (h:MapIs w b f n) {t e:TypeId} (M:prog.underlying t=some (.map 62 e)) {z:Value} (U:(zeroValue e).run prog w=.ok z w) {k:Value} (J:NKey w k) :
  (Instr.lookup t (.map (some b)) k false).run prog w=.ok ((f k).getD z) w:=by
 obtain ⟨D,E,N,Y,X,S⟩:=h;have A:=kU J D.toList X;have y:=S k;have G:=jO J D.isEmpty;cases O:cX k D.toList 0 with
 | none=>
   rw [O] at y A;simp only [Option.map_none] at y;rw [<- y];simp [Instr.lookup,run_underlying M,MapKept.run_getObj_map N,G,A,U]
 | some x=>
   rw [O] at y A;simp only [Option.map_some] at y;rw [<- y];simp [Instr.lookup,run_underlying M,MapKept.run_getObj_map N,G,A]
theorem MapIs.lt {w:World} {b n:Nat} {f:Value->Option Value} (h:MapIs w b f n):b<w.heap.size:=by
 obtain ⟨D,y,A,_⟩:=h;exact (Array.getElem?_eq_some_iff.1 A).1
theorem kV {w:World} {k k' x:Value} (M:NKey w k):∀ (l:List MapEntry) (i:Nat) (v:Value),(∀ e∈l,NKey w e.key)->cX k l 0=some (i,v)->
  (cX k' (l.modify i fun e=>{ e with key:=k,val:=x }) 0).map (·.2)=if kEq k k' then some x else (cX k' l 0).map (·.2)
 | [],i,v,_,h=>by simp [cX] at h
 | e::es,i,v,he,h=>by
   have G:=he e (List.mem_cons_self ..);simp only [cX] at h;cases A:kEq k e.key with
   | true=>
     rw [A] at h;simp only [if_true,Option.some.injEq,Prod.mk.injEq] at h;obtain ⟨rfl,_⟩:=h;have D:=(nC M G).1 A;rw [List.modify_zero_cons];simp only [cX];rw [<- D,uD k' k];cases kEq k k'<;>simp
   | false=>
     rw [A] at h;simp only [Bool.false_eq_true,if_false] at h;rw [eR] at h;cases J:cX k es 0 with
     | none=>rw [J] at h;cases h
     | some y=>
       obtain ⟨j,u⟩:=y;rw [J] at h;simp only [Option.map_some,Option.some.injEq,Prod.mk.injEq] at h;obtain ⟨O,X⟩:=h;subst O;have U:=kV (k':=k') (x:=x) M es j u (fun z N=>he z (List.mem_cons_of_mem _ N)) J;rw [show 0+1=1 from rfl,List.modify_succ_cons];simp only [cX];cases E:kEq k' e.key with
       | true=>
         have S:kEq k k'=false:=by
          rw [Bool.eq_false_iff];intro h;rw [rE h E] at A;cases A
         simp [S]
       | false=>
         simp only [Bool.false_eq_true,if_false];rw [eR k' _ (0+1),eR k' es (0+1)];simpa [Option.map_map,Function.comp_def] using U
theorem oP {w:World} {k:Value} (h:NKey w k):Instr.sameBits 10000 k k=true:=by
 rw [show (10000:Nat)=9998+1+1 from rfl];generalize 9998=d;cases h<;>simp [Instr.sameBits]
theorem wR {w:World} {k:Value} (h:NKey w k):(Instr.keyThatStays k k).run prog w=.ok k w:=by
 simp [Instr.keyThatStays,oP h]
theorem vB {w:World} {k:Value} (E:NKey w k):∀ (l:List MapEntry) (i:Nat) (v:Value),(∀ e∈l,NKey w e.key)->cX k l 0=some (i,v)->∃ e,l[i]?=some e/\e.key=k
 | [],i,v,_,h=>by simp [cX] at h
 | e::es,i,v,he,h=>by
   simp only [cX] at h;cases A:kEq k e.key with
   | true=>
     rw [A] at h;simp only [if_true,Option.some.injEq,Prod.mk.injEq] at h;obtain ⟨rfl,_⟩:=h;exact ⟨e,rfl,((nC E (he e (List.mem_cons_self ..))).1 A).symm⟩
   | false=>
     rw [A] at h;simp only [Bool.false_eq_true,if_false] at h;rw [eR] at h;cases D:cX k es 0 with
     | none=>rw [D] at h;cases h
     | some y=>
       obtain ⟨j,u⟩:=y;rw [D] at h;simp only [Option.map_some,Option.some.injEq,Prod.mk.injEq] at h;obtain ⟨N,O⟩:=h;subst N;obtain ⟨d,M,G⟩:=vB E es j u (fun z J=>he z (List.mem_cons_of_mem _ J)) D;exact ⟨d,by simpa using M,G⟩
theorem NKey.set {w:World} {b:Nat} {D:Array MapEntry} {c:Nat} (y:w.heap[b]?=some (.map D c)) (o:Obj) {v:Value} (h:NKey w v):NKey { w with heap:=w.heap.setIfInBounds b o } v:=
 h.turn fun t k e=>by
  refine (MapKept.heap_set y).2 k fun A=>?_;cases h with
  | leaf t h=>cases e
  | ptr t b' cs t' h hb'=>
    cases e;rw [A,y] at hb';cases hb'
theorem NKey.K {w w':World} {v:Value} (h:NKey w v) (y:w.grownBy w' none):NKey w' v:=by
 cases h with
 | leaf t h=>exact .leaf t h
 | ptr t b cs t' h hb=>exact .ptr t b cs t' h ((y.block b (Array.getElem?_eq_some_iff.1 hb).1 (by simp)).trans hb)
theorem MapIs.K {w w':World} {b n:Nat} {f:Value->Option Value} (h:MapIs w b f n) (D:w.grownBy w' none):MapIs w' b f n:=by
 have A:=h.lt;obtain ⟨M,y,N,J,G,E⟩:=h;exact ⟨M,y,(D.block b A (by simp)).trans N,J,fun e O=>(G e O).K D,E⟩
theorem MapIs.run_update {w:World} {b n:Nat} {f:Value->Option Value} (h:MapIs w b f n) {t e:TypeId} (ht:prog.underlying t=some (.map 62 e)) {k:Value} (N:NKey w k) (x:Value) :
  ∃ w',(Instr.mapUpdate t (.map (some b)) k x).run prog w=.ok () w'/\MapIs w' b (fun k'=>if kEq k k' then some x else f k') (if (f k).isSome then n else n+1)/\w.grownBy w' (some b):=by
 obtain ⟨O,a8,A,Z,X,hl⟩:=h;have h1:=kU N O.toList X;have J:=hl k;have h3:=jO N false;have Y:∀ o,w.grownBy { w with heap:=w.heap.setIfInBounds b o } (some b):=fun o=>⟨rfl,rfl,rfl,by simp,fun i _ M=>(MapKept.heap_set A).2 i (fun e=>M (by rw [e]))⟩;cases U:cX k O.toList 0 with
 | none=>
   rw [U] at J h1;simp only [Option.map_none] at J;refine ⟨_,by simp [Instr.mapUpdate,run_underlying ht,MapKept.run_getObj_map A,h3,h1,MapKept.run_setObj_map _ A];rfl,⟨_,_,(MapKept.heap_set A).1,?_,?_,?_⟩,Y _⟩
   ·rw [<- J];simp [Z]
   ·intro z D;rw [Array.toList_push] at D;rcases List.mem_append.1 D with D | D
    ·exact (X z D).set A _
    ·simp only [List.mem_singleton] at D;subst D;exact N.set A _
   ·intro k';rw [Array.toList_push,aAu (w:=w)];have S:=hl k';cases hy:cX k' O.toList 0 with
    | none=>
      rw [hy] at S;simp only [Option.map_none] at S;dsimp only;rw [<- S,uD k' k];cases kEq k k'<;>simp
    | some y=>
      rw [hy] at S;simp only [Option.map_some] at S ⊢
      have e2:kEq k k'=false:=by
       rw [Bool.eq_false_iff];intro h
       have Z:∀ (l:List MapEntry) (i:Nat),cX k l i=none->cX k' l i=none:=by
        intro l
        induction l with
        | nil=>intro i _;rfl
        | cons d l IH=>
          intro i M;simp only [cX] at M ⊢;cases E:kEq k d.key with
          | true=>rw [E] at M;simp at M
          | false=>
            rw [E] at M;simp only [Bool.false_eq_true,if_false] at M
            have:kEq k' d.key=false:=by
             rw [Bool.eq_false_iff];intro J;rw [rE h J] at E;cases E
            rw [this];simp only [Bool.false_eq_true,if_false];exact IH (i+1) M
       rw [Z _ _ U] at hy;cases hy
      rw [e2];simpa using S
 | some y=>
   obtain ⟨i,v⟩:=y;rw [U] at J h1;simp only [Option.map_some] at J;obtain ⟨d,hd,a9⟩:=vB N O.toList i v X U;have a7:O[i]?=some d:=(by rw [<- Array.getElem?_toList];exact hd);refine ⟨_,by simp [Instr.mapUpdate,run_underlying ht,MapKept.run_getObj_map A,h3,h1,a7,a9,wR N,MapKept.run_setObj_map _ A];rfl,⟨_,_,(MapKept.heap_set A).1,?_,?_,?_⟩,Y _⟩
   ·rw [<- J];simp [Z]
   ·intro z D;rw [Array.toList_modify] at D;obtain ⟨j,G⟩:=List.mem_iff_getElem?.1 D;rw [List.getElem?_modify] at G;cases E:O.toList[j]? with
    | none=>rw [E] at G;simp at G
    | some q=>
      rw [E] at G;simp only [Option.map_eq_map,Option.map_some,Option.some.injEq] at G
      split at G
      ·subst G;exact N.set A _
      ·subst G;exact (X q (List.mem_of_getElem? E)).set A _
   ·intro k';rw [Array.toList_modify,kV N O.toList i v X U,hl k']
theorem wpList_mapUpdate_node (w:World) {ops:Array Oper} {rest:List Oper} {o:Oper} {a:Act} {Q:Exit->Act->World->Prop}
  (O:o.guard=none) (m x v:Operand) (t:TypeId) (D:o.op=Op.mapUpdate t m x v) (e:TypeId) (N:prog.underlying t=some (.map 62 e)) (b n:Nat) (f:Value->Option Value)
  (S:a.eval m=.map (some b)) (h:MapIs w b f n) (key val:Value) (U:a.eval x=key) (hv:a.eval v=val) (A:NKey w key)
  (M:∀ w',MapIs w' b (fun k'=>if kEq key k' then some val else f k') (if (f key).isSome then n else n+1)->w.grownBy w' (some b)->wpList prog ops Q rest (a.put o.dst undef) w') :
  wpList prog ops Q (o::rest) a w:=by
 refine wpList_plain O fun X E=>?_;obtain ⟨w',y,G,J⟩:=h.run_update N A val;unfold Oper.wp;simp [execOp,D,S,U,hv,y,Result.andThen];exact E _ _ (M w' G J)
def aH8 (B:Nat) (w:World) (pre:List Value):Value->Tr->Prop
 | v,.leaf p=>Rep (fun _=>False) B w v (.leaf p)
 | v,.un p x=>∃ b u,b<w.heap.size/\w.cell? ⟨b,0,none⟩=some u/\Rep (fun _=>False) B w u x/\u∈pre/\
   ((p.k=8/\v=.iface 185 (.pointer (some ⟨b,0,none⟩)))\/(p.k=7/\v=.iface 180 (.pointer (some ⟨b,0,none⟩))/\w.cell? ⟨b,1,none⟩=some (.int .i64 p.n)))
 | v,.bin p x y=>∃ b u u',b<w.heap.size/\w.cell? ⟨b,0,none⟩=some u/\w.cell? ⟨b,1,none⟩=some u'/\Rep (fun _=>False) B w u x/\Rep (fun _=>False) B w u' y/\u∈pre/\u'∈pre/\
   ((p.k=6/\v=.iface 188 (.pointer (some ⟨b,0,none⟩)))\/(p.k=9/\v=.iface 192 (.pointer (some ⟨b,0,none⟩))))
theorem aH8.more {B:Nat} {w:World} {A y:List Value} (h:∀ v∈A,v∈y):∀ {T:Tr} {v:Value},aH8 B w A v T->aH8 B w y v T
 | .leaf _,_,e=>e
 | .un _ _,_,⟨b,u,h1,h2,h3,h4,h5⟩=>⟨b,u,h1,h2,h3,h u h4,h5⟩
 | .bin _ _ _,_,⟨b,u,u',h1,h2,h2',h3,h3',h4,h4',h5⟩=>⟨b,u,u',h1,h2,h2',h3,h3',h u h4,h u' h4',h5⟩
theorem aBe {B:Nat} {w:World} : ∀ {T:Tr} {v:Value} {l:List Value},Rep (fun _=>False) B w v T->cS w v T l->∃ S,l=S++[v]/\aH8 B w S v T
 | .leaf p,v,l,hr,hp=>⟨[],by simpa [cS] using hp,hr⟩
 | .un p x,v,l,hr,hp=>by
   simp only [Rep] at hr;simp only [cS] at hp;obtain ⟨b0,u0,h3,Z,E,h6,h⟩:=hr;obtain ⟨t,b,u,l1,hv,G,k2,k3,X⟩:=hp
   have D:b=b0:=by
    rcases h with ⟨_,h⟩ | ⟨_,h⟩<;>(rw [hv] at h;simp at h;exact h.2)
   subst D;have hu:u0=u:=(by rw [E] at G;exact Option.some.inj G);subst hu;obtain ⟨S,A⟩:=k3.last;refine ⟨l1,X,b,u0,Z,E,h6,by rw [A];simp,?_⟩;rcases h with ⟨h,Y⟩ | ⟨h,Y⟩
   ·exact .inl ⟨h,Y⟩
   ·exact .inr ⟨h,Y,k2 h⟩
 | .bin p x y,v,l,hr,hp=>by
   simp only [Rep] at hr;simp only [cS] at hp;obtain ⟨b0,u0,N,h3,Z,E,J,h6,a4,h⟩:=hr;obtain ⟨t,b,u,u',l1,l2,hv,G,O,k3,U,X⟩:=hp
   have D:b=b0:=by
    rcases h with ⟨_,h⟩ | ⟨_,h⟩<;>(rw [hv] at h;simp at h;exact h.2)
   subst D;have hu:u0=u:=(by rw [E] at G;exact Option.some.inj G);have a8:N=u':=(by rw [J] at O;exact Option.some.inj O);subst hu a8;obtain ⟨S,A⟩:=k3.last;obtain ⟨b5,M⟩:=U.last;exact ⟨l1++l2,X,b,u0,N,Z,E,J,h6,a4,by rw [A];simp,by rw [M];simp,h⟩
theorem kD {B:Nat} {w:World} : ∀ {T:Tr} {v:Value} {l:List Value},Rep (fun _=>False) B w v T->cS w v T l->∀ (i:Nat) (u:Value),l[i]?=some u->∃ A,aH8 B w (l.take i) u A/\Rep (fun _=>False) B w u A/\sz A<=sz T
 | .leaf p,v,l,hr,hp,i,u,hi=>by
   simp only [cS] at hp;subst hp
   match i,hi with
   | 0,hi=>
     simp at hi;subst hi;exact ⟨.leaf p,hr,hr,Nat.le_refl _⟩
 | .un p x,v,l,hr,hp,i,u,hi=>by
   obtain ⟨Z,N,he⟩:=aBe hr hp;have M:=hr;simp only [Rep] at hr;simp only [cS] at hp;obtain ⟨b0,u0,h3,h4,h5,h6,h⟩:=hr;obtain ⟨t,b,u1,G,hv,X,k2,k3,D⟩:=hp
   have S:b=b0:=by
    rcases h with ⟨_,h⟩ | ⟨_,h⟩<;>(rw [hv] at h;simp at h;exact h.2)
   subst S;have hu:u0=u1:=(by rw [h5] at X;exact Option.some.inj X);subst hu;have E:Z=G:=(by rw [N] at D;simpa using D);subst E;subst D
   by_cases J:i<Z.length
   ·rw [List.getElem?_append_left J] at hi;obtain ⟨A,U,e2,e3⟩:=kD h6 k3 i u hi;rw [List.take_append_of_le_length (by omega)];exact ⟨A,U,e2,by simp only [sz];omega⟩
   ·have O:i=Z.length:=by
     have:=(List.getElem?_eq_some_iff.1 hi).1;simp at this;omega
    subst O;rw [List.getElem?_append_right (Nat.le_refl _)] at hi;simp at hi;subst hi;exact ⟨.un p x,by simpa using he,M,Nat.le_refl _⟩
 | .bin p x y,v,l,hr,hp,i,u,hi=>by
   obtain ⟨Z,N,he⟩:=aBe hr hp;have M:=hr;simp only [Rep] at hr;simp only [cS] at hp;obtain ⟨b0,u0,b5,h3,h4,h5,a9,h6,b2,h⟩:=hr;obtain ⟨t,b,u1,a5,G,l2,hv,X,Y,k3,a8,D⟩:=hp
   have S:b=b0:=by
    rcases h with ⟨_,h⟩ | ⟨_,h⟩<;>(rw [hv] at h;simp at h;exact h.2)
   subst S;have hu:u0=u1:=(by rw [h5] at X;exact Option.some.inj X);have b6:b5=a5:=(by rw [a9] at Y;exact Option.some.inj Y);subst hu b6;have E:Z=G++l2:=(by rw [N] at D;exact List.append_cancel_right D);subst E;subst D
   by_cases J:i<G.length
   ·rw [List.append_assoc,List.getElem?_append_left J] at hi;obtain ⟨A,U,e2,e3⟩:=kD h6 k3 i u hi;rw [List.append_assoc,List.take_append_of_le_length (by omega)];exact ⟨A,U,e2,by simp only [sz];omega⟩
   ·by_cases b9:i<G.length+l2.length
    ·rw [List.append_assoc,List.getElem?_append_right (by omega),List.getElem?_append_left (by omega)] at hi;obtain ⟨A,U,e2,e3⟩:=kD b2 a8 (i - G.length) u hi;refine ⟨A,U.more ?_,e2,by simp only [sz];omega⟩;intro z hz;rw [List.append_assoc,List.take_append];refine List.mem_append_right _ ?_;rw [List.take_append_of_le_length (by omega)];exact hz
    ·have O:i=(G++l2).length:=by
      have:=(List.getElem?_eq_some_iff.1 hi).1;simp at this ⊢;omega
     subst O;rw [List.getElem?_append_right (Nat.le_refl _)] at hi;simp at hi;subst hi;exact ⟨.bin p x y,by rw [List.take_left];exact he,M,Nat.le_refl _⟩
def Sim:Tr->Tr->Prop
 | .leaf p,.leaf q=>p.k=q.k/\(p.k=1->aI p.t=aI q.t)
 | .un p x,.un q y=>p.k=q.k/\Sim x y
 | .bin p x x',.bin q y y'=>p.k=q.k/\Sim x y/\Sim x' y'
 | _,_=>False
def flatW:Tr->Int
 | .leaf p=>if p.k=1 then aI p.t else if p.k=2 then 1 else if p.k=4\/p.k=5 then -1 else 0
 | .un _ x=>flatW x
 | .bin p x y=>if p.k=6 then (if flatW x = -1\/flatW y = -1 then -1 else flatW x+flatW y) else flatW y
theorem Sim.flatW:∀ {T D:Tr},Sim T D->flatW T=flatW D
 | .leaf p,.leaf q,h=>by
   simp only [Sim] at h;simp only [Proofs.YtmfehflibkokbaaGreatDoor.flatW,h.1]
   by_cases A:q.k=1
   ·rw [if_pos A,if_pos A,h.2 (by rw [h.1];exact A)]
   ·rw [if_neg A,if_neg A]
 | .un _ x,.un _ y,h=>by simp only [Proofs.YtmfehflibkokbaaGreatDoor.flatW];exact Sim.flatW h.2
 | .bin p x x',.bin q y y',h=>by
   simp only [Proofs.YtmfehflibkokbaaGreatDoor.flatW,h.1,Sim.flatW h.2.1,Sim.flatW h.2.2]
 | .leaf _,.un _ _,h=>h.elim
 | .leaf _,.bin _ _ _,h=>h.elim
 | .un _ _,.leaf _,h=>h.elim
 | .un _ _,.bin _ _ _,h=>h.elim
 | .bin _ _ _,.leaf _,h=>h.elim
 | .bin _ _ _,.un _ _,h=>h.elim
theorem Sim.leadT:∀ {T D:Tr},Sim T D->leadT T=leadT D
 | .leaf p,.leaf q,h=>by
   simp only [Sim] at h;simp only [Proofs.YtmfehflibkokbaaGreatDoor.leadT,h.1]
   by_cases A:q.k=1
   ·rw [if_pos A,if_pos A,h.2 (by rw [h.1];exact A)]
   ·rw [if_neg A,if_neg A]
 | .un _ x,.un _ y,h=>by simp only [Proofs.YtmfehflibkokbaaGreatDoor.leadT];exact Sim.leadT h.2
 | .bin p x x',.bin q y y',h=>by
   simp only [Proofs.YtmfehflibkokbaaGreatDoor.leadT,h.1,Sim.leadT h.2.1,Sim.leadT h.2.2]
 | .leaf _,.un _ _,h=>h.elim
 | .leaf _,.bin _ _ _,h=>h.elim
 | .un _ _,.leaf _,h=>h.elim
 | .un _ _,.bin _ _ _,h=>h.elim
 | .bin _ _ _,.leaf _,h=>h.elim
 | .bin _ _ _,.un _ _,h=>h.elim
theorem uI {X:Nat->Prop} {B:Nat} {w:World} : ∀ {T T':Tr} {v:Value},Rep X B w v T->Rep X B w v T'->Sim T T'
 | .leaf p,.leaf q,v,h,D=>by
   simp only [Rep] at h D;simp only [Sim];rcases h with h | h | h | h | h | ⟨h1,b,tv,U,_,_,h5,_⟩<;>rcases D with D | D | D | D | D | ⟨b1,Y,tv',a8,_,_,E,_⟩
   all_goals first
    | (exfalso;have:=h.2.symm.trans D.2;simp at this;done)
    | (exfalso;have:=h.2.symm.trans a8;simp at this;done)
    | (exfalso;have:=U.symm.trans D.2;simp at this;done)
    | (have hh:=h.1.trans D.1.symm;exact ⟨hh,fun e=>by rw [h.1] at e;simp at e⟩)
    | skip
   have e:=U.symm.trans a8;simp only [Value.iface.injEq,Value.pointer.injEq,Option.some.injEq,Addr.mk.injEq,and_true,true_and] at e;subst e;rw [h5] at E;refine ⟨by rw [h1,b1],fun _=>?_⟩;simp at E;exact E.2
 | .un p x,.un q y,v,h,D=>by
   simp only [Rep] at h D;simp only [Sim];obtain ⟨b,u,_,_,h5,h6,J⟩:=h;obtain ⟨Y,Z,_,_,E,M,A⟩:=D
   have e:b=Y/\p.k=q.k:=by
    rcases J with ⟨J,h8⟩ | ⟨J,h8⟩<;>rcases A with ⟨A,S⟩ | ⟨A,S⟩<;>(have e:=h8.symm.trans S;simp at e)<;>exact ⟨e,by rw [J,A]⟩
   obtain ⟨e1,e2⟩:=e;subst e1;have hu:u=Z:=(by rw [h5] at E;exact Option.some.inj E);subst hu;exact ⟨e2,uI h6 M⟩
 | .bin p x x2,.bin q y y2,v,h,D=>by
   simp only [Rep] at h D;simp only [Sim];obtain ⟨b,u,u2,_,_,h5,b5,h6,b3,J⟩:=h;obtain ⟨Y,Z,O,_,_,E,G,M,N,A⟩:=D
   have e:b=Y/\p.k=q.k:=by
    rcases J with ⟨J,h8⟩ | ⟨J,h8⟩<;>rcases A with ⟨A,S⟩ | ⟨A,S⟩<;>(have e:=h8.symm.trans S;simp at e)<;>exact ⟨e,by rw [J,A]⟩
   obtain ⟨e1,e2⟩:=e;subst e1;have hu:u=Z:=(by rw [h5] at E;exact Option.some.inj E);have b4:u2=O:=(by rw [b5] at G;exact Option.some.inj G);subst hu b4;exact ⟨e2,uI h6 M,uI b3 N⟩
 | .leaf p,.un q y,v,h,D=>by
   exfalso;simp only [Rep] at h D;obtain ⟨Y,Z,_,_,E,M,A⟩:=D;rcases h with h | h | h | h | h | ⟨h1,b,tv,U,_⟩<;>rcases A with ⟨_,A⟩ | ⟨_,A⟩
   all_goals first
    | (have:=h.2.symm.trans A;simp at this)
    | (have:=U.symm.trans A;simp at this)
 | .leaf p,.bin q y y2,v,h,D=>by
   exfalso;simp only [Rep] at h D;obtain ⟨Y,Z,O,_,_,E,G,M,N,A⟩:=D;rcases h with h | h | h | h | h | ⟨h1,b,tv,U,_⟩<;>rcases A with ⟨_,A⟩ | ⟨_,A⟩
   all_goals first
    | (have:=h.2.symm.trans A;simp at this)
    | (have:=U.symm.trans A;simp at this)
 | .un q y,.leaf p,v,D,h=>by
   exfalso;simp only [Rep] at h D;obtain ⟨Y,Z,_,_,E,M,A⟩:=D;rcases h with h | h | h | h | h | ⟨h1,b,tv,U,_⟩<;>rcases A with ⟨_,A⟩ | ⟨_,A⟩
   all_goals first
    | (have:=h.2.symm.trans A;simp at this)
    | (have:=U.symm.trans A;simp at this)
 | .bin q y y2,.leaf p,v,D,h=>by
   exfalso;simp only [Rep] at h D;obtain ⟨Y,Z,O,_,_,E,G,M,N,A⟩:=D;rcases h with h | h | h | h | h | ⟨h1,b,tv,U,_⟩<;>rcases A with ⟨_,A⟩ | ⟨_,A⟩
   all_goals first
    | (have:=h.2.symm.trans A;simp at this)
    | (have:=U.symm.trans A;simp at this)
 | .un p x,.bin q y y2,v,h,D=>by
   exfalso;simp only [Rep] at h D;obtain ⟨b,u,_,_,h5,h6,J⟩:=h;obtain ⟨Y,Z,O,_,_,E,G,M,N,A⟩:=D;rcases J with ⟨_,J⟩ | ⟨_,J⟩<;>rcases A with ⟨_,A⟩ | ⟨_,A⟩<;>(have:=J.symm.trans A;simp at this)
 | .bin q y y2,.un p x,v,D,h=>by
   exfalso;simp only [Rep] at h D;obtain ⟨b,u,_,_,h5,h6,J⟩:=h;obtain ⟨Y,Z,O,_,_,E,G,M,N,A⟩:=D;rcases J with ⟨_,J⟩ | ⟨_,J⟩<;>rcases A with ⟨_,A⟩ | ⟨_,A⟩<;>(have:=J.symm.trans A;simp at this)
theorem kX (h:∀ t,-1<=aI t/\aI t<=t.length):∀ (T:Tr),-1<=flatW T/\flatW T<=sz T
 | .leaf p=>by
   have:=h p.t;simp only [flatW,sz]
   split
   ·omega
   ·split
    ·omega
    ·split<;>omega
 | .un p x=>by
   have:=kX h x;simp only [flatW,sz];omega
 | .bin p x y=>by
   have A:=kX h x;have D:=kX h y;simp only [flatW,sz]
   split
   ·split<;>omega
   ·omega
theorem iZ {B:Nat} {w:World} {l:List Value} (G:lF (fun _=>False) w l) {v:Value} (A:v∈l) {T:Tr} (h:Rep (fun _=>False) B w v T):NKey w v:=by
 cases T with
 | leaf p=>
   simp only [Rep] at h;rcases h with h | h | h | h | h | ⟨U,b,tv,O,_,_,N,_⟩
   ·rw [h.2];exact .leaf _ (.inl rfl)
   ·rw [h.2];exact .leaf _ (.inr (.inl rfl))
   ·rw [h.2];exact .leaf _ (.inr (.inr (.inl rfl)))
   ·rw [h.2];exact .leaf _ (.inr (.inr (.inr (.inl rfl))))
   ·rw [h.2];exact .leaf _ (.inr (.inr (.inr (.inr rfl))))
   ·rw [O];exact .ptr _ b _ _ (.inl rfl) N
 | un p x=>
   simp only [Rep] at h;obtain ⟨b,u,_,_,_,_,D | D⟩:=h
   ·rw [D.2] at A ⊢;obtain ⟨_,J,M,E⟩:=G.lt _ _ A;exact .ptr _ b _ _ (.inr (.inl rfl)) E
   ·rw [D.2] at A ⊢;obtain ⟨_,J,M,E⟩:=G.lt _ _ A;exact .ptr _ b _ _ (.inr (.inr (.inl rfl))) E
 | bin p x y=>
   simp only [Rep] at h;obtain ⟨b,u,S,_,_,_,_,_,_,D | D⟩:=h
   ·rw [D.2] at A ⊢;obtain ⟨_,J,M,E⟩:=G.lt _ _ A;exact .ptr _ b _ _ (.inr (.inr (.inr (.inl rfl)))) E
   ·rw [D.2] at A ⊢;obtain ⟨_,J,M,E⟩:=G.lt _ _ A;exact .ptr _ b _ _ (.inr (.inr (.inr (.inr rfl)))) E
end Go.Proofs.YtmfehflibkokbaaGreatDoor
namespace Go.Proofs.YtmfehflibkokbaaGreatDoor
open Go.Proofs.Tryz
open Go.RowKit Go.Shelf
section
variable {F:Fence} {n m:Nat} {P:Program}
def pN (l d:Nat) (r:Loop) (W:World):Prop:=W.heap[l]?=some (.loop r)/\W.heap[d]?=some (.deferred (some []))
theorem pN.K {l d:Nat} {r:Loop} {W y:World} (h:pN l d r W) (k:KeepsOthers W y):pN l d r y:=⟨k.same _ _ h.1 rfl,k.same _ _ h.2 rfl⟩
theorem pN.put {l d:Nat} {r:Loop} {W:World} (h:pN l d r W) (y:d≠l) (A:Loop):pN l d A (W.putObj l (.loop A)):=
 ⟨World.putObj_heap_same (Array.getElem?_eq_some_iff.1 h.1).1,(World.putObj_heap_other y).trans h.2⟩
def aC2 (W:World) (G H:World->Prop):Exit->Act->World->Prop
 | .normal,_,W'=>KeepsOthers W W'/\G W'
 | .ret,_,W'=>KeepsOthers W W'/\H W'
 | _,_,_=>False
theorem aDs {l d:Nat} {r:Loop} {W:World} (O:F.fn r.fn) (M:r.state=.ready) (D:d≠l) (J:pN l d r W) (args:Array Value) (N:args.size=r.params.size) (a₁:Act) (G H:World->Prop)
  (h:∀ K:Act->World->Prop,K a₁ W->r.assign.wpIn (F.inRound l) m P (Exit.then K (fun _ _ _=>False)) { tmps:=(r.params.zip args).foldl (fun t (p,v)=>t.setIfInBounds p v) r.tmps,defers:=[] } W)
  (E:r.body.wpIn (F.inRound l) m P (aC2 (W.putObj l (.loop { r with state:=.busy })) G H) a₁ (W.putObj l (.loop { r with state:=.busy }))) :
  YieldAt F m P l args W fun e S=>
   (e=.returned (.bool true)/\∃ y,G y/\pN l d { r with state:=.busy } y/\S=y.putObj l (.loop { r with state:=.ready,pending:=none }))\/
   (e=.returned (.bool false)/\∃ y,H y/\pN l d { r with state:=.busy } y/\S=y.putObj l (.loop { r with state:=.done,pending:=some .ret })):=by
 refine ⟨r.fn,_,r.assign,r.body,run_yield J.1 N,roundIn_of_wpIn O (h _ ⟨_,run_beginRound J.1 M,wpIn_mono E ?_⟩)⟩;intro e a3 y A
 match e,A with
 | .normal,A=>exact ⟨_,_,run_endRound none ((J.put D _).K A.1).1,.inl ⟨rfl,y,A.2,(J.put D _).K A.1,rfl⟩⟩
 | .ret,A=>exact ⟨_,_,run_endRound (some .ret) ((J.put D _).K A.1).1,.inr ⟨rfl,y,A.2,(J.put D _).K A.1,rfl⟩⟩
theorem aDg {α:Type} {g:Operand} {ps:Array Tmp} {assign body:Code} {Q:Exit->Act->World->Prop} {a:Act} {w:World}
  (c5:F.round=none) (h1:1<=n) {gf:Nat} {lb:Array Value} (hg:a.eval g=.func (.func gf) #[] lb) (c2:F.fn gf) (eg:∀ args w,(callFunc gf args).run P w=.ok (.enter gf args) w)
  (E:α->Array Value) (c7:∀ x,(E x).size=ps.size) (I Y:List α->World->Prop) (Z:World->World->Prop) (S Sp:List α->Prop) (N:Nat)
  (a5:∀ s W l o o',w.heap.size<=l->W.heap[l]?=some o->o.isCells=false->I s W->I s (W.putObj l o'))
  (U:∀ s W l o o',w.heap.size<=l->W.heap[l]?=some o->o.isCells=false->Y s W->Y s (W.putObj l o'))
  (b4:∀ W l o o',w.heap.size<=l->W.heap[l]?=some o->o.isCells=false->Z W (W.putObj l o')) (b7:∀ A B C,Z A B->Z B C->Z A C)
  (h0:∀ o1 o2,I [] ((w.alloc o1).alloc o2)) (a₁:α->Act)
  (M:∀ (l:Nat) (x:α) (W:World) (K:Act->World->Prop),K (a₁ x) W->assign.wpIn (F.inRound l) (n - 1 - 1) P (Exit.then K (fun _ _ _=>False)) { tmps:=(ps.zip (E x)).foldl (fun t (p,v)=>t.setIfInBounds p v) a.tmps,defers:=[] } W)
  (a7:∀ (l:Nat) (y:List α) (x:α) (W:World),I y W->y.length<N->body.wpIn (F.inRound l) (n - 1 - 1) P (aC2 W (fun W'=>Z W W'/\I (y++[x]) W') (Y (y++[x]))) (a₁ x) W)
  (b8:∀ (l:Nat) (R Rx:World->Prop) (W:World),Below w.heap.size w W->(∀ A B,R A->KeepsOthers A B->R B)->(∀ A B,Rx A->KeepsOthers A B->Rx B)->R W->I [] W->
   (∀ y x A,I y A->R A->y.length<N->YieldAt F (n - 1 - 1) P l (E x) A fun e B=>(e=.returned (.bool true)/\I (y++[x]) B/\Z A B/\R B)\/(e=.returned (.bool false)/\Y (y++[x]) B/\Rx B))->
   CallsIn F (n - 1) P gf (#[.func (.yield l) #[] #[]]++lb) W fun e B=>(∃ v,e=.returned v)/\((∃ xs,S xs/\I xs B/\R B)\/(∃ y,Sp y/\Y y B/\Rx B)))
  (a6:∀ (D:Nat) (xs:List α) (W:World),w.heap.size<=D->S xs->I xs W->W.heap[D]?=some (.deferred (some []))->Q .normal { a with defers:={ target:=.collected D,args:=#[] }::a.defers } W)
  (a4:∀ (D:Nat) (y:List α) (W:World),w.heap.size<=D->Sp y->Y y W->W.heap[D]?=some (.deferred (some []))->Code.ret.wpIn F n P Q { a with defers:={ target:=.collected D,args:=#[] }::a.defers } W) :
  (Code.rangeFunc g ps assign body).wpIn F n P Q a w:=by
 refine wpIn_rangeFunc fun fn c1=>?_;obtain ⟨r,X⟩:∃ r:Loop,r = { state:=.ready,pending:=none,fn:=fn,tmps:=a.tmps,params:=ps,assign:=assign,body:=body,defers:=w.heap.size }:=⟨_,rfl⟩;have b6:r.state=.ready:=(by rw [X]);have G:w.heap.size≠w.heap.size+1:=by omega
 have hb:pN (w.heap.size+1) w.heap.size r ((w.alloc (.deferred (some []))).alloc (.loop r)):=by
  constructor
  ·have:=World.alloc_heap_new (w.alloc (.deferred (some []))) (.loop r)
   rwa [World.size_alloc] at this
  ·exact (Below.heap_alloc _ _ _ (by simp)).trans (World.alloc_heap_new w _)
 have b0:Below w.heap.size w ((w.alloc (.deferred (some []))).alloc (.loop r)):=((Below.refl _ w).alloc (Nat.le_refl _) _).alloc (by simp) _
 refine ⟨w.heap.size+1,[{ target:=.collected w.heap.size,args:=#[] }],(w.alloc (.deferred (some []))).alloc (.loop r),{ target:=.fn (.func gf) lb,args:=#[.func (.yield (w.heap.size+1)) #[] #[]] },(w.alloc (.deferred (some []))).alloc (.loop r),gf,
  #[.func (.yield (w.heap.size+1)) #[] #[]]++lb,(w.alloc (.deferred (some []))).alloc (.loop r),?_,?_,?_,?_,fun _=>h1,?_⟩
 ·rw [c5,X];exact run_enterLoop_outer _ _ _ _ _
 ·simp only [resolve,hg];simp [go_sem]
 ·intro f' a9;simp [Target.leads] at a9;subst a9;exact c2
 ·simp [invoke,go_sem,eg]
 ·have a8:=b8 (w.heap.size+1) (pN (w.heap.size+1) w.heap.size r) (pN (w.heap.size+1) w.heap.size { r with state:=.done,pending:=some .ret }) _ b0 (fun _ _ h k=>h.K k) (fun _ _ h k=>h.K k) hb (h0 _ _) ?_
  ·refine a8.mono ?_;rintro e B ⟨⟨v,rfl⟩,⟨xs,hS,hI,J⟩ | ⟨y,hS,hI,J⟩⟩
   ·refine ⟨r.pending,_,run_endLoop J.1 (by rw [b6];simp),?_⟩;rw [X];exact a6 _ xs _ (Nat.le_refl _) hS (a5 _ _ _ _ _ (by omega) J.1 rfl hI) ((World.putObj_heap_other G).trans J.2)
   ·refine ⟨some .ret,_,run_endLoop J.1 (by simp),?_⟩;exact a4 _ y _ (Nat.le_refl _) hS (U _ _ _ _ _ (by omega) J.1 rfl hI) ((World.putObj_heap_other G).trans J.2)
  ·intro y x A hI J b1
   have O:=aDs (F:=F) (m:=n - 1 - 1) (P:=P) (by rw [X];exact c1) b6 G J (E x) (by rw [X];exact c7 x) (a₁ x) (fun W'=>Z (A.putObj (w.heap.size+1) (.loop { r with state:=.busy })) W'/\I (y++[x]) W') (Y (y++[x]))
    (fun K hK=>by rw [X];exact M _ x A K hK) (by
     have:=a7 (w.heap.size+1) y x (A.putObj (w.heap.size+1) (.loop { r with state:=.busy })) (a5 _ _ _ _ _ (by omega) J.1 rfl hI) b1;subst X;exact this)
   obtain ⟨f',tm,c6,c3,hy,c0⟩:=O;refine ⟨f',tm,c6,c3,hy,c0.mono ?_⟩;rintro e B (⟨rfl,W3,⟨hk3,hI3⟩,hb3,rfl⟩ | ⟨rfl,W3,hI3,hb3,rfl⟩)
   ·refine .inl ⟨rfl,a5 _ _ _ _ _ (by omega) hb3.1 rfl hI3,b7 _ _ _ (b7 _ _ _ (b4 _ _ _ _ (by omega) J.1 rfl) hk3) (b4 _ _ _ _ (by omega) hb3.1 rfl),?_⟩;have:=hb3.put G { r with state:=.ready,pending:=none };rw [X] at this ⊢;exact this
   ·exact .inr ⟨rfl,U _ _ _ _ _ (by omega) hb3.1 rfl hI3,hb3.put G _⟩
end
end Go.Proofs.YtmfehflibkokbaaGreatDoor
namespace Go.Proofs.YtmfehflibkokbaaGreatDoor
open Go.Proofs.Tryz
open Go.RowKit
abbrev aR (T C:TypeId) (v z:Value):Prop:=∀ w:World,(Instr.typeAssert (.iface T v) 62 C true).run prog w=.ok (.tuple #[z,.bool false]) w
abbrev mI (T C:TypeId) (v:Value):Prop:=∀ w:World,(Instr.typeAssert (.iface T v) 62 C true).run prog w=.ok (.tuple #[v,.bool true]) w
theorem aI8 (v:Value):mI 67 67 v:=fun w=>by kernel_rfl
def aKy (T:TypeId):Prop:=T=178\/T=185\/T=180\/T=188\/T=192
theorem aIZ {T:TypeId} (h:aKy T) (v:Value) :
  aR T 67 v (.pointer none)/\aR T 73 v (.agg #[])/\aR T 179 v (.agg #[])/\aR T 74 v (.agg #[])/\aR T 75 v (.agg #[]):=by
 rcases h with rfl | rfl | rfl | rfl | rfl<;>exact ⟨fun w=>by kernel_rfl,fun w=>by kernel_rfl,fun w=>by kernel_rfl,fun w=>by kernel_rfl,fun w=>by kernel_rfl⟩
theorem aJM:aR 73 67 (.agg #[]) (.pointer none)/\mI 73 73 (.agg #[])/\aR 73 179 (.agg #[]) (.agg #[])/\aR 73 74 (.agg #[]) (.agg #[])/\aR 73 75 (.agg #[]) (.agg #[]):=
 ⟨fun w=>by kernel_rfl,fun w=>by kernel_rfl,fun w=>by kernel_rfl,fun w=>by kernel_rfl,fun w=>by kernel_rfl⟩
theorem aJs:aR 179 67 (.agg #[]) (.pointer none)/\aR 179 73 (.agg #[]) (.agg #[])/\mI 179 179 (.agg #[])/\aR 179 74 (.agg #[]) (.agg #[])/\aR 179 75 (.agg #[]) (.agg #[]):=
 ⟨fun w=>by kernel_rfl,fun w=>by kernel_rfl,fun w=>by kernel_rfl,fun w=>by kernel_rfl,fun w=>by kernel_rfl⟩
theorem aJD:aR 74 67 (.agg #[]) (.pointer none)/\aR 74 73 (.agg #[]) (.agg #[])/\aR 74 179 (.agg #[]) (.agg #[])/\mI 74 74 (.agg #[])/\aR 74 75 (.agg #[]) (.agg #[]):=
 ⟨fun w=>by kernel_rfl,fun w=>by kernel_rfl,fun w=>by kernel_rfl,fun w=>by kernel_rfl,fun w=>by kernel_rfl⟩
theorem aLm:aR 75 67 (.agg #[]) (.pointer none)/\aR 75 73 (.agg #[]) (.agg #[])/\aR 75 179 (.agg #[]) (.agg #[])/\aR 75 74 (.agg #[]) (.agg #[])/\mI 75 75 (.agg #[]):=
 ⟨fun w=>by kernel_rfl,fun w=>by kernel_rfl,fun w=>by kernel_rfl,fun w=>by kernel_rfl,fun w=>by kernel_rfl⟩
theorem nN:mI 178 178 (.agg #[])/\aR 178 67 (.agg #[]) (.pointer none)/\aR 178 73 (.agg #[]) (.agg #[])/\aR 178 179 (.agg #[]) (.agg #[])/\aR 178 74 (.agg #[]) (.agg #[])/\aR 178 75 (.agg #[]) (.agg #[])/\aR 178 185 (.agg #[]) (.pointer none)/\aR 178 180 (.agg #[]) (.pointer none)/\aR 178 188 (.agg #[]) (.pointer none)/\aR 178 192 (.agg #[]) (.pointer none):=
 ⟨fun w=>by kernel_rfl,fun w=>by kernel_rfl,fun w=>by kernel_rfl,fun w=>by kernel_rfl,fun w=>by kernel_rfl,fun w=>by kernel_rfl,fun w=>by kernel_rfl,fun w=>by kernel_rfl,fun w=>by kernel_rfl,fun w=>by kernel_rfl⟩
theorem qG (v:Value):aR 67 178 v (.agg #[])/\mI 67 67 v/\aR 67 73 v (.agg #[])/\aR 67 179 v (.agg #[])/\aR 67 74 v (.agg #[])/\aR 67 75 v (.agg #[])/\aR 67 185 v (.pointer none)/\aR 67 180 v (.pointer none)/\aR 67 188 v (.pointer none)/\aR 67 192 v (.pointer none):=
 ⟨fun w=>by kernel_rfl,fun w=>by kernel_rfl,fun w=>by kernel_rfl,fun w=>by kernel_rfl,fun w=>by kernel_rfl,fun w=>by kernel_rfl,fun w=>by kernel_rfl,fun w=>by kernel_rfl,fun w=>by kernel_rfl,fun w=>by kernel_rfl⟩
theorem qN:aR 73 178 (.agg #[]) (.agg #[])/\aR 73 67 (.agg #[]) (.pointer none)/\mI 73 73 (.agg #[])/\aR 73 179 (.agg #[]) (.agg #[])/\aR 73 74 (.agg #[]) (.agg #[])/\aR 73 75 (.agg #[]) (.agg #[])/\aR 73 185 (.agg #[]) (.pointer none)/\aR 73 180 (.agg #[]) (.pointer none)/\aR 73 188 (.agg #[]) (.pointer none)/\aR 73 192 (.agg #[]) (.pointer none):=
 ⟨fun w=>by kernel_rfl,fun w=>by kernel_rfl,fun w=>by kernel_rfl,fun w=>by kernel_rfl,fun w=>by kernel_rfl,fun w=>by kernel_rfl,fun w=>by kernel_rfl,fun w=>by kernel_rfl,fun w=>by kernel_rfl,fun w=>by kernel_rfl⟩
theorem qP:aR 179 178 (.agg #[]) (.agg #[])/\aR 179 67 (.agg #[]) (.pointer none)/\aR 179 73 (.agg #[]) (.agg #[])/\mI 179 179 (.agg #[])/\aR 179 74 (.agg #[]) (.agg #[])/\aR 179 75 (.agg #[]) (.agg #[])/\aR 179 185 (.agg #[]) (.pointer none)/\aR 179 180 (.agg #[]) (.pointer none)/\aR 179 188 (.agg #[]) (.pointer none)/\aR 179 192 (.agg #[]) (.pointer none):=
 ⟨fun w=>by kernel_rfl,fun w=>by kernel_rfl,fun w=>by kernel_rfl,fun w=>by kernel_rfl,fun w=>by kernel_rfl,fun w=>by kernel_rfl,fun w=>by kernel_rfl,fun w=>by kernel_rfl,fun w=>by kernel_rfl,fun w=>by kernel_rfl⟩
theorem tY:aR 74 178 (.agg #[]) (.agg #[])/\aR 74 67 (.agg #[]) (.pointer none)/\aR 74 73 (.agg #[]) (.agg #[])/\aR 74 179 (.agg #[]) (.agg #[])/\mI 74 74 (.agg #[])/\aR 74 75 (.agg #[]) (.agg #[])/\aR 74 185 (.agg #[]) (.pointer none)/\aR 74 180 (.agg #[]) (.pointer none)/\aR 74 188 (.agg #[]) (.pointer none)/\aR 74 192 (.agg #[]) (.pointer none):=
 ⟨fun w=>by kernel_rfl,fun w=>by kernel_rfl,fun w=>by kernel_rfl,fun w=>by kernel_rfl,fun w=>by kernel_rfl,fun w=>by kernel_rfl,fun w=>by kernel_rfl,fun w=>by kernel_rfl,fun w=>by kernel_rfl,fun w=>by kernel_rfl⟩
theorem xQ:aR 75 178 (.agg #[]) (.agg #[])/\aR 75 67 (.agg #[]) (.pointer none)/\aR 75 73 (.agg #[]) (.agg #[])/\aR 75 179 (.agg #[]) (.agg #[])/\aR 75 74 (.agg #[]) (.agg #[])/\mI 75 75 (.agg #[])/\aR 75 185 (.agg #[]) (.pointer none)/\aR 75 180 (.agg #[]) (.pointer none)/\aR 75 188 (.agg #[]) (.pointer none)/\aR 75 192 (.agg #[]) (.pointer none):=
 ⟨fun w=>by kernel_rfl,fun w=>by kernel_rfl,fun w=>by kernel_rfl,fun w=>by kernel_rfl,fun w=>by kernel_rfl,fun w=>by kernel_rfl,fun w=>by kernel_rfl,fun w=>by kernel_rfl,fun w=>by kernel_rfl,fun w=>by kernel_rfl⟩
theorem nS (v:Value):aR 185 178 v (.agg #[])/\aR 185 67 v (.pointer none)/\aR 185 73 v (.agg #[])/\aR 185 179 v (.agg #[])/\aR 185 74 v (.agg #[])/\aR 185 75 v (.agg #[])/\mI 185 185 v/\aR 185 180 v (.pointer none)/\aR 185 188 v (.pointer none)/\aR 185 192 v (.pointer none):=
 ⟨fun w=>by kernel_rfl,fun w=>by kernel_rfl,fun w=>by kernel_rfl,fun w=>by kernel_rfl,fun w=>by kernel_rfl,fun w=>by kernel_rfl,fun w=>by kernel_rfl,fun w=>by kernel_rfl,fun w=>by kernel_rfl,fun w=>by kernel_rfl⟩
theorem pW (v:Value):aR 180 178 v (.agg #[])/\aR 180 67 v (.pointer none)/\aR 180 73 v (.agg #[])/\aR 180 179 v (.agg #[])/\aR 180 74 v (.agg #[])/\aR 180 75 v (.agg #[])/\aR 180 185 v (.pointer none)/\mI 180 180 v/\aR 180 188 v (.pointer none)/\aR 180 192 v (.pointer none):=
 ⟨fun w=>by kernel_rfl,fun w=>by kernel_rfl,fun w=>by kernel_rfl,fun w=>by kernel_rfl,fun w=>by kernel_rfl,fun w=>by kernel_rfl,fun w=>by kernel_rfl,fun w=>by kernel_rfl,fun w=>by kernel_rfl,fun w=>by kernel_rfl⟩
theorem vA (v:Value):aR 188 178 v (.agg #[])/\aR 188 67 v (.pointer none)/\aR 188 73 v (.agg #[])/\aR 188 179 v (.agg #[])/\aR 188 74 v (.agg #[])/\aR 188 75 v (.agg #[])/\aR 188 185 v (.pointer none)/\aR 188 180 v (.pointer none)/\mI 188 188 v/\aR 188 192 v (.pointer none):=
 ⟨fun w=>by kernel_rfl,fun w=>by kernel_rfl,fun w=>by kernel_rfl,fun w=>by kernel_rfl,fun w=>by kernel_rfl,fun w=>by kernel_rfl,fun w=>by kernel_rfl,fun w=>by kernel_rfl,fun w=>by kernel_rfl,fun w=>by kernel_rfl⟩
theorem tZ (v:Value):aR 192 178 v (.agg #[])/\aR 192 67 v (.pointer none)/\aR 192 73 v (.agg #[])/\aR 192 179 v (.agg #[])/\aR 192 74 v (.agg #[])/\aR 192 75 v (.agg #[])/\aR 192 185 v (.pointer none)/\aR 192 180 v (.pointer none)/\aR 192 188 v (.pointer none)/\mI 192 192 v:=
 ⟨fun w=>by kernel_rfl,fun w=>by kernel_rfl,fun w=>by kernel_rfl,fun w=>by kernel_rfl,fun w=>by kernel_rfl,fun w=>by kernel_rfl,fun w=>by kernel_rfl,fun w=>by kernel_rfl,fun w=>by kernel_rfl,fun w=>by kernel_rfl⟩
end Go.Proofs.YtmfehflibkokbaaGreatDoor
