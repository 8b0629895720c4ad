import Derived.Maps.OwnOps
import Derived.Test.YtbiiopiaglkicaaDoorMAN
namespace Go.Proofs.YtbiiopiaglkicaaDoor
open Go.RowKit

def LeafT (t : TypeId) : Prop := t = 139 ∨ t = 95 ∨ t = 103 ∨ t = 96 ∨ t = 97
def PtrT (t : TypeId) : Prop := t = 89 ∨ t = 146 ∨ t = 141 ∨ t = 149 ∨ t = 153

/-- A node's value as the key of a map. -/
inductive NKey (w : World) : Value → Prop
  | leaf (t : TypeId) (h : LeafT t) : NKey w (.iface t (.agg #[]))
  | ptr (t : TypeId) (b : Nat) (cs : Array Value) (t' : TypeId) (h : PtrT t) (hb : w.heap[b]? = some (.cells cs t')) : NKey w (.iface t (.pointer (some ⟨b, 0, none⟩)))

theorem NKey.turn {w w' : World} {v : Value} (h : NKey w v) (hk : ∀ t b, v = .iface t (.pointer (some ⟨b, 0, none⟩)) → w'.heap[b]? = w.heap[b]?) : NKey w' v := by
  cases h with
  | leaf t h => exact .leaf t h
  | ptr t b cs t' h hb => exact .ptr t b cs t' h ((hk t b rfl).trans hb)

def kCode : Value → Option (TypeId × Option Nat)
  | .iface t (.agg _) => some (t, none)
  | .iface t (.pointer (some a)) => some (t, some a.block)
  | .pointer (some a) => some (0, some a.block)
  | _ => none
def kEq (x y : Value) : Bool :=
  match kCode x, kCode y with
  | some a, some b => a == b
  | _, _ => false
theorem kEq_comm (x y : Value) : kEq x y = kEq y x := by
  unfold kEq
  cases kCode x <;> cases kCode y <;> simp [Bool.beq_comm]
theorem kEq_true {x y : Value} (h : kEq x y = true) : ∃ c, kCode x = some c ∧ kCode y = some c := by
  unfold kEq at h
  cases hx : kCode x with
  | none => rw [hx] at h; cases h
  | some a =>
    cases hy : kCode y with
    | none => rw [hx, hy] at h; cases h
    | some b =>
      rw [hx, hy] at h
      simp at h
      exact ⟨a, rfl, by rw [h]⟩
theorem kEq_of {x y : Value} {c : TypeId × Option Nat} (hx : kCode x = some c) (hy : kCode y = some c) : kEq x y = true := by
  unfold kEq; rw [hx, hy]; simp
theorem kEq_trans {x y z : Value} (h : kEq x y = true) (h' : kEq y z = true) : kEq x z = true := by
  obtain ⟨c, h1, h2⟩ := kEq_true h
  obtain ⟨d, h3, h4⟩ := kEq_true h'
  rw [h2] at h3
  cases h3
  exact kEq_of h1 h4

theorem run_sameAddr {w : World} {a b : Nat} {ca cb : Array Value} {ta tb : TypeId} (ha : w.heap[a]? = some (.cells ca ta)) (hb : w.heap[b]? = some (.cells cb tb)) :
    (sameAddr ⟨a, 0, none⟩ ⟨b, 0, none⟩).run Tryd.prog w = .ok (a == b) w := by
  by_cases h : a = b
  · subst h
    simp [sameAddr]
  · have h1 : (a == b) = false := by simpa using h
    have sa : w.shape? a = some (ta, ca.size) := by simp [World.shape?, ha]
    have sb : w.shape? b = some (tb, cb.size) := by simp [World.shape?, hb]
    simp [sameAddr, h1, go_sem, noView, viewAt, mayBeOne, stringish, sa, sb, ha, hb, World.frozen?]

set_option maxRecDepth 100000 in
theorem eq_ptr (t : TypeId) (h : PtrT t) (a b : Addr) (w : World) : (Op.equal 84 (.iface t (.pointer (some a))) (.iface t (.pointer (some b)))).run Tryd.prog w = (sameAddr a b).run Tryd.prog w := by
  rcases h with rfl | rfl | rfl | rfl | rfl <;> kernel_rfl
set_option maxRecDepth 100000 in
theorem eq_leaf (t t' : TypeId) (h : LeafT t) (h' : LeafT t') (w : World) : (Op.equal 84 (.iface t (.agg #[])) (.iface t' (.agg #[]))).run Tryd.prog w = .ok (t == t') w := by
  rcases h with rfl | rfl | rfl | rfl | rfl <;> rcases h' with rfl | rfl | rfl | rfl | rfl <;> kernel_rfl
theorem eq_diff (t t' : TypeId) (x y : Value) (h : t ≠ t') (w : World) : (Op.equal 84 (.iface t x) (.iface t' y)).run Tryd.prog w = .ok false w := by
  unfold Op.equal Op.maxDepth
  rw [show (10000 : Nat) = 9999 + 1 from rfl]
  generalize 9999 = d
  simp [Op.equalIn, go_sem, h]

theorem leaf_not_ptr {t : TypeId} (h : LeafT t) (h' : PtrT t) : False := by
  rcases h with rfl | rfl | rfl | rfl | rfl <;> rcases h' with h | h | h | h | h <;> cases h

theorem run_eqk {w : World} {k k' : Value} (h : NKey w k) (h' : NKey w k') : (Op.equal 84 k k').run Tryd.prog w = .ok (kEq k k') w := by
  cases h with
  | leaf t h =>
    cases h' with
    | leaf t' h' => rw [eq_leaf t t' h h' w]; congr 1; rw [Bool.eq_iff_iff]; simp [kEq, kCode]
    | ptr t' b cs t'' h' hb => rw [eq_diff t t' _ _ (fun e => leaf_not_ptr (by rw [e] at h; exact h) h') w]; simp [kEq, kCode]
  | ptr t b cs t'' h hb =>
    cases h' with
    | leaf t' h' => rw [eq_diff t t' _ _ (fun e => leaf_not_ptr h' (by rw [e] at h; exact h)) w]; simp [kEq, kCode]
    | ptr t' b' cs' t3 h' hb' =>
      by_cases e : t = t'
      · subst e
        rw [eq_ptr t h, run_sameAddr hb hb']
        congr 1
        rw [Bool.eq_iff_iff]
        simp [kEq, kCode]
      · rw [eq_diff t t' _ _ e]
        simp [kEq, kCode, e]

theorem kEq_iff {w : World} {k k' : Value} (h : NKey w k) (h' : NKey w k') : kEq k k' = true ↔ k = k' := by
  cases h with
  | leaf t h =>
    cases h' with
    | leaf t' h' => simp [kEq, kCode]
    | ptr t' b cs t'' h' hb => simp [kEq, kCode]
  | ptr t b cs t'' h hb =>
    cases h' with
    | leaf t' h' => simp [kEq, kCode]
    | ptr t' b' cs' t3 h' hb' => simp [kEq, kCode]
theorem kEq_self {w : World} {k : Value} (h : NKey w k) : kEq k k = true := (kEq_iff h h).2 rfl

/-- What a map holds at a key. -/
def look (k : Value) : List MapEntry → Nat → Option (Nat × Value)
  | [], _ => none
  | e :: es, i => if kEq k e.key then some (i, e.val) else look k es (i + 1)

theorem run_findAsking {w : World} {k : Value} (h : NKey w k) : ∀ (es : List MapEntry) (i : Nat), (∀ e ∈ es, NKey w e.key) → (Instr.findAsking 84 k es i).run Tryd.prog w = .ok (look k es i) w
  | [], i, _ => by simp [Instr.findAsking, look]
  | e :: es, i, he => by
    have h1 := run_eqk h (he e (List.mem_cons_self ..))
    have h2 := run_findAsking h es (i + 1) (fun x hx => he x (List.mem_cons_of_mem _ hx))
    simp only [Instr.findAsking, look, Sem.run_bind, h1, Result.andThen_ok]
    cases kEq k e.key
    · simpa using h2
    · simp

theorem run_findKey {w : World} {k : Value} (h : NKey w k) (es : List MapEntry) (he : ∀ e ∈ es, NKey w e.key) : (Instr.findKey 84 k es).run Tryd.prog w = .ok (look k es 0) w := by
  have h2 := run_findAsking h es 0 he
  unfold Instr.findKey
  rw [Sem.run_bind, run_underlying Tryd.underlying84, Result.andThen_ok]
  cases es with
  | nil => simp [Instr.findNow, look]
  | cons e es =>
    simp only [Instr.findNow, Instr.sameNow]
    exact h2

set_option maxRecDepth 100000 in
theorem run_checkKey {w : World} {k : Value} (h : NKey w k) (e : Bool) : (Instr.checkKey e 10000 84 k).run Tryd.prog w = .ok () w := by
  cases h with
  | leaf t h => rcases h with rfl | rfl | rfl | rfl | rfl <;> kernel_rfl
  | ptr t b cs t' h hb => rcases h with rfl | rfl | rfl | rfl | rfl <;> kernel_rfl


/-- The map at block b, keyed by nodes: what it holds at each key, and how many entries it has. -/
def MapIs (w : World) (b : Nat) (f : Value → Option Value) (n : Nat) : Prop :=
  ∃ es clock, w.heap[b]? = some (.map es clock) ∧ es.size = n ∧ (∀ e ∈ es.toList, NKey w e.key) ∧ ∀ k, (look k es.toList 0).map (·.2) = f k

theorem look_shift (k : Value) : ∀ (es : List MapEntry) (i : Nat), look k es i = (look k es 0).map (fun x => (x.1 + i, x.2))
  | [], i => by simp [look]
  | e :: es, i => by
    simp only [look]
    rw [look_shift k es (i + 1), look_shift k es (0 + 1)]
    cases kEq k e.key
    · simp only [Bool.false_eq_true, if_false, Option.map_map]
      congr 1
      funext x
      simp
      omega
    · simp
theorem look_app {w : World} {k : Value} : ∀ (es : List MapEntry) (e : MapEntry) (i : Nat), look k (es ++ [e]) i = match look k es i with | some x => some x | none => if kEq k e.key then some (i + es.length, e.val) else none
  | [], e, i => by simp [look]
  | d :: es, e, i => by
    simp only [List.cons_append, look]
    cases kEq k d.key
    · simp only [Bool.false_eq_true, if_false]
      rw [look_app (w := w) es e (i + 1)]
      simp only [List.length_cons]
      rw [show i + 1 + es.length = i + (es.length + 1) by omega]
    · simp

theorem mapIs_made (w : World) : MapIs (w.alloc (.map #[] 0)) w.heap.size (fun _ => none) 0 :=
  ⟨#[], 0, heap_alloc_new _ _, rfl, by simp, fun k => by simp [look]⟩

theorem MapIs.run_lookup {w : World} {b n : Nat} {f : Value → Option Value} (h : MapIs w b f n) {t e : TypeId} (ht : Tryd.prog.underlying t = some (.map 84 e)) {z : Value} (hz : (zeroValue e).run Tryd.prog w = .ok z w) {k : Value} (hk : NKey w k) :
    (Instr.lookup t (.map (some b)) k false).run Tryd.prog w = .ok ((f k).getD z) w := by
  obtain ⟨es, clock, hb, hn, he, hl⟩ := h
  have h1 := run_findKey hk es.toList he
  have h2 := hl k
  have h3 := run_checkKey hk es.isEmpty
  cases hx : look k es.toList 0 with
  | none =>
    rw [hx] at h2 h1
    simp only [Option.map_none] at h2
    rw [← h2]
    simp [Instr.lookup, run_underlying ht, MapKept.run_getObj_map hb, h3, h1, hz]
  | some x =>
    rw [hx] at h2 h1
    simp only [Option.map_some] at h2
    rw [← h2]
    simp [Instr.lookup, run_underlying ht, MapKept.run_getObj_map hb, h3, h1]

theorem MapIs.lt {w : World} {b n : Nat} {f : Value → Option Value} (h : MapIs w b f n) : b < w.heap.size := by
  obtain ⟨es, clock, hb, _⟩ := h
  exact (Array.getElem?_eq_some_iff.1 hb).1

theorem look_modify {w : World} {k k' x : Value} (hk : NKey w k) : ∀ (l : List MapEntry) (i : Nat) (v : Value), (∀ e ∈ l, NKey w e.key) → look k l 0 = some (i, v) →
    (look k' (l.modify i fun e => { e with key := k, val := x }) 0).map (·.2) = if kEq k k' then some x else (look k' l 0).map (·.2)
  | [], i, v, _, h => by simp [look] at h
  | e :: es, i, v, he, h => by
    have hke := he e (List.mem_cons_self ..)
    simp only [look] at h
    cases hq : kEq k e.key with
    | true =>
      rw [hq] at h
      simp only [if_true, Option.some.injEq, Prod.mk.injEq] at h
      obtain ⟨rfl, _⟩ := h
      have hkk := (kEq_iff hk hke).1 hq
      rw [List.modify_zero_cons]
      simp only [look]
      rw [← hkk, kEq_comm k' k]
      cases kEq k k' <;> simp
    | false =>
      rw [hq] at h
      simp only [Bool.false_eq_true, if_false] at h
      rw [look_shift] at h
      cases hx : look k es 0 with
      | none => rw [hx] at h; cases h
      | some y =>
        obtain ⟨j, u⟩ := y
        rw [hx] at h
        simp only [Option.map_some, Option.some.injEq, Prod.mk.injEq] at h
        obtain ⟨h1, h2⟩ := h
        subst h1
        have IH := look_modify (k' := k') (x := x) hk es j u (fun z hz => he z (List.mem_cons_of_mem _ hz)) hx
        rw [show 0 + 1 = 1 from rfl, List.modify_succ_cons]
        simp only [look]
        cases hq2 : kEq k' e.key with
        | true =>
          have e1 : kEq k k' = false := by
            rw [Bool.eq_false_iff]
            intro h
            rw [kEq_trans h hq2] at hq
            cases hq
          simp [e1]
        | false =>
          simp only [Bool.false_eq_true, if_false]
          rw [look_shift k' _ (0 + 1), look_shift k' es (0 + 1)]
          simpa [Option.map_map, Function.comp_def] using IH

theorem sameBits_key {w : World} {k : Value} (hk : NKey w k) : Instr.sameBits 10000 k k = true := by
  rw [show (10000 : Nat) = 9998 + 1 + 1 from rfl]
  generalize 9998 = d
  cases hk <;> simp [Instr.sameBits]
theorem run_stays {w : World} {k : Value} (hk : NKey w k) : (Instr.keyThatStays k k).run Tryd.prog w = .ok k w := by
  simp [Instr.keyThatStays, sameBits_key hk]

theorem look_at {w : World} {k : Value} (hk : NKey w k) : ∀ (l : List MapEntry) (i : Nat) (v : Value), (∀ e ∈ l, NKey w e.key) → look k l 0 = some (i, v) → ∃ e, l[i]? = some e ∧ e.key = k
  | [], i, v, _, h => by simp [look] at h
  | e :: es, i, v, he, h => by
    simp only [look] at h
    cases hq : kEq k e.key with
    | true =>
      rw [hq] at h
      simp only [if_true, Option.some.injEq, Prod.mk.injEq] at h
      obtain ⟨rfl, _⟩ := h
      exact ⟨e, rfl, ((kEq_iff hk (he e (List.mem_cons_self ..))).1 hq).symm⟩
    | false =>
      rw [hq] at h
      simp only [Bool.false_eq_true, if_false] at h
      rw [look_shift] at h
      cases hx : look k es 0 with
      | none => rw [hx] at h; cases h
      | some y =>
        obtain ⟨j, u⟩ := y
        rw [hx] at h
        simp only [Option.map_some, Option.some.injEq, Prod.mk.injEq] at h
        obtain ⟨h1, h2⟩ := h
        subst h1
        obtain ⟨d, h3, h4⟩ := look_at hk es j u (fun z hz => he z (List.mem_cons_of_mem _ hz)) hx
        exact ⟨d, by simpa using h3, h4⟩

/-- A map's block is no node's. -/
theorem NKey.set {w : World} {b : Nat} {es : Array MapEntry} {c : Nat} (hb : w.heap[b]? = some (.map es c)) (o : Obj) {v : Value} (h : NKey w v) : NKey { w with heap := w.heap.setIfInBounds b o } v :=
  h.turn fun t k e => by
    refine (MapKept.heap_set hb).2 k fun e2 => ?_
    cases h with
    | leaf t h => cases e
    | ptr t b' cs t' h hb' =>
      cases e
      rw [e2, hb] at hb'
      cases hb'
theorem NKey.keep {w w' : World} {v : Value} (h : NKey w v) (hg : w.grownBy w' none) : NKey w' v := by
  cases h with
  | leaf t h => exact .leaf t h
  | ptr t b cs t' h hb => exact .ptr t b cs t' h ((hg.block b (Array.getElem?_eq_some_iff.1 hb).1 (by simp)).trans hb)
theorem MapIs.keep {w w' : World} {b n : Nat} {f : Value → Option Value} (h : MapIs w b f n) (hg : w.grownBy w' none) : MapIs w' b f n := by
  have hlt := h.lt
  obtain ⟨es, clock, hb, hn, he, hl⟩ := h
  exact ⟨es, clock, (hg.block b hlt (by simp)).trans hb, hn, fun e hm => (he e hm).keep hg, hl⟩
theorem NKey.besides {w w' : World} {v : Value} {r : Nat} {es : Array MapEntry} {c : Nat} (h : NKey w v) (hr : w.heap[r]? = some (.map es c)) (hg : w.grownBy w' (some r)) : NKey w' v := by
  cases h with
  | leaf t h => exact .leaf t h
  | ptr t b cs t' h hb => exact .ptr t b cs t' h ((hg.block b (Array.getElem?_eq_some_iff.1 hb).1 (fun e => by cases e; rw [hr] at hb; cases hb)).trans hb)

theorem MapIs.run_update {w : World} {b n : Nat} {f : Value → Option Value} (h : MapIs w b f n) {t e : TypeId} (ht : Tryd.prog.underlying t = some (.map 84 e)) {k : Value} (hk : NKey w k) (x : Value) :
    ∃ w', (Instr.mapUpdate t (.map (some b)) k x).run Tryd.prog w = .ok () w' ∧ MapIs w' b (fun k' => if kEq k k' then some x else f k') (if (f k).isSome then n else n + 1) ∧ w.grownBy w' (some b) := by
  obtain ⟨es, clock, hb, hn, he, hl⟩ := h
  have h1 := run_findKey hk es.toList he
  have h2 := hl k
  have h3 := run_checkKey hk false
  have hgr : ∀ o, w.grownBy { w with heap := w.heap.setIfInBounds b o } (some b) := fun o => ⟨rfl, rfl, rfl, by simp, fun i _ hi => (MapKept.heap_set hb).2 i (fun e => hi (by rw [e]))⟩
  cases hx : look k es.toList 0 with
  | none =>
    rw [hx] at h2 h1
    simp only [Option.map_none] at h2
    refine ⟨_, by simp [Instr.mapUpdate, run_underlying ht, MapKept.run_getObj_map hb, h3, h1, MapKept.run_setObj_map _ hb]; rfl, ⟨_, _, (MapKept.heap_set hb).1, ?_, ?_, ?_⟩, hgr _⟩
    · rw [← h2]; simp [hn]
    · intro z hz
      rw [Array.toList_push] at hz
      rcases List.mem_append.1 hz with hz | hz
      · exact (he z hz).set hb _
      · simp only [List.mem_singleton] at hz
        subst hz
        exact hk.set hb _
    · intro k'
      rw [Array.toList_push, look_app (w := w)]
      have h5 := hl k'
      cases hy : look k' es.toList 0 with
      | none =>
        rw [hy] at h5
        simp only [Option.map_none] at h5
        dsimp only
        rw [← h5, kEq_comm k' k]
        cases kEq k k' <;> simp
      | some y =>
        rw [hy] at h5
        simp only [Option.map_some] at h5 ⊢
        have e2 : kEq k k' = false := by
          rw [Bool.eq_false_iff]
          intro h
          have hn : ∀ (l : List MapEntry) (i : Nat), look k l i = none → look k' l i = none := by
            intro l
            induction l with
            | nil => intro i _; rfl
            | cons d l IH =>
              intro i hi
              simp only [look] at hi ⊢
              cases hq : kEq k d.key with
              | true => rw [hq] at hi; simp at hi
              | false =>
                rw [hq] at hi
                simp only [Bool.false_eq_true, if_false] at hi
                have : kEq k' d.key = false := by
                  rw [Bool.eq_false_iff]
                  intro h2
                  rw [kEq_trans h h2] at hq
                  cases hq
                rw [this]
                simp only [Bool.false_eq_true, if_false]
                exact IH (i + 1) hi
          rw [hn _ _ hx] at hy
          cases hy
        rw [e2]
        simpa using h5
  | some y =>
    obtain ⟨i, v⟩ := y
    rw [hx] at h2 h1
    simp only [Option.map_some] at h2
    obtain ⟨d, hd, hdk⟩ := look_at hk es.toList i v he hx
    have hd' : es[i]? = some d := by rw [← Array.getElem?_toList]; exact hd
    refine ⟨_, by simp [Instr.mapUpdate, run_underlying ht, MapKept.run_getObj_map hb, h3, h1, hd', hdk, run_stays hk, MapKept.run_setObj_map _ hb]; rfl, ⟨_, _, (MapKept.heap_set hb).1, ?_, ?_, ?_⟩, hgr _⟩
    · rw [← h2]; simp [hn]
    · intro z hz
      rw [Array.toList_modify] at hz
      obtain ⟨j, hj⟩ := List.mem_iff_getElem?.1 hz
      rw [List.getElem?_modify] at hj
      cases hq : es.toList[j]? with
      | none => rw [hq] at hj; simp at hj
      | some q =>
        rw [hq] at hj
        simp only [Option.map_eq_map, Option.map_some, Option.some.injEq] at hj
        split at hj
        · subst hj; exact hk.set hb _
        · subst hj; exact (he q (List.mem_of_getElem? hq)).set hb _
    · intro k'
      rw [Array.toList_modify, look_modify hk es.toList i v he hx, hl k']


/-- 'm[k] = v' at the operation, for the walk. -/
theorem wpList_mapUpdate_node (w : World) {ops : Array Oper} {rest : List Oper} {o : Oper} {a : Act} {Q : Exit → Act → World → Prop}
    (hg : o.guard = none) (m x v : Operand) (t : TypeId) (hop : o.op = Op.mapUpdate t m x v) (e : TypeId) (ht : Tryd.prog.underlying t = some (.map 84 e)) (b n : Nat) (f : Value → Option Value)
    (hm : a.eval m = .map (some b)) (hown : MapIs w b f n) (key val : Value) (hx : a.eval x = key) (hv : a.eval v = val) (hkey : NKey w key)
    (hK : ∀ w', MapIs w' b (fun k' => if kEq key k' then some val else f k') (if (f key).isSome then n else n + 1) → w.grownBy w' (some b) → wpList Tryd.prog ops Q rest (a.put o.dst undef) w') :
    wpList Tryd.prog ops Q (o :: rest) a w := by
  refine wpList_plain hg fun K' hK' => ?_
  obtain ⟨w', hrun, r1, r2⟩ := hown.run_update ht hkey val
  unfold Oper.wp
  simp [execOp, hop, hm, hx, hv, hrun, Result.andThen]
  exact hK' _ _ (hK w' r1 r2)

end Go.Proofs.YtbiiopiaglkicaaDoor

