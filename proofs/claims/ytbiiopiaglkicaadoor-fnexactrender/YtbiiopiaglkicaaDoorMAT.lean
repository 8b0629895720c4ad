import Derived.Test.YtbiiopiaglkicaaDoorMAO
import Derived.Test.YtbiiopiaglkicaaDoorMAP
import Derived.Test.YtbiiopiaglkicaaDoorMAQ
namespace Go.Proofs.YtbiiopiaglkicaaDoor.P
open Go.RowKit Go.Proofs.YtbiiopiaglkicaaDoor

/-- A pointer to a group as the key of a map. -/
inductive NKey (w : World) : Value → Prop
  | ptr (b : Nat) (cs : Array Value) (t' : TypeId) (hb : w.heap[b]? = some (.cells cs t')) : NKey w (.pointer (some ⟨b, 0, none⟩))

set_option maxRecDepth 100000 in
theorem eq_ptr (a b : Addr) (w : World) : (Op.equal 146 (.pointer (some a)) (.pointer (some b))).run Tryd.prog w = (sameAddr a b).run Tryd.prog w := by kernel_rfl

theorem run_eqk {w : World} {k k' : Value} (h : NKey w k) (h' : NKey w k') : (Op.equal 146 k k').run Tryd.prog w = .ok (kEq k k') w := by
  cases h with
  | ptr b cs t hb =>
    cases h' with
    | ptr b' cs' t' hb' =>
      rw [eq_ptr, run_sameAddr hb hb']
      congr 1
theorem kEq_iff {w : World} {k k' : Value} (h : NKey w k) (h' : NKey w k') : kEq k k' = true ↔ k = k' := by
  cases h with
  | ptr b cs t hb =>
    cases h' with
    | ptr b' cs' t' hb' => simp [kEq, kCode]
theorem kEq_self {w : World} {k : Value} (h : NKey w k) : kEq k k = true := (kEq_iff h h).2 rfl

theorem run_findAsking {w : World} {k : Value} (h : NKey w k) : ∀ (es : List MapEntry) (i : Nat), (∀ e ∈ es, NKey w e.key) → (Instr.findAsking 146 k es i).run Tryd.prog w = .ok (look k es i) w
  | [], i, _ => by simp [Instr.findAsking, look]
  | e :: es, i, he => by
    have h1 := run_eqk h (he e (List.mem_cons_self ..))
    have h2 := run_findAsking h es (i + 1) (fun x hx => he x (List.mem_cons_of_mem _ hx))
    simp only [Instr.findAsking, look, Sem.run_bind, h1, Result.andThen_ok]
    cases kEq k e.key
    · simpa using h2
    · simp

theorem run_findKey {w : World} {k : Value} (h : NKey w k) (es : List MapEntry) (he : ∀ e ∈ es, NKey w e.key) : (Instr.findKey 146 k es).run Tryd.prog w = .ok (look k es 0) w := by
  have h2 := run_findAsking h es 0 he
  unfold Instr.findKey
  rw [Sem.run_bind, run_underlying Tryd.underlying146, Result.andThen_ok]
  cases es with
  | nil => simp [Instr.findNow, look]
  | cons e es =>
    simp only [Instr.findNow, Instr.sameNow]
    exact h2

set_option maxRecDepth 100000 in
theorem run_checkKey {w : World} {k : Value} (h : NKey w k) (e : Bool) : (Instr.checkKey e 10000 146 k).run Tryd.prog w = .ok () w := by
  cases h with
  | ptr b cs t' hb => kernel_rfl

/-- The map at block b, keyed by nodes: what it holds at each key, and how many entries it has. -/
def MapIs (w : World) (b : Nat) (f : Value → Option Value) (n : Nat) : Prop :=
  ∃ es clock, w.heap[b]? = some (.map es clock) ∧ es.size = n ∧ (∀ e ∈ es.toList, NKey w e.key) ∧ ∀ k, (look k es.toList 0).map (·.2) = f k

theorem mapIs_made (w : World) : MapIs (w.alloc (.map #[] 0)) w.heap.size (fun _ => none) 0 :=
  ⟨#[], 0, heap_alloc_new _ _, rfl, by simp, fun k => by simp [look]⟩

theorem MapIs.run_lookup {w : World} {b n : Nat} {f : Value → Option Value} (h : MapIs w b f n) {t e : TypeId} (ht : Tryd.prog.underlying t = some (.map 146 e)) {z : Value} (hz : (zeroValue e).run Tryd.prog w = .ok z w) {k : Value} (hk : NKey w k) :
    (Instr.lookup t (.map (some b)) k false).run Tryd.prog w = .ok ((f k).getD z) w := by
  obtain ⟨es, clock, hb, hn, he, hl⟩ := h
  have h1 := run_findKey hk es.toList he
  have h2 := hl k
  have h3 := run_checkKey hk es.isEmpty
  cases hx : look k es.toList 0 with
  | none =>
    rw [hx] at h2 h1
    simp only [Option.map_none] at h2
    rw [← h2]
    simp [Instr.lookup, run_underlying ht, MapKept.run_getObj_map hb, h3, h1, hz]
  | some x =>
    rw [hx] at h2 h1
    simp only [Option.map_some] at h2
    rw [← h2]
    simp [Instr.lookup, run_underlying ht, MapKept.run_getObj_map hb, h3, h1]

theorem MapIs.lt {w : World} {b n : Nat} {f : Value → Option Value} (h : MapIs w b f n) : b < w.heap.size := by
  obtain ⟨es, clock, hb, _⟩ := h
  exact (Array.getElem?_eq_some_iff.1 hb).1

theorem look_modify {w : World} {k k' x : Value} (hk : NKey w k) : ∀ (l : List MapEntry) (i : Nat) (v : Value), (∀ e ∈ l, NKey w e.key) → look k l 0 = some (i, v) →
    (look k' (l.modify i fun e => { e with key := k, val := x }) 0).map (·.2) = if kEq k k' then some x else (look k' l 0).map (·.2)
  | [], i, v, _, h => by simp [look] at h
  | e :: es, i, v, he, h => by
    have hke := he e (List.mem_cons_self ..)
    simp only [look] at h
    cases hq : kEq k e.key with
    | true =>
      rw [hq] at h
      simp only [if_true, Option.some.injEq, Prod.mk.injEq] at h
      obtain ⟨rfl, _⟩ := h
      have hkk := (kEq_iff hk hke).1 hq
      rw [List.modify_zero_cons]
      simp only [look]
      rw [← hkk, kEq_comm k' k]
      cases kEq k k' <;> simp
    | false =>
      rw [hq] at h
      simp only [Bool.false_eq_true, if_false] at h
      rw [look_shift] at h
      cases hx : look k es 0 with
      | none => rw [hx] at h; cases h
      | some y =>
        obtain ⟨j, u⟩ := y
        rw [hx] at h
        simp only [Option.map_some, Option.some.injEq, Prod.mk.injEq] at h
        obtain ⟨h1, h2⟩ := h
        subst h1
        have IH := look_modify (k' := k') (x := x) hk es j u (fun z hz => he z (List.mem_cons_of_mem _ hz)) hx
        rw [show 0 + 1 = 1 from rfl, List.modify_succ_cons]
        simp only [look]
        cases hq2 : kEq k' e.key with
        | true =>
          have e1 : kEq k k' = false := by
            rw [Bool.eq_false_iff]
            intro h
            rw [kEq_trans h hq2] at hq
            cases hq
          simp [e1]
        | false =>
          simp only [Bool.false_eq_true, if_false]
          rw [look_shift k' _ (0 + 1), look_shift k' es (0 + 1)]
          simpa [Option.map_map, Function.comp_def] using IH

theorem sameBits_key {w : World} {k : Value} (hk : NKey w k) : Instr.sameBits 10000 k k = true := by
  rw [show (10000 : Nat) = 9998 + 1 + 1 from rfl]
  generalize 9998 = d
  cases hk <;> simp [Instr.sameBits]
theorem run_stays {w : World} {k : Value} (hk : NKey w k) : (Instr.keyThatStays k k).run Tryd.prog w = .ok k w := by
  simp [Instr.keyThatStays, sameBits_key hk]

theorem look_at {w : World} {k : Value} (hk : NKey w k) : ∀ (l : List MapEntry) (i : Nat) (v : Value), (∀ e ∈ l, NKey w e.key) → look k l 0 = some (i, v) → ∃ e, l[i]? = some e ∧ e.key = k
  | [], i, v, _, h => by simp [look] at h
  | e :: es, i, v, he, h => by
    simp only [look] at h
    cases hq : kEq k e.key with
    | true =>
      rw [hq] at h
      simp only [if_true, Option.some.injEq, Prod.mk.injEq] at h
      obtain ⟨rfl, _⟩ := h
      exact ⟨e, rfl, ((kEq_iff hk (he e (List.mem_cons_self ..))).1 hq).symm⟩
    | false =>
      rw [hq] at h
      simp only [Bool.false_eq_true, if_false] at h
      rw [look_shift] at h
      cases hx : look k es 0 with
      | none => rw [hx] at h; cases h
      | some y =>
        obtain ⟨j, u⟩ := y
        rw [hx] at h
        simp only [Option.map_some, Option.some.injEq, Prod.mk.injEq] at h
        obtain ⟨h1, h2⟩ := h
        subst h1
        obtain ⟨d, h3, h4⟩ := look_at hk es j u (fun z hz => he z (List.mem_cons_of_mem _ hz)) hx
        exact ⟨d, by simpa using h3, h4⟩

theorem NKey.set {w : World} {b : Nat} {es : Array MapEntry} {c : Nat} (hb : w.heap[b]? = some (.map es c)) (o : Obj) {v : Value} (h : NKey w v) : NKey { w with heap := w.heap.setIfInBounds b o } v := by
  cases h with
  | ptr b' cs t' hb' =>
    refine .ptr b' cs t' (((MapKept.heap_set hb).2 b' fun e2 => ?_).trans hb')
    rw [e2, hb] at hb'
    cases hb'
theorem NKey.keep {w w' : World} {v : Value} (h : NKey w v) (hg : w.grownBy w' none) : NKey w' v := by
  cases h with
  | ptr b cs t' hb => exact .ptr b cs t' ((hg.block b (Array.getElem?_eq_some_iff.1 hb).1 (by simp)).trans hb)
theorem MapIs.keep {w w' : World} {b n : Nat} {f : Value → Option Value} (h : MapIs w b f n) (hg : w.grownBy w' none) : MapIs w' b f n := by
  have hlt := h.lt
  obtain ⟨es, clock, hb, hn, he, hl⟩ := h
  exact ⟨es, clock, (hg.block b hlt (by simp)).trans hb, hn, fun e hm => (he e hm).keep hg, hl⟩
theorem MapIs.run_update {w : World} {b n : Nat} {f : Value → Option Value} (h : MapIs w b f n) {t e : TypeId} (ht : Tryd.prog.underlying t = some (.map 146 e)) {k : Value} (hk : NKey w k) (x : Value) :
    ∃ w', (Instr.mapUpdate t (.map (some b)) k x).run Tryd.prog w = .ok () w' ∧ MapIs w' b (fun k' => if kEq k k' then some x else f k') (if (f k).isSome then n else n + 1) ∧ w.grownBy w' (some b) := by
  obtain ⟨es, clock, hb, hn, he, hl⟩ := h
  have h1 := run_findKey hk es.toList he
  have h2 := hl k
  have h3 := run_checkKey hk false
  have hgr : ∀ o, w.grownBy { w with heap := w.heap.setIfInBounds b o } (some b) := fun o => ⟨rfl, rfl, rfl, by simp, fun i _ hi => (MapKept.heap_set hb).2 i (fun e => hi (by rw [e]))⟩
  cases hx : look k es.toList 0 with
  | none =>
    rw [hx] at h2 h1
    simp only [Option.map_none] at h2
    refine ⟨_, by simp [Instr.mapUpdate, run_underlying ht, MapKept.run_getObj_map hb, h3, h1, MapKept.run_setObj_map _ hb]; rfl, ⟨_, _, (MapKept.heap_set hb).1, ?_, ?_, ?_⟩, hgr _⟩
    · rw [← h2]; simp [hn]
    · intro z hz
      rw [Array.toList_push] at hz
      rcases List.mem_append.1 hz with hz | hz
      · exact (he z hz).set hb _
      · simp only [List.mem_singleton] at hz
        subst hz
        exact hk.set hb _
    · intro k'
      rw [Array.toList_push, look_app (w := w)]
      have h5 := hl k'
      cases hy : look k' es.toList 0 with
      | none =>
        rw [hy] at h5
        simp only [Option.map_none] at h5
        dsimp only
        rw [← h5, kEq_comm k' k]
        cases kEq k k' <;> simp
      | some y =>
        rw [hy] at h5
        simp only [Option.map_some] at h5 ⊢
        have e2 : kEq k k' = false := by
          rw [Bool.eq_false_iff]
          intro h
          have hn : ∀ (l : List MapEntry) (i : Nat), look k l i = none → look k' l i = none := by
            intro l
            induction l with
            | nil => intro i _; rfl
            | cons d l IH =>
              intro i hi
              simp only [look] at hi ⊢
              cases hq : kEq k d.key with
              | true => rw [hq] at hi; simp at hi
              | false =>
                rw [hq] at hi
                simp only [Bool.false_eq_true, if_false] at hi
                have : kEq k' d.key = false := by
                  rw [Bool.eq_false_iff]
                  intro h2
                  rw [kEq_trans h h2] at hq
                  cases hq
                rw [this]
                simp only [Bool.false_eq_true, if_false]
                exact IH (i + 1) hi
          rw [hn _ _ hx] at hy
          cases hy
        rw [e2]
        simpa using h5
  | some y =>
    obtain ⟨i, v⟩ := y
    rw [hx] at h2 h1
    simp only [Option.map_some] at h2
    obtain ⟨d, hd, hdk⟩ := look_at hk es.toList i v he hx
    have hd' : es[i]? = some d := by rw [← Array.getElem?_toList]; exact hd
    refine ⟨_, by simp [Instr.mapUpdate, run_underlying ht, MapKept.run_getObj_map hb, h3, h1, hd', hdk, run_stays hk, MapKept.run_setObj_map _ hb]; rfl, ⟨_, _, (MapKept.heap_set hb).1, ?_, ?_, ?_⟩, hgr _⟩
    · rw [← h2]; simp [hn]
    · intro z hz
      rw [Array.toList_modify] at hz
      obtain ⟨j, hj⟩ := List.mem_iff_getElem?.1 hz
      rw [List.getElem?_modify] at hj
      cases hq : es.toList[j]? with
      | none => rw [hq] at hj; simp at hj
      | some q =>
        rw [hq] at hj
        simp only [Option.map_eq_map, Option.map_some, Option.some.injEq] at hj
        split at hj
        · subst hj; exact hk.set hb _
        · subst hj; exact (he q (List.mem_of_getElem? hq)).set hb _
    · intro k'
      rw [Array.toList_modify, look_modify hk es.toList i v he hx, hl k']


/-- 'm[k] = v' at the operation, for the walk. -/
theorem wpList_mapUpdate_node (w : World) {ops : Array Oper} {rest : List Oper} {o : Oper} {a : Act} {Q : Exit → Act → World → Prop}
    (hg : o.guard = none) (m x v : Operand) (t : TypeId) (hop : o.op = Op.mapUpdate t m x v) (e : TypeId) (ht : Tryd.prog.underlying t = some (.map 146 e)) (b n : Nat) (f : Value → Option Value)
    (hm : a.eval m = .map (some b)) (hown : MapIs w b f n) (key val : Value) (hx : a.eval x = key) (hv : a.eval v = val) (hkey : NKey w key)
    (hK : ∀ w', MapIs w' b (fun k' => if kEq key k' then some val else f k') (if (f key).isSome then n else n + 1) → w.grownBy w' (some b) → wpList Tryd.prog ops Q rest (a.put o.dst undef) w') :
    wpList Tryd.prog ops Q (o :: rest) a w := by
  refine wpList_plain hg fun K' hK' => ?_
  obtain ⟨w', hrun, r1, r2⟩ := hown.run_update ht hkey val
  unfold Oper.wp
  simp [execOp, hop, hm, hx, hv, hrun, Result.andThen]
  exact hK' _ _ (hK w' r1 r2)


theorem MapIs.run_len {w : World} {b n : Nat} {f : Value → Option Value} (h : MapIs w b f n) {t e : TypeId} (ht : Tryd.prog.underlying t = some (.map 146 e)) (ty : TypeId) : (Builtin.len_ #[t] ty #[.map (some b)]).run Tryd.prog w = .ok (.int .i64 (n : Int)) w := by
  obtain ⟨es, clock, hb, hn, he, hl⟩ := h
  simp [Builtin.len_, run_underlying ht, MapKept.run_getObj_map hb, goInt, Result.andThen, hn]

end Go.Proofs.YtbiiopiaglkicaaDoor.P

namespace Go.Proofs.YtbiiopiaglkicaaDoor
open Go.RowKit

theorem hidG {p : Prop} (h : p) : Hid p := h
def gVal (b : Nat) : Value := .iface 146 (.pointer (some ⟨b, 0, none⟩))
def isG : Value → Bool
  | .iface t _ => t == 146
  | _ => false
/-- How many groups the list holds. -/
def cntV (l : List Value) : Nat := (l.filter isG).length
theorem cntV_snoc (l : List Value) (v : Value) : cntV (l ++ [v]) = cntV l + if isG v then 1 else 0 := by
  unfold cntV
  rw [List.filter_append, List.length_append]
  cases h : isG v <;> simp [h]
theorem cntV_le (l : List Value) : cntV l ≤ l.length := List.length_filter_le _ _

/-- The numbers of the groups of the list up to k. -/
structure GTab (l : List Value) (k : Nat) (f : Value → Option Value) : Prop where
  at_ : ∀ i b, i < k → l[i]? = some (gVal b) → f (.pointer (some ⟨b, 0, none⟩)) = some (.int .i64 (cntV (l.take i) : Int))
  only : ∀ b, f (.pointer (some ⟨b, 0, none⟩)) ≠ none → gVal b ∈ l.take k

set_option maxHeartbeats 2000000 in
set_option maxRecDepth 100000 in
theorem groupNumbers_any (B : Nat) (nv u0 : Value) (T0 : Tr) (l : List Value) (w : World) (hrow : w.ownsRow B 84 1 nv l.length l) (hr : Rep (fun _ => False) B w u0 T0) (hp : Post w u0 T0 l) (ho : Once (fun _ => False) w l) :
    Calls Tryd.prog 69 #[nv] w fun e w' => ∃ f, e = .returned (.map (some w.heap.size)) ∧ P.MapIs w' w.heap.size f (cntV l) ∧ GTab l l.length f ∧ w.grownBy w' none := by
  obtain ⟨a, cap, hnv, hnc, hnm⟩ := row_form hrow
  subst hnv
  unfold maxLen at hnm
  have HR : Hid (w.ownsRow B 84 1 (.slice a l.length cap) l.length l) := hrow
  have HRp : Hid (Rep (fun _ => False) B w u0 T0) := hr
  have HPo : Hid (Post w u0 T0 l) := hp
  have HOn : Hid (Once (fun _ => False) w l) := ho
  clear hrow hr hp ho
  have hmk : (Instr.makeMap 70 none).run Tryd.prog w = .ok (.map (some w.heap.size)) (w.alloc (.map #[] 0)) := run_makeMap _ _
  go_enter Tryd.func69, Tryd.ntmps69
  go_wp2
  go_loopw [11] (fun i wr => ∃ (k : Nat) (f : Value → Option Value), k ≤ l.length ∧ i = .int .i64 k ∧ P.MapIs wr w.heap.size f (cntV (l.take k)) ∧ Hid (GTab l k f) ∧ w.grownBy wr none) (fun i _ => l.length - (intOf i).toNat)
  case atStart => exact ⟨0, _, Nat.zero_le _, rfl, P.mapIs_made w, ⟨fun i b h => by omega, fun b h => absurd rfl h⟩, World.grownBy_alloc _ _ _⟩
  case round =>
    obtain ⟨k, f, hk, rfl, hM, HN, hg⟩ := hrel
    by_cases hlt : k < l.length
    · obtain ⟨v, hv⟩ : ∃ v, l[k]? = some v := ⟨_, List.getElem?_eq_getElem hlt⟩
      obtain ⟨T, he, hrT, hsT⟩ := post_elem HRp.out HPo.out k v hv
      have hvl : v ∈ l := List.mem_of_getElem? hv
      have htk1 : l.take (k + 1) = l.take k ++ [v] := by rw [List.take_add_one, hv]; rfl
      have hcs1 := cntV_snoc (l.take k) v
      rw [← htk1] at hcs1
      have hcl := cntV_le (l.take k)
      rw [List.length_take] at hcl
      rcases HR.out.2 with ⟨_, h0⟩ | ⟨g, cp, cur, hrg, hbg, hgg, hnc', hcm, hcs, htk⟩
      · omega
      cases hrg
      have m00 := World.ownsRow.cellAt HR.out k (by omega)
      rw [hv] at m00
      have m0 := hg.cell m00 (by simp)
      clear m00 hgg hcs htk
      have HM := hidG hM
      have HG := hidG hg
      by_cases hgr : isG v = true
      · obtain ⟨b, hvb⟩ : ∃ b, v = gVal b := by
          cases T with
          | leaf p =>
            exfalso
            simp only [Rep] at hrT
            rcases hrT with h | h | h | h | h | ⟨_, b, tv, h, _⟩
            · rw [h.2] at hgr; simp [isG] at hgr
            · rw [h.2] at hgr; simp [isG] at hgr
            · rw [h.2] at hgr; simp [isG] at hgr
            · rw [h.2] at hgr; simp [isG] at hgr
            · rw [h.2] at hgr; simp [isG] at hgr
            · rw [h] at hgr; simp [isG] at hgr
          | un p x =>
            simp only [Rep] at hrT
            obtain ⟨b, u, _, _, _, _, h | h⟩ := hrT
            · exact ⟨b, h.2⟩
            · rw [h.2] at hgr; simp [isG] at hgr
          | bin p x y =>
            exfalso
            simp only [Rep] at hrT
            obtain ⟨b, u, u', _, _, _, _, _, _, h | h⟩ := hrT
            · rw [h.2] at hgr; simp [isG] at hgr
            · rw [h.2] at hgr; simp [isG] at hgr
        have hnot : gVal b ∉ l.take k := by
          intro hm
          have hpw := HOn.out.nd
          obtain ⟨i, hi⟩ := List.mem_iff_getElem?.1 hm
          have hik : i < k := by have := (List.getElem?_eq_some_iff.1 hi).1; simp at this; omega
          rw [List.getElem?_take_of_lt hik] at hi
          have := List.pairwise_iff_getElem.1 hpw i k (by omega) hlt hik
          have e1 : l[i]'(by omega) = gVal b := (List.getElem?_eq_some_iff.1 hi).2
          have e2 : l[k] = gVal b := by rw [← hvb]; exact (List.getElem?_eq_some_iff.1 hv).2
          exact this _ b e2 (by rw [e1, e2])
        have hfn : f (.pointer (some ⟨b, 0, none⟩)) = none := by
          cases hx : f (.pointer (some ⟨b, 0, none⟩)) with
          | none => rfl
          | some y => exact absurd (HN.out.only b (by rw [hx]; simp)) hnot
        have hpk : P.NKey wr (.pointer (some ⟨b, 0, none⟩)) := by
          rw [hvb] at hvl
          obtain ⟨_, cs, t', hb⟩ := HOn.out.lt _ _ hvl
          exact (P.NKey.ptr b cs t' hb).keep hg
        have HPk := hidG hpk
        have HStep : Hid (GTab l (k + 1) (fun k' => if kEq (.pointer (some ⟨b, 0, none⟩)) k' then some (.int .i64 (cntV (l.take k) : Int)) else f k')) := by
          refine ⟨fun i c hi hc => ?_, fun c hc => ?_⟩
          · by_cases e : i = k
            · subst e
              rw [hv, hvb] at hc
              have hbc : b = c := by simpa [gVal] using hc
              subst hbc
              rw [if_pos (P.kEq_self hpk)]
            · have hik : i < k := by omega
              have hne : b ≠ c := by
                intro hbc
                subst hbc
                refine hnot (List.mem_iff_getElem?.2 ⟨i, ?_⟩)
                rw [List.getElem?_take_of_lt hik]
                exact hc
              rw [if_neg (by simp [kEq, kCode, hne])]
              exact HN.out.at_ i c hik hc
          · rw [htk1]
            by_cases e : b = c
            · subst e
              rw [hvb]
              exact List.mem_append_right _ (by simp)
            · rw [if_neg (by simp [kEq, kCode, e])] at hc
              exact List.mem_append_left _ (HN.out.only c hc)
        have hlen := hM.run_len Tryd.underlying70 3
        have hnum : (if (f (.pointer (some ⟨b, 0, none⟩))).isSome then cntV (l.take k) else cntV (l.take k) + 1) = cntV (l.take (k + 1)) := by
          rw [hfn, hcs1, if_pos hgr]; simp
        have HNum := hidG hnum
        obtain ⟨f1, f2, f3, f4, f5, f6, f7, f8, f9, f10⟩ := tas_group (.pointer (some ⟨b, 0, none⟩))
        subst hvb
        unfold gVal at *
        clear hrT he HN hv hg hvl hM hpk hnot hfn hnum hcs1 htk1 hgr
        generalize cntV (l.take k) = ck at *
        go_wp2_with (at_mapUpdate; refine P.wpList_mapUpdate_node _ rfl _ _ _ 70 rfl 3 Tryd.underlying70 _ ck f rfl HM.out _ _ rfl rfl HPk.out ?_; intro w1 hM1 hg1)
        go_roundw
        case rel =>
          have hM2 : P.MapIs w1 w.heap.size (fun k' => if kEq (.pointer (some ⟨b, 0, none⟩)) k' then some (.int .i64 (ck : Int)) else f k') (if (f (.pointer (some ⟨b, 0, none⟩))).isSome then ck else ck + 1) := hM1
          rw [HNum.out] at hM2
          exact ⟨k + 1, _, by omega, by go_num, hM2, HStep.out, grown_new HG.out hg1 (fun j e => by cases e; exact Nat.le_refl _)⟩
        case measure => simp [intOf]; omega
      · have hcs2 : Hid (cntV (l.take (k + 1)) = cntV (l.take k)) := by unfold Hid; rw [hcs1, if_neg hgr]; rfl
        have HStep : Hid (GTab l (k + 1) f) := by
          refine ⟨fun i c hi hc => ?_, fun c hc => ?_⟩
          · by_cases e : i = k
            · subst e
              rw [hv] at hc
              rw [Option.some.inj hc] at hgr
              simp [gVal, isG] at hgr
            · exact HN.out.at_ i c (by omega) hc
          · rw [htk1]
            exact List.mem_append_left _ (HN.out.only c hc)
        obtain ⟨t, y, hform, hnt⟩ : ∃ t y, v = .iface t y ∧ TaNo t 146 y (.pointer none) := by
          cases T with
          | leaf p =>
            simp only [Rep] at hrT
            rcases hrT with h | h | h | h | h | ⟨_, b, tv, h, _⟩
            · exact ⟨_, _, h.2, tas_empty.2.2.2.2.2.2.1⟩
            · exact ⟨_, _, h.2, tas_line.2.2.2.2.2.2.1⟩
            · exact ⟨_, _, h.2, tas_soft.2.2.2.2.2.2.1⟩
            · exact ⟨_, _, h.2, tas_hard.2.2.2.2.2.2.1⟩
            · exact ⟨_, _, h.2, tas_raw.2.2.2.2.2.2.1⟩
            · exact ⟨_, _, h, (tas_text _).2.2.2.2.2.2.1⟩
          | un p x =>
            simp only [Rep] at hrT
            obtain ⟨b, u, _, _, _, _, h | h⟩ := hrT
            · rw [h.2] at hgr; simp [isG] at hgr
            · exact ⟨_, _, h.2, (tas_nest _).2.2.2.2.2.2.1⟩
          | bin p x y =>
            simp only [Rep] at hrT
            obtain ⟨b, u, u', _, _, _, _, _, _, h | h⟩ := hrT
            · exact ⟨_, _, h.2, (tas_cat _).2.2.2.2.2.2.1⟩
            · exact ⟨_, _, h.2, (tas_alt _).2.2.2.2.2.2.1⟩
        subst hform
        clear hrT he HN hv hg hvl hM hcs1 htk1 hgr
        go_wp2
        go_roundw
        case rel => exact ⟨k + 1, f, by omega, by go_num, by rw [hcs2.out]; exact HM.out, HStep.out, HG.out⟩
        case measure => simp [intOf]; omega
    · have hkn : k = l.length := by omega
      have HN2 : Hid (P.MapIs wr w.heap.size f (cntV l) ∧ GTab l l.length f) := by
        have h1 := HN.out
        rw [hkn] at h1 hM
        rw [List.take_length] at hM
        exact ⟨hM, h1⟩
      clear HN hM
      go_wp2
      go_ret
      exact ⟨f, rfl, HN2.out.1, HN2.out.2, hg⟩

end Go.Proofs.YtbiiopiaglkicaaDoor

