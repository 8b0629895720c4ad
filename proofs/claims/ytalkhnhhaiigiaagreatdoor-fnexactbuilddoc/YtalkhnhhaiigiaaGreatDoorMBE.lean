import Derived.Test.YtalkhnhhaiigiaaGreatDoorMBD
namespace Go.Proofs.YtalkhnhhaiigiaaGreatDoor
open Go.RowKit

theorem walk_mem (t : Tre) (d : Nat) (m : Bool) (a : Nat) (R3 : List Nod) (hw : walkL triv d m (t.nodes.drop a, ()) = some (R3, ())) (h : a < t.nodes.length) : t.nodes[a].mem = m := by
  cases d with
  | zero => simp [walkL] at hw
  | succ d =>
    rw [List.drop_eq_getElem_cons h] at hw
    by_cases h : t.nodes[a].mem ≠ m
    · simp [walkL, h] at hw
    · simpa using h

theorem suffix_drop {α : Type} (l P S : List α) (h : l = P ++ S) : S = l.drop (l.length - S.length) ∧ S.length ≤ l.length := by
  subst h
  refine ⟨?_, by simp⟩
  rw [show (P ++ S).length - S.length = P.length by simp]
  simp

/-- The items of a list, one behind the other. -/
theorem items_at (t : Tre) (ind : Int) (d : Nat) (m : Bool) (i c : Nat) (R2 : List Nod) (hw : loopN (walkL triv d m) c (t.nodes.drop i, ()) = some (R2, ())) (hn : ∀ n ∈ t.nodes, n.k < 5 → n.cnt = 0) :
    ∀ j, j ≤ c → ∃ a, a ≤ t.nodes.length ∧ restK (valP ind d) j (t.nodes.drop i) = t.nodes.drop a ∧ a = t.nodes.length - (restK (valP ind d) j (t.nodes.drop i)).length ∧ mess (itK (valP ind d) j (t.nodes.drop i)) ≤ wNs t.nodes ∧
      (j < c → a < t.nodes.length ∧ walkL triv d m (t.nodes.drop a, ()) = some (restK (valP ind d) (j + 1) (t.nodes.drop i), ())) := by
  intro j hj
  have hn' : ∀ n ∈ t.nodes.drop i, n.k < 5 → n.cnt = 0 := fun n h => hn n (List.mem_of_mem_drop h)
  have hl := rest_loop (ind := ind) (fun R R2 h h' => val_rest ind d m R R2 h h') c _ R2 hw hn'
  obtain ⟨P, hP⟩ := (loop_splits (walk_splits triv d m).1 (walk_splits triv d m).2 j).2 _ _ (hl j hj)
  have hall : t.nodes = (t.nodes.take i ++ P) ++ restK (valP ind d) j (t.nodes.drop i) := by
    rw [List.append_assoc, ← hP, List.take_append_drop]
  obtain ⟨h1, h2⟩ := suffix_drop _ _ _ hall
  refine ⟨t.nodes.length - (restK (valP ind d) j (t.nodes.drop i)).length, by omega, h1, rfl, ?_, fun hjc => ?_⟩
  · obtain ⟨P', hP', hm⟩ := mess_itK (ind := ind) (fun R R2 h h' => val_mes ind d m R R2 h h') j _ _ (hl j hj) hn'
    have h3 : wNs t.nodes = wNs (t.nodes.take i) + (wNs P' + wNs (restK (valP ind d) j (t.nodes.drop i))) := by
      rw [← wNs_app, ← hP', ← wNs_app, List.take_append_drop]
    omega
  · have h4 := hl (j + 1) (by omega)
    rw [loopN_succB, hl j hj, Option.bind_some] at h4
    refine ⟨?_, by rw [← h1]; exact h4⟩
    rcases Nat.lt_or_ge (t.nodes.length - (restK (valP ind d) j (t.nodes.drop i)).length) t.nodes.length with h | h
    · exact h
    · exfalso
      rw [h1, List.drop_of_length_le h] at h4
      cases d <;> simp [walkL] at h4
theorem rdN_below {B : Nat} {w w' : World} {v : Value} {ns : List Nod} (h : RdN B w v ns) (g : Below B w w') : RdN B w' v ns := by
  obtain ⟨a, cap, hv, h1, h2, hh⟩ := h
  refine ⟨a, cap, hv, h1, h2, fun h0 => ?_⟩
  obtain ⟨b, off, ha, hb, hc⟩ := hh h0
  refine ⟨b, off, ha, hb, fun j p hp => ?_⟩
  obtain ⟨lv, kv, xv, uv, tv, t⟩ := hc j p hp
  have f : ∀ o v, w.cell? ⟨b, o, none⟩ = some v → w'.cell? ⟨b, o, none⟩ = some v := fun o v h => by rw [g.cell (by simpa using hb)]; exact h
  have rd : ∀ {q : IntKind} {v : Value} {zs : List Int}, Rd q B w v zs → Rd q B w' v zs := fun {q v zs} h => by
    obtain ⟨a, cap, e, hr⟩ := h
    refine ⟨a, cap, e, fun h0 => ?_⟩
    obtain ⟨b, off, ha, hb, hc⟩ := hr h0
    exact ⟨b, off, ha, hb, fun j hj => by rw [g.cell (by simpa using hb)]; exact hc j hj⟩
  exact ⟨lv, kv, xv, uv, tv, f _ _ t.k, f _ _ t.lead, f _ _ t.mem, f _ _ t.key, f _ _ t.text, f _ _ t.units, f _ _ t.cnt, f _ _ t.tail, rdC_below t.rl g, rd t.rk, t.sk, rd t.rx, t.sx, rd t.ru, t.su, rdC_below t.rt g⟩
theorem rdT_below {B0 : Nat} {w w' : World} {nv tv : Value} {t : Tre} (hn : RdN B0 w nv t.nodes) (ht : RdC B0 w tv t.tail) (hB : B0 ≤ w.heap.size) (g : Below w.heap.size w w') : RdT' w'.heap.size w' nv tv t :=
  ⟨(rdN_below (hn.wide hB) g).wide g.size, (rdC_below (ht.wide hB) g).wide g.size⟩
end Go.Proofs.YtalkhnhhaiigiaaGreatDoor

