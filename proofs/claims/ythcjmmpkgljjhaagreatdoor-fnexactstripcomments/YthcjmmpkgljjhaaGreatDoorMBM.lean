import Derived.Test.YthcjmmpkgljjhaaGreatDoorMBH
import Derived.Test.YthcjmmpkgljjhaaGreatDoorMBL
namespace Go.Proofs.YthcjmmpkgljjhaaGreatDoor
open Go.RowKit
attribute [-go_sem] Builtin.append_

/-- The cells of nodes that are read. -/
theorem rdN_cells {B : Nat} {w : World} {v : Value} {ns : List Nod} (h : RdN B w v ns) (h0 : ns ≠ []) : ∃ (ad : Addr) (cap : Nat) (xs : List Value), v = .slice (some ad) ns.length cap ∧ xs.length = ns.length * 8 ∧
    (∀ j u, xs[j]? = some u → w.cell? (ad.add j) = some u) ∧ (∀ u ∈ xs, u.oneCell' = true) ∧
    (∀ j p, ns[j]? = some p → ∃ lv kv xv uv tv, At8 xs (j * 8) p lv kv xv uv tv ∧ RdI B w kv p.key ∧ RdB B w xv p.text ∧ RdI B w uv p.units ∧ Sl kv p.key.length ∧ Sl xv p.text.length ∧ Sl uv p.units.length) := by
  obtain ⟨a, cap, hv, h1, h2, hh⟩ := h
  obtain ⟨b, off, ha, hb, hc⟩ := hh h0
  subst ha
  have each : ∀ j, j < ns.length * 8 → ∃ u, w.cell? ⟨b, off + j, none⟩ = some u ∧ u.oneCell' = true := by
    intro j hj
    obtain ⟨i, r, rfl, hr⟩ : ∃ i r, j = i * 8 + r ∧ r < 8 := ⟨j / 8, j % 8, by omega, by omega⟩
    obtain ⟨lv, kv, xv, uv, tv, hp⟩ := hc i ns[i] (by simp [show i < ns.length by omega])
    obtain ⟨la, lc, rfl, _, _⟩ := hp.rl.sl
    obtain ⟨ta, tc, rfl, _, _⟩ := hp.rt.sl
    obtain ⟨ka, kc, rfl, _, _⟩ := hp.sk
    obtain ⟨xa, xc, rfl, _, _⟩ := hp.sx
    obtain ⟨ua, uc, rfl, _, _⟩ := hp.su
    rw [← Nat.add_assoc]
    match r, hr with
    | 0, _ => exact ⟨_, hp.k, rfl⟩
    | 1, _ => exact ⟨_, hp.lead, rfl⟩
    | 2, _ => exact ⟨_, hp.mem, rfl⟩
    | 3, _ => exact ⟨_, hp.key, rfl⟩
    | 4, _ => exact ⟨_, hp.text, rfl⟩
    | 5, _ => exact ⟨_, hp.units, rfl⟩
    | 6, _ => exact ⟨_, hp.cnt, rfl⟩
    | 7, _ => exact ⟨_, hp.tail, rfl⟩
  haveI : Inhabited Value := ⟨.bool false⟩
  obtain ⟨q, hq⟩ := Deep.choose_lt each
  have at' : ∀ j, j < ns.length * 8 → ((List.range (ns.length * 8)).map q)[j]? = some (q j) := fun j hj => by simp [hj]
  refine ⟨⟨b, off, none⟩, cap, (List.range (ns.length * 8)).map q, hv, by simp, fun j u hj => ?_, fun u hu => ?_, fun j p hp => ?_⟩
  · have hjl : j < ns.length * 8 := by have := (List.getElem?_eq_some_iff.1 hj).1; simpa using this
    rw [at' j hjl] at hj
    cases hj
    rw [Addr.add_lit]
    exact (hq j hjl).1
  · simp only [List.mem_map, List.mem_range] at hu
    obtain ⟨j, hj, rfl⟩ := hu
    exact (hq j hj).2
  · have hj := (List.getElem?_eq_some_iff.1 hp).1
    obtain ⟨lv, kv, xv, uv, tv, hp⟩ := hc j p hp
    have cc : ∀ i u, i < 8 → w.cell? ⟨b, off + j * 8 + i, none⟩ = some u → ((List.range (ns.length * 8)).map q)[j * 8 + i]? = some u := fun i u hi hu => by
      rw [at' _ (by omega)]
      have := (hq (j * 8 + i) (by omega)).1
      rw [← Nat.add_assoc, hu] at this
      exact this.symm
    exact ⟨lv, kv, xv, uv, tv, ⟨cc 0 _ (by omega) hp.k, cc 1 _ (by omega) hp.lead, cc 2 _ (by omega) hp.mem, cc 3 _ (by omega) hp.key, cc 4 _ (by omega) hp.text, cc 5 _ (by omega) hp.units, cc 6 _ (by omega) hp.cnt, cc 7 _ (by omega) hp.tail⟩,
      hp.rk, hp.rx, hp.ru, hp.sk, hp.sx, hp.su⟩

set_option maxHeartbeats 1000000 in
set_option maxRecDepth 100000 in
theorem nodesClone_any (v : Value) (ns : List Nod) (w : World) (hv : RdN w.heap.size w v ns) (hn : ns.length ≤ 1048576) (h0 : ns ≠ []) :
    Calls Tryz.prog 18 #[v] w fun e w' => ∃ g cap xs, e = .returned (.slice (some ⟨g, 0, none⟩) ns.length cap) ∧ w'.ownsRow w.heap.size 42 8 (.slice (some ⟨g, 0, none⟩) ns.length cap) ns.length xs ∧
      Hid (∀ j p, ns[j]? = some p → ∃ lv kv xv uv tv, At8 xs (j * 8) p lv kv xv uv tv ∧ RdI w.heap.size w kv p.key ∧ RdB w.heap.size w xv p.text ∧ RdI w.heap.size w uv p.units ∧ Sl kv p.key.length ∧ Sl xv p.text.length ∧ Sl uv p.units.length) ∧ w.grownBy w' none := by
  obtain ⟨ad, cap, xs, hv0, hl, hcel, hone, htx⟩ := rdN_cells hv h0
  have HTX := hide htx
  clear htx
  subst hv0
  have hnil : ∀ w : World, (binOp .eql 27 (.slice (some ad) ns.length cap) (.slice none 0 0)).run Tryz.prog w = .ok (.bool false) w := fun w => Lib.run_eql_slice_some_nil w _ _ _ Tryz.underlying27
  obtain ⟨i0, hi, hz0, hz1, hz2⟩ := info_parts infoNd
  obtain ⟨v', w', hrun, h3, h4, _, h5⟩ := run_append_own_at (P := Tryz.prog) (w.alloc (Obj.cells #[] 42)) w.heap.size 27 27 42 i0 (.agg #[.int .i64 0, .slice none 0 0, .bool false, .slice none 0 0, .slice none 0 0, .slice none 0 0, .int .i64 0, .slice none 0 0]) 8 144 Tryz.underlying27 hi hz0 hz1 hz2 rfl (by decide)
    (.slice (some ⟨w.heap.size, 0, none⟩) 0 0) 0 [] (row_new w 42 8) ad ns.length cap xs hl (fun j u hj => (World.grownBy_alloc w (Obj.cells #[] 42) none).cell (hcel j u hj) (by simp)) hone (by unfold maxLen; omega) (by omega) (by simp)
  have g2 : w.grownBy w' none := grown_new (World.grownBy_alloc w (Obj.cells #[] 42) none) h4 (fun j e => by cases e; exact Nat.le_refl _)
  have hro : w'.ownsRow w.heap.size 42 8 v' ns.length xs := by simpa using h3
  obtain ⟨g, c2, hv2⟩ : ∃ g c2, v' = .slice (some ⟨g, 0, none⟩) ns.length c2 := by
    rcases hro.2 with ⟨_, hn0⟩ | ⟨g, cap, cur, hv, _⟩
    · exact absurd (List.eq_nil_of_length_eq_zero hn0) h0
    · exact ⟨g, cap, hv⟩
  subst hv2
  have HR := hide hro
  clear hv hcel h3 h4 h5 hl hone hro
  go_enter Tryz.func18, Tryz.ntmps18
  go_wp2
  go_ret
  exact ⟨g, c2, xs, rfl, HR.out, HTX, g2⟩

/-- What the program lays into a node. -/
def str5 (xs : List Value) (o : Nat) (k x u : Value) : List Value := ((((xs.set (o + 1) (.slice none 0 0)).set (o + 7) (.slice none 0 0)).set (o + 3) k).set (o + 4) x).set (o + 5) u
theorem str5_len (xs : List Value) (o : Nat) (k x u : Value) : (str5 xs o k x u).length = xs.length := by simp [str5]
theorem str5_ne (xs : List Value) (o : Nat) (k x u : Value) (i : Nat) (hi : i < o ∨ o + 8 ≤ i) : (str5 xs o k x u)[i]? = xs[i]? := by
  unfold str5
  rw [List.getElem?_set_ne (by omega), List.getElem?_set_ne (by omega), List.getElem?_set_ne (by omega), List.getElem?_set_ne (by omega), List.getElem?_set_ne (by omega)]
theorem At8.ne5 {xs : List Value} {o' : Nat} {p : Nod} {lv kv xv uv tv : Value} (h : At8 xs o' p lv kv xv uv tv) (o : Nat) (k x u : Value) (hj : o' + 8 ≤ o ∨ o + 8 ≤ o') : At8 (str5 xs o k x u) o' p lv kv xv uv tv := by
  obtain ⟨e0, e1, e2, e3, e4, e5, e6, e7⟩ := h
  exact ⟨by rw [str5_ne _ _ _ _ _ _ (by omega)]; exact e0, by rw [str5_ne _ _ _ _ _ _ (by omega)]; exact e1, by rw [str5_ne _ _ _ _ _ _ (by omega)]; exact e2, by rw [str5_ne _ _ _ _ _ _ (by omega)]; exact e3,
    by rw [str5_ne _ _ _ _ _ _ (by omega)]; exact e4, by rw [str5_ne _ _ _ _ _ _ (by omega)]; exact e5, by rw [str5_ne _ _ _ _ _ _ (by omega)]; exact e6, by rw [str5_ne _ _ _ _ _ _ (by omega)]; exact e7⟩
theorem At8.str {xs : List Value} {o : Nat} {p : Nod} {lv kv xv uv tv : Value} (h : At8 xs o p lv kv xv uv tv) (k x u : Value) (hl : o + 8 ≤ xs.length) : At8 (str5 xs o k x u) o (stripN p) (.slice none 0 0) k x u (.slice none 0 0) := by
  obtain ⟨e0, e1, e2, e3, e4, e5, e6, e7⟩ := h
  have ne : ∀ (ys : List Value) (i j : Nat) (y : Value), i ≠ j → (ys.set i y)[j]? = ys[j]? := fun ys i j y h => List.getElem?_set_ne h
  have eq : ∀ (ys : List Value) (i : Nat) (y : Value), i < ys.length → (ys.set i y)[i]? = some y := fun ys i y h => List.getElem?_set_self h
  unfold str5
  refine ⟨?_, ?_, ?_, ?_, ?_, ?_, ?_, ?_⟩
  · rw [ne _ _ _ _ (by omega), ne _ _ _ _ (by omega), ne _ _ _ _ (by omega), ne _ _ _ _ (by omega), ne _ _ _ _ (by omega)]; exact e0
  · rw [ne _ _ _ _ (by omega), ne _ _ _ _ (by omega), ne _ _ _ _ (by omega), ne _ _ _ _ (by omega), eq _ _ _ (by omega)]
  · rw [ne _ _ _ _ (by omega), ne _ _ _ _ (by omega), ne _ _ _ _ (by omega), ne _ _ _ _ (by omega), ne _ _ _ _ (by omega)]; exact e2
  · rw [ne _ _ _ _ (by omega), ne _ _ _ _ (by omega), eq _ _ _ (by simp only [List.length_set]; omega)]
  · rw [ne _ _ _ _ (by omega), eq _ _ _ (by simp only [List.length_set]; omega)]
  · rw [eq _ _ _ (by simp only [List.length_set]; omega)]
  · rw [ne _ _ _ _ (by omega), ne _ _ _ _ (by omega), ne _ _ _ _ (by omega), ne _ _ _ _ (by omega), ne _ _ _ _ (by omega)]; exact e6
  · rw [ne _ _ _ _ (by omega), ne _ _ _ _ (by omega), ne _ _ _ _ (by omega), eq _ _ _ (by simp only [List.length_set]; omega)]
end Go.Proofs.YthcjmmpkgljjhaaGreatDoor

