import Derived.Handy
import Derived.Test.YthcjmmpkgljjhaaGreatDoorMAA
import Derived.Test.YthcjmmpkgljjhaaGreatDoorMAX
import Derived.Test.YthcjmmpkgljjhaaGreatDoorMBG
namespace Go.Proofs.YthcjmmpkgljjhaaGreatDoor
open Go.RowKit

theorem infoNd : (Tryz.prog.info? 42).map (fun i => (i.zero, i.size, i.bytes)) = some (some (.agg #[.int .i64 0, .slice none 0 0, .bool false, .slice none 0 0, .slice none 0 0, .slice none 0 0, .int .i64 0, .slice none 0 0]), 8, 144) := by kernel_rfl

/-- A node's lists, rows of one's own. -/
def Own5 (B : Nat) (w : World) (p : Nod) (lv kv xv uv tv : Value) : Prop := OwC B w lv p.lead ∧ OwI B w kv p.key ∧ OwB B w xv p.text ∧ OwI B w uv p.units ∧ OwC B w tv p.tail
theorem Own5.later {B : Nat} {w w' : World} {p : Nod} {lv kv xv uv tv : Value} (h : Own5 B w p lv kv xv uv tv) (hg : w.grownBy w' none) : Own5 B w' p lv kv xv uv tv :=
  ⟨h.1.later hg, Ow.later h.2.1 hg, Ow.later h.2.2.1 hg, Ow.later h.2.2.2.1 hg, h.2.2.2.2.later hg⟩
theorem Own5.set {B : Nat} {w : World} {p : Nod} {lv kv xv uv tv : Value} (h : Own5 B w p lv kv xv uv tv) (b j : Nat) (x : Value) (hb : b < B) : Own5 B (w.setCell ⟨b, j, none⟩ x) p lv kv xv uv tv :=
  ⟨h.1.set b j x hb, h.2.1.setC _ _ hb, h.2.2.1.setC _ _ hb, h.2.2.2.1.setC _ _ hb, h.2.2.2.2.set b j x hb⟩
theorem Own5.base {B B' : Nat} {w : World} {p : Nod} {lv kv xv uv tv : Value} (h : Own5 B w p lv kv xv uv tv) (hB : B' ≤ B) : Own5 B' w p lv kv xv uv tv :=
  ⟨h.1.base hB, row_base hB h.2.1, row_base hB h.2.2.1, row_base hB h.2.2.2.1, h.2.2.2.2.base hB⟩
/-- A node's cells in a list of cells. -/
def At8 (xs : List Value) (o : Nat) (p : Nod) (lv kv xv uv tv : Value) : Prop := xs[o]? = some (.int .i64 p.k) ∧ xs[o + 1]? = some lv ∧ xs[o + 2]? = some (.bool p.mem) ∧ xs[o + 3]? = some kv ∧ xs[o + 4]? = some xv ∧ xs[o + 5]? = some uv ∧ xs[o + 6]? = some (.int .i64 p.cnt) ∧ xs[o + 7]? = some tv

/-- Eight cells stored one behind the other. -/
def set8 (xs : List Value) (o : Nat) (a0 a1 a2 a3 a4 a5 a6 a7 : Value) : List Value := ((((((((xs.set (o) a0).set (o + 1) a1).set (o + 2) a2).set (o + 3) a3).set (o + 4) a4).set (o + 5) a5).set (o + 6) a6).set (o + 7) a7)
def setC8 (w : World) (b o : Nat) (a0 a1 a2 a3 a4 a5 a6 a7 : Value) : World := ((((((((w.setCell ⟨b, o, none⟩ a0).setCell ⟨b, o + 1, none⟩ a1).setCell ⟨b, o + 2, none⟩ a2).setCell ⟨b, o + 3, none⟩ a3).setCell ⟨b, o + 4, none⟩ a4).setCell ⟨b, o + 5, none⟩ a5).setCell ⟨b, o + 6, none⟩ a6).setCell ⟨b, o + 7, none⟩ a7)

theorem set8_len (xs : List Value) (o : Nat) (a0 a1 a2 a3 a4 a5 a6 a7 : Value) : (set8 xs o a0 a1 a2 a3 a4 a5 a6 a7).length = xs.length := by simp [set8]
theorem set8_ne (xs : List Value) (o : Nat) (a0 a1 a2 a3 a4 a5 a6 a7 : Value) (j : Nat) (hj : j < o ∨ o + 8 ≤ j) : (set8 xs o a0 a1 a2 a3 a4 a5 a6 a7)[j]? = xs[j]? := by
  unfold set8
  rw [List.getElem?_set_ne (by omega), List.getElem?_set_ne (by omega), List.getElem?_set_ne (by omega), List.getElem?_set_ne (by omega), List.getElem?_set_ne (by omega), List.getElem?_set_ne (by omega), List.getElem?_set_ne (by omega), List.getElem?_set_ne (by omega)]
theorem set8_0 (xs : List Value) (o : Nat) (a0 a1 a2 a3 a4 a5 a6 a7 : Value) (h : o + 8 ≤ xs.length) : (set8 xs o a0 a1 a2 a3 a4 a5 a6 a7)[o]? = some a0 := by
  unfold set8
  rw [List.getElem?_set_ne (by omega), List.getElem?_set_ne (by omega), List.getElem?_set_ne (by omega), List.getElem?_set_ne (by omega), List.getElem?_set_ne (by omega), List.getElem?_set_ne (by omega), List.getElem?_set_ne (by omega), List.getElem?_set_self (by first | omega | (simp only [List.length_set]; omega))]
theorem set8_1 (xs : List Value) (o : Nat) (a0 a1 a2 a3 a4 a5 a6 a7 : Value) (h : o + 8 ≤ xs.length) : (set8 xs o a0 a1 a2 a3 a4 a5 a6 a7)[o + 1]? = some a1 := by
  unfold set8
  rw [List.getElem?_set_ne (by omega), List.getElem?_set_ne (by omega), List.getElem?_set_ne (by omega), List.getElem?_set_ne (by omega), List.getElem?_set_ne (by omega), List.getElem?_set_ne (by omega), List.getElem?_set_self (by first | omega | (simp only [List.length_set]; omega))]
theorem set8_2 (xs : List Value) (o : Nat) (a0 a1 a2 a3 a4 a5 a6 a7 : Value) (h : o + 8 ≤ xs.length) : (set8 xs o a0 a1 a2 a3 a4 a5 a6 a7)[o + 2]? = some a2 := by
  unfold set8
  rw [List.getElem?_set_ne (by omega), List.getElem?_set_ne (by omega), List.getElem?_set_ne (by omega), List.getElem?_set_ne (by omega), List.getElem?_set_ne (by omega), List.getElem?_set_self (by first | omega | (simp only [List.length_set]; omega))]
theorem set8_3 (xs : List Value) (o : Nat) (a0 a1 a2 a3 a4 a5 a6 a7 : Value) (h : o + 8 ≤ xs.length) : (set8 xs o a0 a1 a2 a3 a4 a5 a6 a7)[o + 3]? = some a3 := by
  unfold set8
  rw [List.getElem?_set_ne (by omega), List.getElem?_set_ne (by omega), List.getElem?_set_ne (by omega), List.getElem?_set_ne (by omega), List.getElem?_set_self (by first | omega | (simp only [List.length_set]; omega))]
theorem set8_4 (xs : List Value) (o : Nat) (a0 a1 a2 a3 a4 a5 a6 a7 : Value) (h : o + 8 ≤ xs.length) : (set8 xs o a0 a1 a2 a3 a4 a5 a6 a7)[o + 4]? = some a4 := by
  unfold set8
  rw [List.getElem?_set_ne (by omega), List.getElem?_set_ne (by omega), List.getElem?_set_ne (by omega), List.getElem?_set_self (by first | omega | (simp only [List.length_set]; omega))]
theorem set8_5 (xs : List Value) (o : Nat) (a0 a1 a2 a3 a4 a5 a6 a7 : Value) (h : o + 8 ≤ xs.length) : (set8 xs o a0 a1 a2 a3 a4 a5 a6 a7)[o + 5]? = some a5 := by
  unfold set8
  rw [List.getElem?_set_ne (by omega), List.getElem?_set_ne (by omega), List.getElem?_set_self (by first | omega | (simp only [List.length_set]; omega))]
theorem set8_6 (xs : List Value) (o : Nat) (a0 a1 a2 a3 a4 a5 a6 a7 : Value) (h : o + 8 ≤ xs.length) : (set8 xs o a0 a1 a2 a3 a4 a5 a6 a7)[o + 6]? = some a6 := by
  unfold set8
  rw [List.getElem?_set_ne (by omega), List.getElem?_set_self (by first | omega | (simp only [List.length_set]; omega))]
theorem set8_7 (xs : List Value) (o : Nat) (a0 a1 a2 a3 a4 a5 a6 a7 : Value) (h : o + 8 ≤ xs.length) : (set8 xs o a0 a1 a2 a3 a4 a5 a6 a7)[o + 7]? = some a7 := by
  unfold set8
  rw [List.getElem?_set_self (by first | omega | (simp only [List.length_set]; omega))]
theorem At8.ne {xs : List Value} {o' : Nat} {p : Nod} {lv kv xv uv tv : Value} (h : At8 xs o' p lv kv xv uv tv) (o : Nat) (a0 a1 a2 a3 a4 a5 a6 a7 : Value) (hj : o' + 8 ≤ o ∨ o + 8 ≤ o') : At8 (set8 xs o a0 a1 a2 a3 a4 a5 a6 a7) o' p lv kv xv uv tv := by
  obtain ⟨e0, e1, e2, e3, e4, e5, e6, e7⟩ := h
  refine ⟨?_, ?_, ?_, ?_, ?_, ?_, ?_, ?_⟩
  · rw [set8_ne _ _ _ _ _ _ _ _ _ _ _ (by omega)]; exact e0
  · rw [set8_ne _ _ _ _ _ _ _ _ _ _ _ (by omega)]; exact e1
  · rw [set8_ne _ _ _ _ _ _ _ _ _ _ _ (by omega)]; exact e2
  · rw [set8_ne _ _ _ _ _ _ _ _ _ _ _ (by omega)]; exact e3
  · rw [set8_ne _ _ _ _ _ _ _ _ _ _ _ (by omega)]; exact e4
  · rw [set8_ne _ _ _ _ _ _ _ _ _ _ _ (by omega)]; exact e5
  · rw [set8_ne _ _ _ _ _ _ _ _ _ _ _ (by omega)]; exact e6
  · rw [set8_ne _ _ _ _ _ _ _ _ _ _ _ (by omega)]; exact e7
theorem At8.self (xs : List Value) (o : Nat) (p : Nod) (lv kv xv uv tv : Value) (h : o + 8 ≤ xs.length) : At8 (set8 xs o (.int .i64 p.k) lv (.bool p.mem) kv xv uv (.int .i64 p.cnt) tv) o p lv kv xv uv tv :=
  ⟨set8_0 xs o _ _ _ _ _ _ _ _ h, set8_1 xs o _ _ _ _ _ _ _ _ h, set8_2 xs o _ _ _ _ _ _ _ _ h, set8_3 xs o _ _ _ _ _ _ _ _ h, set8_4 xs o _ _ _ _ _ _ _ _ h, set8_5 xs o _ _ _ _ _ _ _ _ h, set8_6 xs o _ _ _ _ _ _ _ _ h, set8_7 xs o _ _ _ _ _ _ _ _ h⟩
theorem Own5.set8 {B : Nat} {w : World} {p : Nod} {lv kv xv uv tv : Value} (h : Own5 B w p lv kv xv uv tv) (b o : Nat) (a0 a1 a2 a3 a4 a5 a6 a7 : Value) (hb : b < B) : Own5 B (setC8 w b o a0 a1 a2 a3 a4 a5 a6 a7) p lv kv xv uv tv :=
  ((((((((h.set b (o) a0 hb).set b (o + 1) a1 hb).set b (o + 2) a2 hb).set b (o + 3) a3 hb).set b (o + 4) a4 hb).set b (o + 5) a5 hb).set b (o + 6) a6 hb).set b (o + 7) a7 hb)
theorem stored8 {B : Nat} {w : World} {e : TypeId} {g n : Nat} {xs : List Value} (h : w.ownsRow B e 8 (.slice (some ⟨g, 0, none⟩) n n) n xs) (o : Nat) (a0 a1 a2 a3 a4 a5 a6 a7 : Value) : (setC8 w g o a0 a1 a2 a3 a4 a5 a6 a7).ownsRow B e 8 (.slice (some ⟨g, 0, none⟩) n n) n (Go.Proofs.YthcjmmpkgljjhaaGreatDoor.set8 xs o a0 a1 a2 a3 a4 a5 a6 a7) := by
  have hs0 := World.ownsRow.stored h (o) a0
  have hs1 := World.ownsRow.stored hs0.1 (o + 1) a1
  have hs2 := World.ownsRow.stored hs1.1 (o + 2) a2
  have hs3 := World.ownsRow.stored hs2.1 (o + 3) a3
  have hs4 := World.ownsRow.stored hs3.1 (o + 4) a4
  have hs5 := World.ownsRow.stored hs4.1 (o + 5) a5
  have hs6 := World.ownsRow.stored hs5.1 (o + 6) a6
  have hs7 := World.ownsRow.stored hs6.1 (o + 7) a7
  exact hs7.1
theorem belowC8 {B : Nat} {w w1 : World} (h : Below B w w1) (b o : Nat) (a0 a1 a2 a3 a4 a5 a6 a7 : Value) (hb : B ≤ b) : Below B w (setC8 w1 b o a0 a1 a2 a3 a4 a5 a6 a7) :=
  ((((((((h.setCell (p := ⟨b, o, none⟩) hb a0).setCell (p := ⟨b, o + 1, none⟩) hb a1).setCell (p := ⟨b, o + 2, none⟩) hb a2).setCell (p := ⟨b, o + 3, none⟩) hb a3).setCell (p := ⟨b, o + 4, none⟩) hb a4).setCell (p := ⟨b, o + 5, none⟩) hb a5).setCell (p := ⟨b, o + 6, none⟩) hb a6).setCell (p := ⟨b, o + 7, none⟩) hb a7)

set_option maxHeartbeats 4000000 in
set_option maxRecDepth 100000 in
theorem toNodeS_any (v : Value) (ns : List Nod) (w : World) (hv : RdN w.heap.size w v ns) (hn : ns.length ≤ 1048576) (hok : ∀ p ∈ ns, NOk p) :
    Calls Tryz.prog 15 #[v] w fun e w' => ∃ v' g xs, e = .returned v' ∧ v' = .slice (some ⟨g, 0, none⟩) ns.length ns.length ∧ w'.ownsRow w.heap.size 42 8 v' ns.length xs ∧
      (∀ j p, ns[j]? = some p → ∃ lv kv xv uv tv, At8 xs (j * 8) p lv kv xv uv tv ∧ Own5 (w.heap.size + 1) w' p lv kv xv uv tv) ∧ g = w.heap.size ∧ w.grownBy w' none := by
  obtain ⟨i0, hi, hz0, hz1, hz2⟩ := info_parts infoNd
  obtain ⟨a, cap, hv0, _⟩ := id hv
  subst hv0
  go_enter Tryz.func15, Tryz.ntmps15
  go_wp2_with (at_make; refine wpList_make_full _ rfl _ _ 27 rfl w.heap.size 42 i0 (.agg #[.int .i64 0, .slice none 0 0, .bool false, .slice none 0 0, .slice none 0 0, .slice none 0 0, .int .i64 0, .slice none 0 0]) 8 Tryz.underlying27 hi hz0 hz1 _ _ _ _ ns.length rfl rfl (by omega) (by omega) ?b2 ?b3 (Nat.le_refl _) ?_)
  case b2 => rw [hz2]; omega
  case b3 => unfold maxLen; omega
  intro w0 hown0 hgrow0
  go_wp2
  go_loopw [4] (fun i wr => ∃ (k : Nat) (xs : List Value), k ≤ ns.length ∧ i = .int .i64 k ∧ wr.ownsRow w.heap.size 42 8 (.slice (some ⟨w.heap.size, 0, none⟩) ns.length ns.length) ns.length xs ∧
      Hid (∀ j p, j < k → ns[j]? = some p → ∃ lv kv xv uv tv, At8 xs (j * 8) p lv kv xv uv tv ∧ Own5 (w.heap.size + 1) wr p lv kv xv uv tv) ∧ w.grownBy wr none)
    (fun i _ => ns.length - (intOf i).toNat)
  case atStart => exact ⟨0, _, Nat.zero_le _, rfl, hown0, fun j p h _ => absurd h (by omega), hgrow0⟩
  case round =>
    obtain ⟨k, xs, hk, rfl, hown, HT, hgr⟩ := hrel
    clear hown0 hgrow0
    by_cases hlt : k < ns.length
    · obtain ⟨b, off, cap', l1, k1, x1, u1, t1, hva, hb, hp⟩ := (hv.keep hgr).at k hlt
      cases hva
      have z0 := hp.k; have z1 := hp.lead; have z2 := hp.mem; have z3 := hp.key; have z4 := hp.text; have z5 := hp.units; have z6 := hp.cnt; have z7 := hp.tail
      have hsz : w.heap.size < wr.heap.size := (World.ownsRow.lt hown w.heap.size rfl).2
      have hto := hide (toNode_any ns[k] l1 k1 x1 u1 t1 wr (hp.rd.wide (by omega)) (hok _ (List.getElem_mem hlt)))
      have hxl := hown.1
      obtain ⟨la, lcap, hlv, _, _⟩ := hp.rl.sl
      obtain ⟨ta, tcap, htv, _, _⟩ := hp.rt.sl
      obtain ⟨ka, kcap, hkv, _, _⟩ := hp.sk
      obtain ⟨xa, xcap, hxv, _, _⟩ := hp.sx
      obtain ⟨ua, ucap, huv, _, _⟩ := hp.su
      have hpk : ns[k]? = some ns[k] := by simp [hlt]
      have HPk := hide hpk
      subst hlv htv hkv hxv huv
      clear hp hpk hok hv
      generalize ns[k] = p at *
      go_wp2_with fail
      refine hto.out.mono ?_
      rintro e w1 ⟨lv', kv', xv', uv', tv', rfl, o5, g1⟩
      have hown1 := World.ownsRow.kept hown g1 (.inr (by simp [Value.ownBlock]))
      have hN : Own5 (w.heap.size + 1) w1 p lv' kv' xv' uv' tv' := Own5.base o5 (by omega)
      have hc0 := World.ownsRow.cellAt hown1 (k * 8) (by omega)
      rw [List.getElem?_eq_getElem (by omega)] at hc0
      have hf0 := World.ownsRow.frozenAt hown1 (k * 8)
      have hc1 := World.ownsRow.cellAt hown1 (k * 8 + 1) (by omega)
      rw [List.getElem?_eq_getElem (by omega)] at hc1
      have hf1 := World.ownsRow.frozenAt hown1 (k * 8 + 1)
      have hc2 := World.ownsRow.cellAt hown1 (k * 8 + 2) (by omega)
      rw [List.getElem?_eq_getElem (by omega)] at hc2
      have hf2 := World.ownsRow.frozenAt hown1 (k * 8 + 2)
      have hc3 := World.ownsRow.cellAt hown1 (k * 8 + 3) (by omega)
      rw [List.getElem?_eq_getElem (by omega)] at hc3
      have hf3 := World.ownsRow.frozenAt hown1 (k * 8 + 3)
      have hc4 := World.ownsRow.cellAt hown1 (k * 8 + 4) (by omega)
      rw [List.getElem?_eq_getElem (by omega)] at hc4
      have hf4 := World.ownsRow.frozenAt hown1 (k * 8 + 4)
      have hc5 := World.ownsRow.cellAt hown1 (k * 8 + 5) (by omega)
      rw [List.getElem?_eq_getElem (by omega)] at hc5
      have hf5 := World.ownsRow.frozenAt hown1 (k * 8 + 5)
      have hc6 := World.ownsRow.cellAt hown1 (k * 8 + 6) (by omega)
      rw [List.getElem?_eq_getElem (by omega)] at hc6
      have hf6 := World.ownsRow.frozenAt hown1 (k * 8 + 6)
      have hc7 := World.ownsRow.cellAt hown1 (k * 8 + 7) (by omega)
      rw [List.getElem?_eq_getElem (by omega)] at hc7
      have hf7 := World.ownsRow.frozenAt hown1 (k * 8 + 7)
      have HS := hide (fun a0 a1 a2 a3 a4 a5 a6 a7 => stored8 hown1 (k * 8) a0 a1 a2 a3 a4 a5 a6 a7)
      have HB := hide (fun a0 a1 a2 a3 a4 a5 a6 a7 => grown_of_below (belowC8 (below_of_grown (grown_trans hgr g1)) w.heap.size (k * 8) a0 a1 a2 a3 a4 a5 a6 a7 (Nat.le_refl _)))
      obtain ⟨ra1, rc1, hv1, _, _⟩ := hN.1.rd.sl
      obtain ⟨ra2, rc2, hv2, _⟩ := hN.2.1.rd
      obtain ⟨ra3, rc3, hv3, _⟩ := hN.2.2.1.rd
      obtain ⟨ra4, rc4, hv4, _⟩ := hN.2.2.2.1.rd
      obtain ⟨ra5, rc5, hv5, _, _⟩ := hN.2.2.2.2.rd.sl
      subst hv1 hv2 hv3 hv4 hv5
      have HT2 : Hid (∀ j q, j < k + 1 → ns[j]? = some q → ∃ lv kv xv uv tv, At8 (Go.Proofs.YthcjmmpkgljjhaaGreatDoor.set8 xs (k * 8) (.int .i64 p.k) (.slice ra1 p.lead.length rc1) (.bool p.mem) (.slice ra2 p.key.length rc2) (.slice ra3 p.text.length rc3) (.slice ra4 p.units.length rc4) (.int .i64 p.cnt) (.slice ra5 p.tail.length rc5)) (j * 8) q lv kv xv uv tv ∧ Own5 (w.heap.size + 1) (setC8 w1 w.heap.size (k * 8) (.int .i64 p.k) (.slice ra1 p.lead.length rc1) (.bool p.mem) (.slice ra2 p.key.length rc2) (.slice ra3 p.text.length rc3) (.slice ra4 p.units.length rc4) (.int .i64 p.cnt) (.slice ra5 p.tail.length rc5)) q lv kv xv uv tv) := by
        intro j q hj hq
        by_cases hjk : j < k
        · obtain ⟨lv, kv, xv, uv, tv, ha, ho⟩ := HT.out j q hjk hq
          exact ⟨lv, kv, xv, uv, tv, ha.ne _ _ _ _ _ _ _ _ _ (by omega), (ho.later g1).set8 _ _ _ _ _ _ _ _ _ _ (by omega)⟩
        · have hje : j = k := by omega
          subst hje
          rw [HPk.out] at hq
          cases hq
          exact ⟨_, _, _, _, _, At8.self _ _ _ _ _ _ _ _ (by omega), hN.set8 _ _ _ _ _ _ _ _ _ _ (by omega)⟩
      clear HT hN hto HPk hgr o5
      go_wp2
      go_roundw
      case rel => exact ⟨k + 1, _, by omega, by go_num, HS.out _ _ _ _ _ _ _ _, HT2.out, HB.out _ _ _ _ _ _ _ _⟩
      case measure => simp [intOf]; omega
    · go_wp2
      go_ret
      have hkn : k = ns.length := by omega
      subst hkn
      exact ⟨_, _, xs, rfl, rfl, hown, fun j p hp => HT.out j p (List.getElem?_eq_some_iff.1 hp).1 hp, rfl, hgr⟩

end Go.Proofs.YthcjmmpkgljjhaaGreatDoor

namespace Go.Proofs.YthcjmmpkgljjhaaGreatDoor
open Go.RowKit

/-- A row of nodes of one's own. -/
def OwN (B : Nat) (w : World) (v : Value) (ns : List Nod) : Prop :=
  ∃ g xs, v = .slice (some ⟨g, 0, none⟩) ns.length ns.length ∧ ns.length ≤ maxLen ∧ w.ownsRow B 42 8 v ns.length xs ∧
    ∀ j p, ns[j]? = some p → ∃ lv kv xv uv tv, At8 xs (j * 8) p lv kv xv uv tv ∧ Own5 (g + 1) w p lv kv xv uv tv
theorem OwN.lt {B : Nat} {w : World} {v : Value} {ns : List Nod} (h : OwN B w v ns) : ∃ g, v = .slice (some ⟨g, 0, none⟩) ns.length ns.length ∧ B ≤ g ∧ g < w.heap.size := by
  obtain ⟨g, xs, hv, hm, ho, ht⟩ := h
  exact ⟨g, hv, World.ownsRow.lt ho g (by rw [hv]; rfl)⟩
theorem OwN.later {B : Nat} {w w' : World} {v : Value} {ns : List Nod} (h : OwN B w v ns) (hg : w.grownBy w' none) : OwN B w' v ns := by
  obtain ⟨g, xs, hv, hm, ho, ht⟩ := h
  refine ⟨g, xs, hv, hm, World.ownsRow.kept ho hg (.inr (by simp [hv, Value.ownBlock])), fun j p hp => ?_⟩
  obtain ⟨lv, kv, xv, uv, tv, h1, h2⟩ := ht j p hp
  exact ⟨lv, kv, xv, uv, tv, h1, h2.later hg⟩
theorem OwN.set {B : Nat} {w : World} {v : Value} {ns : List Nod} (h : OwN B w v ns) (b j : Nat) (x : Value) (hb : b < B) : OwN B (w.setCell ⟨b, j, none⟩ x) v ns := by
  obtain ⟨g, xs, hv, hm, ho, ht⟩ := h
  have hlt := World.ownsRow.lt ho g (by rw [hv]; rfl)
  refine ⟨g, xs, hv, hm, row_setC ho _ _ (by rw [hv]; simp [Value.ownBlock]; omega), fun j p hp => ?_⟩
  obtain ⟨lv, kv, xv, uv, tv, h1, h2⟩ := ht j p hp
  exact ⟨lv, kv, xv, uv, tv, h1, h2.set _ _ _ (by omega)⟩
theorem OwN.base {B B' : Nat} {w : World} {v : Value} {ns : List Nod} (h : OwN B w v ns) (hB : B' ≤ B) : OwN B' w v ns := by
  obtain ⟨g, xs, hv, hm, ho, ht⟩ := h
  exact ⟨g, xs, hv, hm, row_base hB ho, ht⟩
theorem OwN.rd {B : Nat} {w : World} {v : Value} {ns : List Nod} (h : OwN B w v ns) : RdN w.heap.size w v ns := by
  obtain ⟨g, xs, hv, hm, ho, ht⟩ := h
  have hlt := World.ownsRow.lt ho g (by rw [hv]; rfl)
  refine ⟨_, _, hv, Nat.le_refl _, hm, fun h0 => ⟨g, 0, rfl, hlt.2, fun j p hp => ?_⟩⟩
  obtain ⟨lv, kv, xv, uv, tv, ⟨e0, e1, e2, e3, e4, e5, e6, e7⟩, o⟩ := ht j p hp
  have hj := (List.getElem?_eq_some_iff.1 hp).1
  rw [hv] at ho
  have cc : ∀ i u, i < 8 → xs[j * 8 + i]? = some u → w.cell? ⟨g, 0 + j * 8 + i, none⟩ = some u := fun i u hi hu => by
    rw [Nat.zero_add, World.ownsRow.cellAt ho (j * 8 + i) (by omega)]; exact hu
  exact ⟨lv, kv, xv, uv, tv, cc 0 _ (by omega) e0, cc 1 _ (by omega) e1, cc 2 _ (by omega) e2, cc 3 _ (by omega) e3, cc 4 _ (by omega) e4, cc 5 _ (by omega) e5, cc 6 _ (by omega) e6, cc 7 _ (by omega) e7,
    o.1.rd, o.2.1.rd, o.2.1.sl, o.2.2.1.rd, o.2.2.1.sl, o.2.2.2.1.rd, o.2.2.2.1.sl, o.2.2.2.2.rd⟩

/-- A tree that is not too long. -/
structure TOk (t : Tre) : Prop where
  n : t.nodes.length ≤ 1048576
  ns : ∀ p ∈ t.nodes, NOk p
  tl : t.tail.length ≤ 1048576
  ts : ∀ c ∈ t.tail, c.t.length ≤ 1048576

set_option maxHeartbeats 1000000 in
set_option maxRecDepth 100000 in
theorem toTree_any (t : Tre) (nv tv : Value) (w : World) (h : RdT' w.heap.size w nv tv t) (hok : TOk t) :
    Calls Tryz.prog 6 #[.agg #[nv, tv]] w fun e w' => ∃ nv' tv', e = .returned (.agg #[nv', tv']) ∧ OwN w.heap.size w' nv' t.nodes ∧ OwC w.heap.size w' tv' t.tail ∧ w.grownBy w' none := by
  obtain ⟨hn, ht⟩ := h
  obtain ⟨na, ncap, hnv, _, _, _⟩ := id hn
  obtain ⟨ta, tcap, htv, _, _⟩ := ht.sl
  have gA : w.grownBy (((w.alloc (.cells #[nv, tv] 25)).alloc (.cells #[.slice none 0 0, .slice none 0 0] 30)).alloc (.cells #[.slice none 0 0, .slice none 0 0] 30)) none :=
    grown_trans (grown_trans (World.grownBy_alloc _ _ _) (World.grownBy_alloc _ _ _)) (World.grownBy_alloc _ _ _)
  have HN := hide (toNodeS_any nv t.nodes _ ((hn.keep gA).wide gA.size) hok.n hok.ns)
  have HT := hide (fun W (hW : w.grownBy W none) => toCommentS_any tv t.tail W ((ht.keep hW).wide hW.size) hok.tl hok.ts)
  have bA : Below w.heap.size w (((w.alloc (.cells #[nv, tv] 25)).alloc (.cells #[.slice none 0 0, .slice none 0 0] 30)).alloc (.cells #[.slice none 0 0, .slice none 0 0] 30)) :=
    (((Below.refl w.heap.size w).alloc (Nat.le_refl _) _).alloc (by simp) _).alloc (by simp; omega) _
  have hnl := hok.n
  clear hn ht
  go_enter Tryz.func6, Tryz.ntmps6
  subst hnv htv
  go_wp2_with fail
  refine HN.out.mono ?_
  rintro e w1 ⟨v1, g, xs, rfl, hv1, ho1, ht1, hge, g1⟩
  have O1 : OwN (w.heap.size + 3) w1 v1 t.nodes := ⟨g, xs, hv1, by unfold maxLen; omega, row_base (by simp) ho1, fun j p hp => by subst hge; exact ht1 j p hp⟩
  subst hv1
  have r0 := grown_bothC (a := ⟨w.heap.size + 1, 0, none⟩) (v := .slice none 0 0) g1 (by simp [go_sem]) (by simp [go_sem])
  have r1 := grown_bothC (a := ⟨w.heap.size + 1, 1, none⟩) (v := .slice none 0 0) g1 (by simp [go_sem]) (by simp [go_sem])
  have x0 := grown_bothC (a := ⟨w.heap.size + 1 + 1, 0, none⟩) (v := .slice none 0 0) g1 (by simp [go_sem]) (by simp [go_sem])
  have x1 := grown_bothC (a := ⟨w.heap.size + 1 + 1, 1, none⟩) (v := .slice none 0 0) g1 (by simp [go_sem]) (by simp [go_sem])
  have a1 := g1.cell (a := ⟨w.heap.size, 1, none⟩) (v := .slice ta t.tail.length tcap) (by simp [go_sem]) (by simp)
  obtain ⟨r0, r0f⟩ := r0
  obtain ⟨r1, r1f⟩ := r1
  obtain ⟨x0, x0f⟩ := x0
  obtain ⟨x1, x1f⟩ := x1
  have bel : Below w.heap.size w w1 := bA.grown g1 (by simp; omega) (fun k e => by cases e)
  have hs1 : w.heap.size + 3 ≤ w1.heap.size := by have := g1.size; simp at this; omega
  have HO1 := hide (O1.set (w.heap.size + 1 + 1) 0 (.slice (some ⟨g, 0, none⟩) t.nodes.length t.nodes.length) (by omega))
  have bel2 := bel.setCell (p := ⟨w.heap.size + 1 + 1, 0, none⟩) (by simp only; omega) (.slice (some ⟨g, 0, none⟩) t.nodes.length t.nodes.length)
  have HB := hide bel2
  have HT1 := hide (HT.out _ (grown_of_below bel2))
  clear HT O1 ho1 ht1 bel bel2 bA g1 hge
  go_wp2_with fail
  refine HT1.out.mono ?_
  rintro e w2 ⟨v2, rfl, o2, g2⟩
  have r0' := grown_bothC (a := ⟨w.heap.size + 1, 0, none⟩) (v := .slice none 0 0) g2 (by simp [go_sem, r0]) (by simp [go_sem, r0f])
  have r1' := grown_bothC (a := ⟨w.heap.size + 1, 1, none⟩) (v := .slice none 0 0) g2 (by simp [go_sem, r1]) (by simp [go_sem, r1f])
  have x0' := grown_bothC (a := ⟨w.heap.size + 1 + 1, 0, none⟩) (v := .slice (some ⟨g, 0, none⟩) t.nodes.length t.nodes.length) g2 (by simp [go_sem, x0]) (by simp [go_sem, x0f])
  have x1' := grown_bothC (a := ⟨w.heap.size + 1 + 1, 1, none⟩) (v := .slice none 0 0) g2 (by simp [go_sem, x1]) (by simp [go_sem, x1f])
  clear r0 r1 x0 x1 r0f r1f x0f x1f a1
  obtain ⟨r0, r0f⟩ := r0'
  obtain ⟨r1, r1f⟩ := r1'
  obtain ⟨x0, x0f⟩ := x0'
  obtain ⟨x1, x1f⟩ := x1'
  have O2 := o2.base (B' := w.heap.size + 3) (by simpa using hs1)
  obtain ⟨ta2, tcap2, hv2, _, _⟩ := o2.rd.sl
  subst hv2
  have HO2 := hide O2
  have HO1' := hide (HO1.out.later g2)
  have HB2 := hide (HB.out.grown g2 HB.out.size (fun k e => by cases e))
  clear HO1 HB O2 o2 g2 HT1 HN gA
  go_wp2
  refine bodyPost_ret (v := .agg #[.slice (some ⟨g, 0, none⟩) t.nodes.length t.nodes.length, .slice ta2 t.tail.length tcap2]) (by simp [results, Tryz.results6, go_sem, r0, r1]) rfl ?_
  refine ⟨_, _, rfl, ?_, ?_, ?_⟩
  · exact (((HO1'.out.set _ _ _ (by omega)).set _ _ _ (by omega)).set _ _ _ (by omega)).base (by omega)
  · exact (((HO2.out.set _ _ _ (by omega)).set _ _ _ (by omega)).set _ _ _ (by omega)).base (by omega)
  · exact grown_of_below (((HB2.out.setCell (by simp only; omega) _).setCell (by simp only; omega) _).setCell (by simp only; omega) _)

end Go.Proofs.YthcjmmpkgljjhaaGreatDoor

namespace Go.Proofs.YthcjmmpkgljjhaaGreatDoor
open Go.RowKit

/-! The trail of a mark: the addresses that it visits, in order, each with the kind of what lies there. -/

inductive Kd where
  | b
  | i
  | o
def mkV : Kd → Int → Value
  | .b, k => .int .u8 (k % 256)
  | .i, k => .int .i64 k
  | .o, k => .bool (decide (k % 3 = 0))
/-- The world that a mark leaves. -/
def mrk : World → Int → List (Addr × Kd) → World
  | w, _, [] => w
  | w, s, (a, q) :: l => mrk (w.setCell a (mkV q s)) (s + 1) l
theorem mrk_nil (w : World) (s : Int) : mrk w s [] = w := rfl
theorem mrk_app : ∀ (l1 l2 : List (Addr × Kd)) (w : World) (s : Int), mrk w s (l1 ++ l2) = mrk (mrk w s l1) (s + l1.length) l2
  | [], l2, w, s => by simp [mrk]
  | (a, q) :: l, l2, w, s => by
    simp only [List.cons_append, mrk, mrk_app l l2, List.length_cons]
    congr 1
    omega
theorem mrk_snoc (l : List (Addr × Kd)) (a : Addr) (q : Kd) (w : World) (s : Int) : mrk w s (l ++ [(a, q)]) = (mrk w s l).setCell a (mkV q (s + l.length)) := by
  rw [mrk_app]; rfl
theorem mrk_size : ∀ (l : List (Addr × Kd)) (w : World) (s : Int), (mrk w s l).heap.size = w.heap.size
  | [], w, s => rfl
  | (a, q) :: l, w, s => by simp only [mrk, mrk_size l]; simp
theorem mrk_frozen : ∀ (l : List (Addr × Kd)) (w : World) (s : Int) (x : Addr), (mrk w s l).frozen? x = w.frozen? x
  | [], w, s, x => rfl
  | (a, q) :: l, w, s, x => by simp only [mrk, mrk_frozen l]; simp
theorem mrk_far : ∀ (l : List (Addr × Kd)) (w : World) (s : Int) (x : Addr), (∀ y ∈ l, y.1 ≠ x) → (mrk w s l).cell? x = w.cell? x
  | [], w, s, x, _ => rfl
  | (a, q) :: l, w, s, x, h => by
    simp only [mrk]
    rw [mrk_far l _ _ x (fun y hy => h y (by simp [hy])), World.cell?_setCell_other _ _ _ _ (h (a, q) (by simp))]
theorem mrk_at : ∀ (l : List (Addr × Kd)) (w : World) (s : Int) (j : Nat) (y : Addr × Kd), (l.map (·.1)).Nodup → l[j]? = some y → (w.cell? y.1).isSome = true → (mrk w s l).cell? y.1 = some (mkV y.2 (s + j))
  | [], w, s, j, y, _, h, _ => by simp at h
  | (a, q) :: l, w, s, 0, y, hn, h, hs => by
    simp at h
    subst h
    simp only [List.map_cons, List.nodup_cons] at hn
    simp only [mrk]
    rw [mrk_far l _ _ a (fun y hy e => hn.1 (by rw [← e]; exact List.mem_map_of_mem hy)), World.cell?_setCell_same' _ _ _ hs]
    simp
  | (a, q) :: l, w, s, j + 1, y, hn, h, hs => by
    simp only [List.map_cons, List.nodup_cons] at hn
    simp at h
    have hne : a ≠ y.1 := fun e => hn.1 (by rw [e]; exact List.mem_map_of_mem (List.mem_of_getElem? h))
    simp only [mrk]
    rw [mrk_at l _ _ j y hn.2 h (by rw [World.cell?_setCell_other _ _ _ _ hne]; exact hs)]
    congr 2
    omega
theorem mrk_grown : ∀ (l : List (Addr × Kd)) (w : World) (s : Int) (B H : Nat), (∀ y ∈ l, B ≤ y.1.block ∧ y.1.block < H) → ∀ k, k < B ∨ H ≤ k → (mrk w s l).heap[k]? = w.heap[k]?
  | [], w, s, B, H, _, k, _ => rfl
  | (a, q) :: l, w, s, B, H, h, k, hk => by
    have h0 := h (a, q) (by simp)
    simp only at h0
    simp only [mrk]
    rw [mrk_grown l _ _ B H (fun y hy => h y (by simp [hy])) k hk]
    exact Below.heap_setCell _ _ _ _ (by omega)
theorem mrk_same : ∀ (l : List (Addr × Kd)) (w : World) (s : Int), (mrk w s l).os = w.os ∧ (mrk w s l).tape = w.tape ∧ (mrk w s l).output = w.output
  | [], w, s => ⟨rfl, rfl, rfl⟩
  | (a, q) :: l, w, s => by
    obtain ⟨h1, h2, h3⟩ := mrk_same l (w.setCell a (mkV q s)) (s + 1)
    exact ⟨h1, h2, h3⟩
end Go.Proofs.YthcjmmpkgljjhaaGreatDoor

