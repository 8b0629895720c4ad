import Derived.Test.YthcjmmpkgljjhaaGreatDoorMAN
namespace Go.Proofs.YthcjmmpkgljjhaaGreatDoor
open Go.RowKit

theorem bytes_row_rd (w : World) (wl : List Int) (hb : Bys wl) (c : Nat) :
    RdB (w.alloc (.cells (bytesRow (strOfNums wl) c) 5 ((bytesRow (strOfNums wl) c).size, (bytesRow (strOfNums wl) c).size + 1))).heap.size (w.alloc (.cells (bytesRow (strOfNums wl) c) 5 ((bytesRow (strOfNums wl) c).size, (bytesRow (strOfNums wl) c).size + 1))) (.slice (some ⟨w.heap.size, 0, none⟩) wl.length c) wl := by
  refine ⟨_, c, rfl, fun _ => ⟨w.heap.size, 0, rfl, by simp, fun j hj => ?_⟩⟩
  have := World.cell?_alloc_mark w (bytesRow (strOfNums wl) c) 5 ((bytesRow (strOfNums wl) c).size, (bytesRow (strOfNums wl) c).size + 1) j
  rw [Nat.zero_add, this]
  have hz := hb _ (List.getElem_mem hj)
  unfold bytesRow
  rw [Array.getElem?_append_left (by simp [strOfNums, hj])]
  simp [strOfNums, hj]
  omega
theorem Rd.heap {q : IntKind} {B : Nat} {w w' : World} {v : Value} {zs : List Int} (h : Rd q B w v zs) (e : w'.heap = w.heap) : Rd q B w' v zs := by
  obtain ⟨a, cap, hv, hr⟩ := h
  refine ⟨a, cap, hv, fun h0 => ?_⟩
  obtain ⟨b, off, ha, hb, hc⟩ := hr h0
  exact ⟨b, off, ha, hb, fun j hj => by rw [← hc j hj]; unfold World.cell?; rw [e]⟩
/-- The text from place n on. -/
theorem Tx.from_ {B : Nat} {w : World} {a : Option Addr} {cap : Nat} {zs : List Int} (h : Tx B w (.slice a zs.length cap) zs) (n : Nat) (hn : n ≤ zs.length) :
    RdB B w (.slice (if cap = n then a else Option.map (fun x => x.add n) a) (zs.length - n) (cap - n)) (zs.drop n) ∧ Sl (.slice (if cap = n then a else Option.map (fun x => x.add n) a) (zs.length - n) (cap - n)) (zs.drop n).length ∧ Bys (zs.drop n) := by
  obtain ⟨a2, cap2, hv, hr⟩ := h.rd
  obtain ⟨a', cap', hve, hcap, hcm⟩ := h.sl
  have e1 : a = a2 ∧ cap = cap2 := by simpa using hv
  have e2 : a = a' ∧ cap = cap' := by simpa using hve
  obtain ⟨rfl, rfl⟩ := e1
  obtain ⟨_, rfl⟩ := e2
  refine ⟨⟨_, cap - n, by rw [List.length_drop], fun h0 => ?_⟩, ⟨_, cap - n, by rw [List.length_drop], by rw [List.length_drop]; omega, by omega⟩, fun z hz => h.by_ z (List.mem_of_mem_drop hz)⟩
  have hlt : n < zs.length := by
    apply Classical.byContradiction
    intro hc
    exact h0 (List.drop_of_length_le (by omega))
  obtain ⟨b, off, rfl, hb, hc⟩ := hr (fun e => by simp [e] at hlt)
  rw [if_neg (by omega)]
  refine ⟨b, off + n, by simp [Addr.add], hb, fun j hj => ?_⟩
  rw [List.length_drop] at hj
  rw [Nat.add_assoc, hc (n + j) (by omega), drop_at]

theorem Sc.drew {sb : Nat} {w : World} {tv : Value} {n : Nat} (h : Sc sb w tv n) : Sc sb w.drew tv n := ⟨h.c0, h.c1, h.fz⟩

set_option maxHeartbeats 2000000 in
set_option maxRecDepth 100000 in
theorem accept_any (wl : List Int) (hwb : Bys wl) (hwl : wl.length ≤ 100) (sb n : Nat) (tv : Value) (zs : List Int) (w : World) (h : Sc sb w tv n) (ht : Tx sb w tv zs) (hn : n ≤ zs.length) :
    Calls Tryz.prog 83 #[.pointer (some ⟨sb, 0, none⟩), .string (strOfNums wl)] w fun e w' => e = .returned (.bool (decide (wl <+: zs.drop n))) ∧ Sc sb w' tv (if wl <+: zs.drop n then n + wl.length else n) ∧ w.grownBy w' (some sb) := by
  have hnot : ∀ (x : Bool) (w : World), (Op.unary .not (.bool x)).run Tryz.prog w = .ok (.bool (!x)) w := fun _ _ => rfl
  have h0 := h.c0
  have h1 := h.c1
  have hlt := h.lt
  have hss : (strOfNums wl).size = wl.length := strOfNums_size wl
  have hlen := ht.len
  have hconv : ∀ W : World, _ := fun W => run_bytes_of_string (P := Tryz.prog) W 9 40 5 (strOfNums wl) Tryz.underlying9 Tryz.underlying40 Tryz.underlying5
  simp only [strOfNums_size] at hconv
  obtain ⟨a, cap, rfl, _⟩ := ht.rd
  obtain ⟨a', cap', hve, hcap, hcm⟩ := ht.sl
  have hce : cap = cap' := by simp at hve; exact hve.2
  subst hce
  unfold maxLen at hcm
  have hF := ht.from_ n hn
  have hg := World.grownBy_alloc w (.cells (bytesRow (strOfNums wl) (grownCap w.drew wl.length 0 5)) 5 ((bytesRow (strOfNums wl) (grownCap w.drew wl.length 0 5)).size, (bytesRow (strOfNums wl) (grownCap w.drew wl.length 0 5)).size + 1)) none
  have hsz : sb ≤ (w.alloc (.cells (bytesRow (strOfNums wl) (grownCap w.drew wl.length 0 5)) 5 ((bytesRow (strOfNums wl) (grownCap w.drew wl.length 0 5)).size, (bytesRow (strOfNums wl) (grownCap w.drew wl.length 0 5)).size + 1))).heap.size := by simp; omega
  have HH := hide (fun v1 (r1 : RdB _ _ v1 _) s1 => hasPrefix_any v1 _ (zs.drop n) wl (w.alloc (.cells (bytesRow (strOfNums wl) (grownCap w.drew wl.length 0 5)) 5 ((bytesRow (strOfNums wl) (grownCap w.drew wl.length 0 5)).size, (bytesRow (strOfNums wl) (grownCap w.drew wl.length 0 5)).size + 1))).drew.drew
    r1 s1 ((bytes_row_rd w wl hwb _).heap rfl) hF.2.2 hwb (by rw [List.length_drop]; omega) (by omega) |>.mono fun e w' (hx : _ ∧ _) => (⟨hx.1, hx.2 ▸ (h.keep hg).drew.drew, hx.2 ▸ grown_drew1 (grown_drew1 hg)⟩ : _ ∧ Sc sb w' (.slice a zs.length cap) n ∧ w.grownBy w' none))
  have HR := hide ((hF.1.keep hg).now.heap (w' := (w.alloc (.cells (bytesRow (strOfNums wl) (grownCap w.drew wl.length 0 5)) 5 ((bytesRow (strOfNums wl) (grownCap w.drew wl.length 0 5)).size, (bytesRow (strOfNums wl) (grownCap w.drew wl.length 0 5)).size + 1))).drew.drew) rfl)
  have HSl := hide hF.2.1
  clear h ht hve hF hg hsz
  obtain ⟨m, hm⟩ : ∃ m : Nat, m = if wl <+: zs.drop n then n + wl.length else n := ⟨_, rfl⟩
  rw [← hm]
  have hm2 : m = if decide (wl <+: zs.drop n) = true then n + wl.length else n := by rw [hm]; simp
  generalize decide (wl <+: zs.drop n) = ok at HH hm2 ⊢
  have HM := hide hm2
  clear hm hm2
  by_cases hcn : cap = n
  · have hz : zs.length = n := by omega
    have HZ : Hid (∀ (a : Option Addr) (l c : Nat), l = 0 ∧ c = 0 → RdB (w.alloc (.cells (bytesRow (strOfNums wl) (grownCap w.drew wl.length 0 5)) 5 ((bytesRow (strOfNums wl) (grownCap w.drew wl.length 0 5)).size, (bytesRow (strOfNums wl) (grownCap w.drew wl.length 0 5)).size + 1))).drew.drew.heap.size (w.alloc (.cells (bytesRow (strOfNums wl) (grownCap w.drew wl.length 0 5)) 5 ((bytesRow (strOfNums wl) (grownCap w.drew wl.length 0 5)).size, (bytesRow (strOfNums wl) (grownCap w.drew wl.length 0 5)).size + 1))).drew.drew (.slice a l c) (zs.drop n) ∧ Sl (.slice a l c) (zs.drop n).length) := by
      rintro a l c ⟨rfl, rfl⟩
      rw [List.drop_of_length_le (by omega)]
      exact ⟨⟨a, 0, rfl, fun h => absurd rfl h⟩, ⟨a, 0, rfl, Nat.le_refl _, by unfold maxLen; omega⟩⟩
    clear hz
    cases ok
    · go_enter Tryz.func83, Tryz.ntmps83
      go_wp2_with fail
      have q0 : ∀ o, ((w.drew).drew.alloc o).cell? ⟨sb, 0, none⟩ = some (.slice a zs.length cap) := fun o => (World.cell?_alloc_past _ _ _ hlt).trans h0
      have q1 : ∀ o, ((w.drew).drew.alloc o).cell? ⟨sb, 1, none⟩ = some (.int .i64 n) := fun o => (World.cell?_alloc_past _ _ _ hlt).trans h1
      go_region_with (go_at_call 94; refine (HH.out _ (HZ.out _ _ _ (by omega)).1 (HZ.out _ _ _ (by omega)).2).mono ?_; rintro e w1 ⟨rfl, k1, g1⟩)
      all_goals
        have hc1 := k1.c1
        have hc2 := k1.fz
        go_wp2
        go_ret
        exact ⟨rfl, by rw [HM.out]; exact k1, grown_row g1⟩
    · go_enter Tryz.func83, Tryz.ntmps83
      go_wp2_with fail
      have q0 : ∀ o, ((w.drew).drew.alloc o).cell? ⟨sb, 0, none⟩ = some (.slice a zs.length cap) := fun o => (World.cell?_alloc_past _ _ _ hlt).trans h0
      have q1 : ∀ o, ((w.drew).drew.alloc o).cell? ⟨sb, 1, none⟩ = some (.int .i64 n) := fun o => (World.cell?_alloc_past _ _ _ hlt).trans h1
      go_region_with (go_at_call 94; refine (HH.out _ (HZ.out _ _ _ (by omega)).1 (HZ.out _ _ _ (by omega)).2).mono ?_; rintro e w1 ⟨rfl, k1, g1⟩)
      all_goals
        have hc1 := k1.c1
        have hc2 := k1.fz
        go_wp2
        go_ret
        exact ⟨rfl, by rw [HM.out]; exact k1.put _ _ (by go_num), grown_trans (grown_row g1) (grown_set1 _ _ _ _)⟩
  · rw [if_neg hcn] at HR HSl
    cases ok
    · go_enter Tryz.func83, Tryz.ntmps83
      go_wp2_with fail
      have q0 : ∀ o, ((w.drew).drew.alloc o).cell? ⟨sb, 0, none⟩ = some (.slice a zs.length cap) := fun o => (World.cell?_alloc_past _ _ _ hlt).trans h0
      have q1 : ∀ o, ((w.drew).drew.alloc o).cell? ⟨sb, 1, none⟩ = some (.int .i64 n) := fun o => (World.cell?_alloc_past _ _ _ hlt).trans h1
      go_region_with (go_at_call 94; refine (HH.out _ HR.out HSl.out).mono ?_; rintro e w1 ⟨rfl, k1, g1⟩)
      all_goals
        have hc1 := k1.c1
        have hc2 := k1.fz
        go_wp2
        go_ret
        exact ⟨rfl, by rw [HM.out]; exact k1, grown_row g1⟩
    · go_enter Tryz.func83, Tryz.ntmps83
      go_wp2_with fail
      have q0 : ∀ o, ((w.drew).drew.alloc o).cell? ⟨sb, 0, none⟩ = some (.slice a zs.length cap) := fun o => (World.cell?_alloc_past _ _ _ hlt).trans h0
      have q1 : ∀ o, ((w.drew).drew.alloc o).cell? ⟨sb, 1, none⟩ = some (.int .i64 n) := fun o => (World.cell?_alloc_past _ _ _ hlt).trans h1
      go_region_with (go_at_call 94; refine (HH.out _ HR.out HSl.out).mono ?_; rintro e w1 ⟨rfl, k1, g1⟩)
      all_goals
        have hc1 := k1.c1
        have hc2 := k1.fz
        go_wp2
        go_ret
        exact ⟨rfl, by rw [HM.out]; exact k1.put _ _ (by go_num), grown_trans (grown_row g1) (grown_set1 _ _ _ _)⟩

end Go.Proofs.YthcjmmpkgljjhaaGreatDoor

