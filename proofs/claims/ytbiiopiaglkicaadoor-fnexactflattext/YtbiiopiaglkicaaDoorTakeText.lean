import Derived.Test.YtbiiopiaglkicaaDoorPop
namespace Go.Proofs.YtbiiopiaglkicaaDoor
open Go.RowKit

/-- The stack of the trees that are ready, the newest first. -/
def stOf (rs : List Mk) : List (Tr × Int) := (rs.map fun x => (x.T, x.n)).reverse
theorem stOf_snoc (rs : List Mk) (x : Mk) : stOf (rs ++ [x]) = (x.T, x.n) :: stOf rs := by simp [stOf]
theorem stOf_len (rs : List Mk) : (stOf rs).length = rs.length := by simp [stOf]

/-- What 'take' leaves; k: how many nodes there are then. -/
def TakeSays (B : Nat) (w : World) (bb k : Nat) (o : Option (Int × List (Tr × Int))) (e : Ending) (w' : World) : Prop :=
  Below B w w' ∧ match o with
    | none => e = .returned (.bool false)
    | some (r, st) => e = .returned (.bool true) ∧ ∃ nv rv rs, stOf rs = st ∧ Bst B w' bb nv rv rs (lsOf rs) r ∧ (lsOf rs).length = k

theorem take_none (t : List Int) (k : Nat) (hk : k < t.length) (h : 10 ∉ t.take k) (hp : ¬ t[k]?.getD 0 = 10) : 10 ∉ t.take (k + 1) := by
  rw [take_snoc t k hk]
  simp only [List.mem_append, List.mem_cons, List.not_mem_nil, or_false, not_or]
  exact ⟨h, fun e => hp e.symm⟩

set_option maxHeartbeats 400000 in
set_option maxRecDepth 100000 in
theorem slicesIndex_any (v : Value) (t : List Int) (w : World) (hv : RdB w.heap.size w v t) (hn : t.length ≤ 1048576) :
    Calls Tryd.prog 104 #[v, .int .u8 10] w fun e w' => (∃ i : Int, e = .returned (.int .i64 i) ∧ decide (0 ≤ i) = t.contains 10) ∧ w = w' := by
  obtain ⟨a, cap, rfl, hr⟩ := hv
  go_enter Tryd.func104, Tryd.ntmps104
  go_wp2
  go_loopw [8] (fun i wr => ∃ k : Nat, k ≤ t.length ∧ i = .int .i64 k ∧ Hid (10 ∉ t.take k) ∧ Hid (wr = w)) (fun i _ => t.length - (intOf i).toNat)
  case atStart => exact ⟨0, Nat.zero_le _, rfl, by unfold Hid; simp, rfl⟩
  case round =>
    obtain ⟨k, hk, rfl, H10, HW⟩ := hrel
    have hwr := HW.out
    clear HW
    subst hwr
    by_cases hlt : k < t.length
    · obtain ⟨b, off, rfl, hb, hc⟩ := hr (fun e => by rw [e] at hlt; simp at hlt)
      have hx := hc k hlt
      clear hc hr
      by_cases h10 : t[k]?.getD 0 = 10
      · have HC : Hid (t.contains 10 = true) := by
          unfold Hid; rw [List.contains_iff_mem, ← h10]; simp [hlt]
        have e10 : ((10 : Int) == 10) = true := rfl
        rw [h10] at hx
        clear h10
        go_wp2
        go_ret
        exact ⟨⟨k, rfl, by rw [HC.out]; simp⟩, rfl⟩
      · have HT : Hid (10 ∉ t.take (k + 1)) := take_none t k hlt H10.out h10
        have e10 : ((10 : Int) == (t[k]?.getD 0)) = false := by simp; exact fun e => h10 e.symm
        generalize t[k]?.getD 0 = z at hx e10
        clear h10
        go_wp2
        go_roundw
        case rel => exact ⟨k + 1, by omega, by go_num, HT, by first | rfl | trivial⟩
        case measure => simp [intOf]; omega
    · have hkn : k = t.length := by omega
      have HC : Hid (t.contains 10 = false) := by
        have := H10.out
        rw [hkn, List.take_length] at this
        unfold Hid
        simpa using this
      clear hr
      go_wp2
      go_ret
      exact ⟨⟨-1, rfl, by rw [HC.out]; rfl⟩, rfl⟩

set_option maxHeartbeats 400000 in
theorem slicesContains_any (v : Value) (t : List Int) (w : World) (hv : RdB w.heap.size w v t) (hn : t.length ≤ 1048576) :
    Calls Tryd.prog 98 #[v, .int .u8 10] w fun e w' => e = .returned (.bool (t.contains 10)) ∧ w = w' := by
  have hI := slicesIndex_any v t w hv hn
  obtain ⟨a, cap, rfl, hr⟩ := hv
  clear hr
  go_enter Tryd.func98, Tryd.ntmps98
  go_wp2_with fail
  refine hI.mono ?_
  rintro e w1 ⟨⟨i, rfl, hi⟩, rfl⟩
  have HI : Hid (decide (0 ≤ i) = t.contains 10) := hi
  clear hi
  go_wp2
  go_ret
  exact ⟨by rw [← HI.out]; rfl, rfl⟩

theorem Bst.setRoom {B : Nat} {w : World} {bb : Nat} {nv rv : Value} {rs : List Mk} {ns : List Value} {room : Int} (h : Bst B w bb nv rv rs ns room) (r : Int) : Bst B (w.setCell ⟨bb, 2, none⟩ (.int .i64 r)) bb nv rv rs ns r := by
  have bel : Below B w (w.setCell ⟨bb, 2, none⟩ (.int .i64 r)) := (Below.refl B w).setCell h.big _
  have c0 := h.c0
  have c1 := h.c1
  have c2 := h.c2
  have hbk : ∀ b, b < w.heap.size → ¬ Xof bb nv rv b → (w.setCell ⟨bb, 2, none⟩ (.int .i64 r)).heap[b]? = w.heap[b]? := by
    intro b hb hnx
    exact heap_setCell_other _ _ _ _ (fun e => hnx (.inl (by simpa using e)))
  refine ⟨h.big, by simp [go_sem, c0], by simpa using h.f0, by simp [go_sem, c1], by simpa using h.f1, by simp [go_sem, c2], by simpa using h.f2, row_set h.nrow _ _ h.nap, row_set h.row _ _ h.ap, h.ap, h.nap, h.nr, h.once.turn hbk (fun _ _ h => h), fun x hx => (h.rep x hx).turn bel.size hbk (fun _ _ h => h) (fun tv t hr => Rd.below hr bel), fun x hx => (h.post x hx).turn hbk (h.rep x hx)⟩

def textStep (room : Int) (st : List (Tr × Int)) (p : Pc) : Option (Int × List (Tr × Int)) :=
  if room < p.t.length then none else if widthR p.t < 0 ∨ p.t.contains 10 = true then none else some (room - p.t.length, (.leaf p, 0) :: st)

set_option maxHeartbeats 2000000 in
set_option maxRecDepth 100000 in
theorem takeText_any (B : Nat) (w : World) (bb : Nat) (nv rv : Value) (rs : List Mk) (room : Int) (p : Pc) (tv : Value) (hS : Bst B w bb nv rv rs (lsOf rs) room) (hk : p.k = 1) (hv : RdB B w tv p.t) (hsl : Sl tv p.t.length) (hby : Bys p.t) (hn : p.t.length ≤ 1048576)
    (hr0 : 0 ≤ room) (hr1 : room ≤ 100000) (hB : B ≤ w.heap.size) (hB0 : 0 < B) (hT : Tab w) (hl : rs.length ≤ 1048576) (hln : (lsOf rs).length ≤ 1048576) :
    Calls Tryd.prog 83 #[.pointer (some ⟨bb, 0, none⟩), tv] w fun e w' => TakeSays B w bb ((lsOf rs).length + 1) (textStep room (stOf rs) p) e w' := by
  have c2 := hS.c2
  have f2 := hS.f2
  obtain ⟨ta, tcap, htv, htl, htm⟩ := id hsl
  by_cases hroom : room < p.t.length
  · have HF : Hid (textStep room (stOf rs) p = none) := by unfold Hid textStep; rw [if_pos hroom]
    subst htv
    clear hS hv hT
    go_enter Tryd.func83, Tryd.ntmps83
    go_wp2
    go_ret
    exact ⟨Below.refl _ _, by rw [HF.out]; rfl⟩
  · have bel : Below B w (w.setCell ⟨bb, 2, none⟩ (.int .i64 (room - p.t.length))) := (Below.refl B w).setCell hS.big _
    have HS : Hid (Bst B (w.setCell ⟨bb, 2, none⟩ (.int .i64 (room - p.t.length))) bb nv rv rs (lsOf rs) (room - p.t.length)) := hS.setRoom _
    have HBel : Hid (Below B w (w.setCell ⟨bb, 2, none⟩ (.int .i64 (room - p.t.length)))) := bel
    have HV : Hid (RdB B (w.setCell ⟨bb, 2, none⟩ (.int .i64 (room - p.t.length))) tv p.t) := Rd.below hv bel
    have hW := implTextWidth_any tv p.t (w.setCell ⟨bb, 2, none⟩ (.int .i64 (room - p.t.length))) (HV.out.wide (by simpa using hB)) hby hn hsl (hT.below bel hB0)
    have hsz : (w.setCell ⟨bb, 2, none⟩ (.int .i64 (room - p.t.length))).heap.size = w.heap.size := by simp
    have HSz : Hid ((w.setCell ⟨bb, 2, none⟩ (.int .i64 (room - p.t.length))).heap.size = w.heap.size) := hsz
    have HSl : Hid (Sl tv p.t.length) := hsl
    have hwl := decR_len p.t
    clear hS hv hT bel hsl hsz
    by_cases hwd : widthR p.t < 0
    · have HF : Hid (textStep room (stOf rs) p = none) := by unfold Hid textStep; rw [if_neg hroom, if_pos (.inl hwd)]
      generalize widthR p.t = wd at *
      subst htv
      clear HS HV hwl
      go_enter Tryd.func83, Tryd.ntmps83
      go_wp2_with fail
      refine hW.mono ?_
      rintro e w2 ⟨rfl, g2⟩
      go_wp2
      go_ret
      exact ⟨HBel.out.grown g2 (by simpa using hB) (fun k e => by cases e), by rw [HF.out]; rfl⟩
    · cases hct : p.t.contains 10 with
      | true =>
        have HF : Hid (textStep room (stOf rs) p = none) := by unfold Hid textStep; rw [if_neg hroom, if_pos (.inr hct)]
        generalize widthR p.t = wd at *
        subst htv
        clear HS hwl
        go_enter Tryd.func83, Tryd.ntmps83
        go_wp2_with fail
        refine hW.mono ?_
        rintro e w2 ⟨rfl, g2⟩
        have hC := slicesContains_any _ p.t w2 ((HV.out.keep g2).wide (by have := g2.size; rw [HSz.out] at this; omega)) hn
        rw [hct] at hC
        clear hct HV
        go_wp2_with fail
        refine hC.mono ?_
        rintro e w3 ⟨rfl, rfl⟩
        go_wp2
        go_ret
        exact ⟨HBel.out.grown g2 (by simpa using hB) (fun k e => by cases e), by rw [HF.out]; rfl⟩
      | false =>
        have HF : Hid (textStep room (stOf rs) p = some (room - p.t.length, (.leaf p, 0) :: stOf rs)) := by
          unfold Hid textStep; rw [if_neg hroom, if_neg (by rw [hct]; simp; omega)]
        have HWd : Hid (∀ wd, widthR p.t = wd → True) := fun _ _ => trivial
        obtain ⟨wd, hwd2⟩ : ∃ wd, wd = widthR p.t := ⟨_, rfl⟩
        have HW2 : Hid (wd = widthR p.t) := hwd2
        rw [← hwd2] at hW hwd
        clear hwd2 hwl HWd
        subst htv
        go_enter Tryd.func83, Tryd.ntmps83
        go_wp2_with fail
        refine hW.mono ?_
        rintro e w2 ⟨rfl, g2⟩
        have hg2 := g2.size
        rw [HSz.out] at hg2
        have hC := slicesContains_any _ p.t w2 ((HV.out.keep g2).wide (by omega)) hn
        rw [hct] at hC
        clear hct
        go_wp2_with fail
        refine hC.mono ?_
        rintro e w3 ⟨rfl, rfl⟩
        have hg3 : w2.grownBy (w2.alloc (.cells #[.slice ta p.t.length tcap, .int .i64 wd] 93)) none := World.grownBy_alloc _ _ _
        have HS3 := (HS.out.keep g2).keep hg3
        have hbb := (HS.out.keep g2).lt
        have hrl := World.ownsRow.lt (HS.out.keep g2).row
        have hnl := World.ownsRow.lt (HS.out.keep g2).nrow
        have hnx : ¬ Xof bb nv rv w2.heap.size := by
          intro hx
          rcases hx with h | h | h
          · omega
          · have := hnl _ h; omega
          · have := hrl _ h; omega
        have HRep : Rep (Xof bb nv rv) B (w2.alloc (.cells #[.slice ta p.t.length tcap, .int .i64 wd] 93)) (.iface 89 (.pointer (some ⟨w2.heap.size, 0, none⟩))) (.leaf p) := by
          simp only [Rep]
          exact .inr (.inr (.inr (.inr (.inr ⟨hk, w2.heap.size, .slice ta p.t.length tcap, rfl, hnx, by simp, by rw [← HW2.out]; exact heap_alloc_new _ _, (HV.out.keep g2).keep hg3, HSl.out⟩))))
        have hnw := (HS.out.keep g2).once.new 89 w2.heap.size (Nat.le_refl _)
        have hput := put_any B _ bb nv rv rs (lsOf rs) (room - p.t.length) ⟨.iface 89 (.pointer (some ⟨w2.heap.size, 0, none⟩)), .leaf p, 0, [.iface 89 (.pointer (some ⟨w2.heap.size, 0, none⟩))]⟩ HS3 HRep rfl (fun t b e => by cases e; exact ⟨⟨hnx, _, _, heap_alloc_new _ _⟩, hnw⟩) (by simp; omega) hl hln
        have HBel3 : Hid (Below B w (w2.alloc (.cells #[.slice ta p.t.length tcap, .int .i64 wd] 93))) := (HBel.out.grown g2 (by simpa using hB) (fun k e => by cases e)).alloc (by omega) _
        clear HS HV HS3 HRep hg3 g2 hC hW hnw hnx
        go_wp2_with fail
        refine hput.mono ?_
        rintro e w4 ⟨rfl, nv', rv', hS4, bel4⟩
        go_wp2
        go_ret
        refine ⟨HBel3.out.trans bel4.bel, ?_⟩
        rw [HF.out]
        refine ⟨rfl, nv', rv', rs ++ [⟨.iface 89 (.pointer (some ⟨w2.heap.size, 0, none⟩)), .leaf p, 0, [.iface 89 (.pointer (some ⟨w2.heap.size, 0, none⟩))]⟩], stOf_snoc _ _, ?_, ?_⟩
        · rw [lsOf_app, lsOf_one]; exact hS4
        · rw [lsOf_app, lsOf_one]; simp

end Go.Proofs.YtbiiopiaglkicaaDoor
