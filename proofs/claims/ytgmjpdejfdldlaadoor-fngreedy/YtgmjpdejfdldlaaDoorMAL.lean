import Derived.Test.YtgmjpdejfdldlaaDoorMAK
namespace Go.Proofs.YtgmjpdejfdldlaaDoor
open Go.RowKit

/-- The stack of the trees that are ready, the newest first. -/
def stOf (rs : List Mk) : List (Tr × Int) := (rs.map fun x => (x.T, x.n)).reverse
theorem stOf_snoc (rs : List Mk) (x : Mk) : stOf (rs ++ [x]) = (x.T, x.n) :: stOf rs := by simp [stOf]
theorem stOf_len (rs : List Mk) : (stOf rs).length = rs.length := by simp [stOf]

/-- What 'take' leaves; k: how many nodes there are then. -/
def TakeSays (B : Nat) (w : World) (bb k : Nat) (o : Option (Int × List (Tr × Int))) (e : Ending) (w' : World) : Prop :=
  Below B w w' ∧ match o with
    | none => e = .returned (.bool false)
    | some (r, st) => e = .returned (.bool true) ∧ ∃ nv rv rs, stOf rs = st ∧ Bst B w' bb nv rv rs (lsOf rs) r ∧ (lsOf rs).length = k

theorem take_none (t : List Int) (k : Nat) (hk : k < t.length) (h : 10 ∉ t.take k) (hp : ¬ t[k]?.getD 0 = 10) : 10 ∉ t.take (k + 1) := by
  rw [take_snoc t k hk]
  simp only [List.mem_append, List.mem_cons, List.not_mem_nil, or_false, not_or]
  exact ⟨h, fun e => hp e.symm⟩

set_option maxHeartbeats 400000 in
set_option maxRecDepth 100000 in
theorem slicesIndex_any (v : Value) (t : List Int) (w : World) (hv : RdB w.heap.size w v t) (hn : t.length ≤ 1048576) :
    Calls Tryd.prog 80 #[v, .int .u8 10] w fun e w' => (∃ i : Int, e = .returned (.int .i64 i) ∧ decide (0 ≤ i) = t.contains 10) ∧ w = w' := by
  obtain ⟨a, cap, rfl, hr⟩ := hv
  go_enter Tryd.func80, Tryd.ntmps80
  go_wp2
  go_loopw [8] (fun i wr => ∃ k : Nat, k ≤ t.length ∧ i = .int .i64 k ∧ Hid (10 ∉ t.take k) ∧ Hid (wr = w)) (fun i _ => t.length - (intOf i).toNat)
  case atStart => exact ⟨0, Nat.zero_le _, rfl, by unfold Hid; simp, rfl⟩
  case round =>
    obtain ⟨k, hk, rfl, H10, HW⟩ := hrel
    have hwr := HW.out
    clear HW
    subst hwr
    by_cases hlt : k < t.length
    · obtain ⟨b, off, rfl, hb, hc⟩ := hr (fun e => by rw [e] at hlt; simp at hlt)
      have hx := hc k hlt
      clear hc hr
      by_cases h10 : t[k]?.getD 0 = 10
      · have HC : Hid (t.contains 10 = true) := by
          unfold Hid; rw [List.contains_iff_mem, ← h10]; simp [hlt]
        have e10 : ((10 : Int) == 10) = true := rfl
        rw [h10] at hx
        clear h10
        go_wp2
        go_ret
        exact ⟨⟨k, rfl, by rw [HC.out]; simp⟩, rfl⟩
      · have HT : Hid (10 ∉ t.take (k + 1)) := take_none t k hlt H10.out h10
        have e10 : ((10 : Int) == (t[k]?.getD 0)) = false := by simp; exact fun e => h10 e.symm
        generalize t[k]?.getD 0 = z at hx e10
        clear h10
        go_wp2
        go_roundw
        case rel => exact ⟨k + 1, by omega, by go_num, HT, by first | rfl | trivial⟩
        case measure => simp [intOf]; omega
    · have hkn : k = t.length := by omega
      have HC : Hid (t.contains 10 = false) := by
        have := H10.out
        rw [hkn, List.take_length] at this
        unfold Hid
        simpa using this
      clear hr
      go_wp2
      go_ret
      exact ⟨⟨-1, rfl, by rw [HC.out]; rfl⟩, rfl⟩

set_option maxHeartbeats 400000 in
theorem slicesContains_any (v : Value) (t : List Int) (w : World) (hv : RdB w.heap.size w v t) (hn : t.length ≤ 1048576) :
    Calls Tryd.prog 75 #[v, .int .u8 10] w fun e w' => e = .returned (.bool (t.contains 10)) ∧ w = w' := by
  have hI := slicesIndex_any v t w hv hn
  obtain ⟨a, cap, rfl, hr⟩ := hv
  clear hr
  go_enter Tryd.func75, Tryd.ntmps75
  go_wp2_with fail
  refine hI.mono ?_
  rintro e w1 ⟨⟨i, rfl, hi⟩, rfl⟩
  have HI : Hid (decide (0 ≤ i) = t.contains 10) := hi
  clear hi
  go_wp2
  go_ret
  exact ⟨by rw [← HI.out]; rfl, rfl⟩

theorem Bst.setRoom {B : Nat} {w : World} {bb : Nat} {nv rv : Value} {rs : List Mk} {ns : List Value} {room : Int} (h : Bst B w bb nv rv rs ns room) (r : Int) : Bst B (w.setCell ⟨bb, 2, none⟩ (.int .i64 r)) bb nv rv rs ns r := by
  have bel : Below B w (w.setCell ⟨bb, 2, none⟩ (.int .i64 r)) := (Below.refl B w).setCell h.big _
  have c0 := h.c0
  have c1 := h.c1
  have c2 := h.c2
  have hbk : ∀ b, b < w.heap.size → ¬ Xof bb nv rv b → (w.setCell ⟨bb, 2, none⟩ (.int .i64 r)).heap[b]? = w.heap[b]? := by
    intro b hb hnx
    exact heap_setCell_other _ _ _ _ (fun e => hnx (.inl (by simpa using e)))
  refine ⟨h.big, by simp [go_sem, c0], by simpa using h.f0, by simp [go_sem, c1], by simpa using h.f1, by simp [go_sem, c2], by simpa using h.f2, row_set h.nrow _ _ h.nap, row_set h.row _ _ h.ap, h.ap, h.nap, h.nr, h.once.turn hbk (fun _ _ h => h), fun x hx => (h.rep x hx).turn bel.size hbk (fun _ _ h => h) (fun tv t hr => Rd.below hr bel), fun x hx => (h.post x hx).turn hbk (h.rep x hx)⟩

def textStep (room : Int) (st : List (Tr × Int)) (p : Pc) : Option (Int × List (Tr × Int)) :=
  if room < p.t.length then none else if widthR p.t < 0 ∨ p.t.contains 10 = true then none else some (room - p.t.length, (.leaf p, 0) :: st)

set_option maxHeartbeats 2000000 in
set_option maxRecDepth 100000 in
theorem takeText_any (B : Nat) (w : World) (bb : Nat) (nv rv : Value) (rs : List Mk) (room : Int) (p : Pc) (tv : Value) (hS : Bst B w bb nv rv rs (lsOf rs) room) (hk : p.k = 1) (hv : RdB B w tv p.t) (hsl : Sl tv p.t.length) (hby : Bys p.t) (hn : p.t.length ≤ 1048576)
    (hr0 : 0 ≤ room) (hr1 : room ≤ 100000) (hB : B ≤ w.heap.size) (hB0 : 0 < B) (hT : Tab w) (hl : rs.length ≤ 1048576) (hln : (lsOf rs).length ≤ 1048576) :
    Calls Tryd.prog 61 #[.pointer (some ⟨bb, 0, none⟩), tv] w fun e w' => TakeSays B w bb ((lsOf rs).length + 1) (textStep room (stOf rs) p) e w' := by
  have c2 := hS.c2
  have f2 := hS.f2
  obtain ⟨ta, tcap, htv, htl, htm⟩ := id hsl
  by_cases hroom : room < p.t.length
  · have HF : Hid (textStep room (stOf rs) p = none) := by unfold Hid textStep; rw [if_pos hroom]
    subst htv
    clear hS hv hT
    go_enter Tryd.func61, Tryd.ntmps61
    go_wp2
    go_ret
    exact ⟨Below.refl _ _, by rw [HF.out]; rfl⟩
  · have bel : Below B w (w.setCell ⟨bb, 2, none⟩ (.int .i64 (room - p.t.length))) := (Below.refl B w).setCell hS.big _
    have HS : Hid (Bst B (w.setCell ⟨bb, 2, none⟩ (.int .i64 (room - p.t.length))) bb nv rv rs (lsOf rs) (room - p.t.length)) := hS.setRoom _
    have HBel : Hid (Below B w (w.setCell ⟨bb, 2, none⟩ (.int .i64 (room - p.t.length)))) := bel
    have HV : Hid (RdB B (w.setCell ⟨bb, 2, none⟩ (.int .i64 (room - p.t.length))) tv p.t) := Rd.below hv bel
    have hW := implTextWidth_any tv p.t (w.setCell ⟨bb, 2, none⟩ (.int .i64 (room - p.t.length))) (HV.out.wide (by simpa using hB)) hby hn hsl (hT.below bel hB0)
    have hsz : (w.setCell ⟨bb, 2, none⟩ (.int .i64 (room - p.t.length))).heap.size = w.heap.size := by simp
    have HSz : Hid ((w.setCell ⟨bb, 2, none⟩ (.int .i64 (room - p.t.length))).heap.size = w.heap.size) := hsz
    have HSl : Hid (Sl tv p.t.length) := hsl
    have hwl := decR_len p.t
    clear hS hv hT bel hsl hsz
    by_cases hwd : widthR p.t < 0
    · have HF : Hid (textStep room (stOf rs) p = none) := by unfold Hid textStep; rw [if_neg hroom, if_pos (.inl hwd)]
      generalize widthR p.t = wd at *
      subst htv
      clear HS HV hwl
      go_enter Tryd.func61, Tryd.ntmps61
      go_wp2_with fail
      refine hW.mono ?_
      rintro e w2 ⟨rfl, g2⟩
      go_wp2
      go_ret
      exact ⟨HBel.out.grown g2 (by simpa using hB) (fun k e => by cases e), by rw [HF.out]; rfl⟩
    · cases hct : p.t.contains 10 with
      | true =>
        have HF : Hid (textStep room (stOf rs) p = none) := by unfold Hid textStep; rw [if_neg hroom, if_pos (.inr hct)]
        generalize widthR p.t = wd at *
        subst htv
        clear HS hwl
        go_enter Tryd.func61, Tryd.ntmps61
        go_wp2_with fail
        refine hW.mono ?_
        rintro e w2 ⟨rfl, g2⟩
        have hC := slicesContains_any _ p.t w2 ((HV.out.keep g2).wide (by have := g2.size; rw [HSz.out] at this; omega)) hn
        rw [hct] at hC
        clear hct HV
        go_wp2_with fail
        refine hC.mono ?_
        rintro e w3 ⟨rfl, rfl⟩
        go_wp2
        go_ret
        exact ⟨HBel.out.grown g2 (by simpa using hB) (fun k e => by cases e), by rw [HF.out]; rfl⟩
      | false =>
        have HF : Hid (textStep room (stOf rs) p = some (room - p.t.length, (.leaf p, 0) :: stOf rs)) := by
          unfold Hid textStep; rw [if_neg hroom, if_neg (by rw [hct]; simp; omega)]
        have HWd : Hid (∀ wd, widthR p.t = wd → True) := fun _ _ => trivial
        obtain ⟨wd, hwd2⟩ : ∃ wd, wd = widthR p.t := ⟨_, rfl⟩
        have HW2 : Hid (wd = widthR p.t) := hwd2
        rw [← hwd2] at hW hwd
        clear hwd2 hwl HWd
        subst htv
        go_enter Tryd.func61, Tryd.ntmps61
        go_wp2_with fail
        refine hW.mono ?_
        rintro e w2 ⟨rfl, g2⟩
        have hg2 := g2.size
        rw [HSz.out] at hg2
        have hC := slicesContains_any _ p.t w2 ((HV.out.keep g2).wide (by omega)) hn
        rw [hct] at hC
        clear hct
        go_wp2_with fail
        refine hC.mono ?_
        rintro e w3 ⟨rfl, rfl⟩
        have hg3 : w2.grownBy (w2.alloc (.cells #[.slice ta p.t.length tcap, .int .i64 wd] 79)) none := World.grownBy_alloc _ _ _
        have HS3 := (HS.out.keep g2).keep hg3
        have hbb := (HS.out.keep g2).lt
        have hrl := World.ownsRow.lt (HS.out.keep g2).row
        have hnl := World.ownsRow.lt (HS.out.keep g2).nrow
        have hnx : ¬ Xof bb nv rv w2.heap.size := by
          intro hx
          rcases hx with h | h | h
          · omega
          · have := hnl _ h; omega
          · have := hrl _ h; omega
        have HRep : Rep (Xof bb nv rv) B (w2.alloc (.cells #[.slice ta p.t.length tcap, .int .i64 wd] 79)) (.iface 75 (.pointer (some ⟨w2.heap.size, 0, none⟩))) (.leaf p) := by
          simp only [Rep]
          exact .inr (.inr (.inr (.inr (.inr ⟨hk, w2.heap.size, .slice ta p.t.length tcap, rfl, hnx, by simp, by rw [← HW2.out]; exact heap_alloc_new _ _, (HV.out.keep g2).keep hg3, HSl.out⟩))))
        have hnw := (HS.out.keep g2).once.new 75 w2.heap.size (Nat.le_refl _)
        have hput := put_any B _ bb nv rv rs (lsOf rs) (room - p.t.length) ⟨.iface 75 (.pointer (some ⟨w2.heap.size, 0, none⟩)), .leaf p, 0, [.iface 75 (.pointer (some ⟨w2.heap.size, 0, none⟩))]⟩ HS3 HRep rfl (fun t b e => by cases e; exact ⟨⟨hnx, _, _, heap_alloc_new _ _⟩, hnw⟩) (by simp; omega) hl hln
        have HBel3 : Hid (Below B w (w2.alloc (.cells #[.slice ta p.t.length tcap, .int .i64 wd] 79))) := (HBel.out.grown g2 (by simpa using hB) (fun k e => by cases e)).alloc (by omega) _
        clear HS HV HS3 HRep hg3 g2 hC hW hnw hnx
        go_wp2_with fail
        refine hput.mono ?_
        rintro e w4 ⟨rfl, nv', rv', hS4, bel4⟩
        go_wp2
        go_ret
        refine ⟨HBel3.out.trans bel4.bel, ?_⟩
        rw [HF.out]
        refine ⟨rfl, nv', rv', rs ++ [⟨.iface 75 (.pointer (some ⟨w2.heap.size, 0, none⟩)), .leaf p, 0, [.iface 75 (.pointer (some ⟨w2.heap.size, 0, none⟩))]⟩], stOf_snoc _ _, ?_, ?_⟩
        · rw [lsOf_app, lsOf_one]; exact hS4
        · rw [lsOf_app, lsOf_one]; simp

end Go.Proofs.YtgmjpdejfdldlaaDoor

namespace Go.Proofs.YtgmjpdejfdldlaaDoor
open Go.RowKit

def pairStep (room : Int) (st : List (Tr × Int)) (p : Pc) : Option (Int × List (Tr × Int)) :=
  match st with | (y, ny) :: (x, nx) :: r => some (room, (.bin p x y, max nx ny) :: r) | _ => none
def aroundStep (room : Int) (st : List (Tr × Int)) (p : Pc) : Option (Int × List (Tr × Int)) :=
  match st with | (x, nx) :: r => if p.n < 0 ∨ 4000 - nx < p.n then none else some (room, (.un p x, nx + p.n) :: r) | _ => none

theorem snoc2 (rs : List Mk) (h : ¬ rs.length < 2) : ∃ (r : List Mk) (x y : Mk), rs = r ++ [x] ++ [y] := by
  obtain ⟨r1, y, h1⟩ : ∃ r1 y, rs = r1 ++ [y] := ⟨rs.dropLast, rs.getLast (by intro e; rw [e] at h; simp at h), (List.dropLast_concat_getLast _).symm⟩
  have h2 : r1 ≠ [] := by intro e; rw [h1, e] at h; simp at h
  obtain ⟨r, x, h3⟩ : ∃ r x, r1 = r ++ [x] := ⟨r1.dropLast, r1.getLast h2, (List.dropLast_concat_getLast _).symm⟩
  exact ⟨r, x, y, by rw [h1, h3]⟩
theorem snoc1 (rs : List Mk) (h : ¬ rs.length < 1) : ∃ (r : List Mk) (x : Mk), rs = r ++ [x] :=
  ⟨rs.dropLast, rs.getLast (by intro e; rw [e] at h; simp at h), (List.dropLast_concat_getLast _).symm⟩

theorem new_out {B : Nat} {w : World} {bb : Nat} {nv rv : Value} {rs : List Mk} {ns : List Value} {room : Int} (h : Bst B w bb nv rv rs ns room) (b : Nat) (hb : w.heap.size ≤ b) : ¬ Xof bb nv rv b := by
  intro hx
  rcases hx with e | e | e
  · have := h.lt; omega
  · have := World.ownsRow.lt h.nrow _ e; omega
  · have := World.ownsRow.lt h.row _ e; omega

theorem rep_bin {B : Nat} {X : Nat → Prop} {w : World} {p : Pc} {xv yv : Value} {x y : Tr} (hx : Rep X B w xv x) (hy : Rep X B w yv y) (hn : ¬ X w.heap.size) (tid t : TypeId) (hk : (p.k = 6 ∧ tid = 138) ∨ (p.k = 9 ∧ tid = 142)) :
    Rep X B (w.alloc (.cells #[xv, yv] t)) (.iface tid (.pointer (some ⟨w.heap.size, 0, none⟩))) (.bin p x y) := by
  have hg : w.grownBy (w.alloc (.cells #[xv, yv] t)) none := World.grownBy_alloc _ _ _
  simp only [Rep]
  refine ⟨w.heap.size, xv, yv, hn, by simp, by simp [go_sem], by simp [go_sem], hx.keep hg, hy.keep hg, ?_⟩
  rcases hk with ⟨h1, h2⟩ | ⟨h1, h2⟩
  · exact .inl ⟨h1, by rw [h2]⟩
  · exact .inr ⟨h1, by rw [h2]⟩
theorem rep_un1 {B : Nat} {X : Nat → Prop} {w : World} {p : Pc} {xv : Value} {x : Tr} (hx : Rep X B w xv x) (hn : ¬ X w.heap.size) (t : TypeId) (hk : p.k = 8) :
    Rep X B (w.alloc (.cells #[xv] t)) (.iface 135 (.pointer (some ⟨w.heap.size, 0, none⟩))) (.un p x) := by
  have hg : w.grownBy (w.alloc (.cells #[xv] t)) none := World.grownBy_alloc _ _ _
  simp only [Rep]
  exact ⟨w.heap.size, xv, hn, by simp, by simp [go_sem], hx.keep hg, .inl ⟨hk, rfl⟩⟩
theorem rep_un2 {B : Nat} {X : Nat → Prop} {w : World} {p : Pc} {xv nv : Value} {x : Tr} (hx : Rep X B w xv x) (hn : ¬ X w.heap.size) (t : TypeId) (hk : p.k = 7) :
    Rep X B (w.alloc (.cells #[xv, nv] t)) (.iface 130 (.pointer (some ⟨w.heap.size, 0, none⟩))) (.un p x) := by
  have hg : w.grownBy (w.alloc (.cells #[xv, nv] t)) none := World.grownBy_alloc _ _ _
  simp only [Rep]
  exact ⟨w.heap.size, xv, hn, by simp, by simp [go_sem], hx.keep hg, .inr ⟨hk, rfl⟩⟩

theorem post_bin {X : Nat → Prop} {B : Nat} {w : World} {p : Pc} {xv yv : Value} {x y : Tr} {l1 l2 : List Value} (rx : Rep X B w xv x) (ry : Rep X B w yv y) (hx : Post w xv x l1) (hy : Post w yv y l2) (tid t : TypeId) :
    Post (w.alloc (.cells #[xv, yv] t)) (.iface tid (.pointer (some ⟨w.heap.size, 0, none⟩))) (.bin p x y) (l1 ++ l2 ++ [.iface tid (.pointer (some ⟨w.heap.size, 0, none⟩))]) := by
  have hg : w.grownBy (w.alloc (.cells #[xv, yv] t)) none := World.grownBy_alloc _ _ _
  simp only [Post]
  exact ⟨tid, w.heap.size, xv, yv, l1, l2, rfl, by simp [go_sem], by simp [go_sem], hx.keep rx hg, hy.keep ry hg, rfl⟩
theorem post_un1 {X : Nat → Prop} {B : Nat} {w : World} {p : Pc} {xv : Value} {x : Tr} {l1 : List Value} (rx : Rep X B w xv x) (hx : Post w xv x l1) (tid t : TypeId) (hk : p.k ≠ 7) :
    Post (w.alloc (.cells #[xv] t)) (.iface tid (.pointer (some ⟨w.heap.size, 0, none⟩))) (.un p x) (l1 ++ [.iface tid (.pointer (some ⟨w.heap.size, 0, none⟩))]) := by
  have hg : w.grownBy (w.alloc (.cells #[xv] t)) none := World.grownBy_alloc _ _ _
  simp only [Post]
  exact ⟨tid, w.heap.size, xv, l1, rfl, by simp [go_sem], fun e => absurd e hk, hx.keep rx hg, rfl⟩
theorem post_un2 {X : Nat → Prop} {B : Nat} {w : World} {p : Pc} {xv : Value} {x : Tr} {l1 : List Value} (rx : Rep X B w xv x) (hx : Post w xv x l1) (tid t : TypeId) :
    Post (w.alloc (.cells #[xv, .int .i64 p.n] t)) (.iface tid (.pointer (some ⟨w.heap.size, 0, none⟩))) (.un p x) (l1 ++ [.iface tid (.pointer (some ⟨w.heap.size, 0, none⟩))]) := by
  have hg : w.grownBy (w.alloc (.cells #[xv, .int .i64 p.n] t)) none := World.grownBy_alloc _ _ _
  simp only [Post]
  exact ⟨tid, w.heap.size, xv, l1, rfl, by simp [go_sem], fun _ => by simp [go_sem], hx.keep rx hg, rfl⟩

set_option maxHeartbeats 2000000 in
set_option maxRecDepth 100000 in
theorem takePair_any (B : Nat) (w : World) (bb : Nat) (nv rv : Value) (rs : List Mk) (room : Int) (p : Pc) (hS : Bst B w bb nv rv rs (lsOf rs) room) (hk : p.k = 6 ∨ p.k = 9) (hB : B ≤ w.heap.size) (hl : rs.length ≤ 1048576) (hln : (lsOf rs).length ≤ 1048576) :
    Calls Tryd.prog 62 #[.pointer (some ⟨bb, 0, none⟩), .int .i64 p.k] w fun e w' => TakeSays B w bb ((lsOf rs).length + 1) (pairStep room (stOf rs) p) e w' := by
  have c1 := hS.c1
  obtain ⟨ra, rcap, hrv, hrc, hrm⟩ := row_form hS.row
  by_cases h2 : rs.length < 2
  · have HF : Hid (pairStep room (stOf rs) p = none) := by
      have := stOf_len rs
      unfold Hid pairStep
      rcases hst : stOf rs with _ | ⟨y, _ | ⟨x, r⟩⟩
      · rfl
      · rfl
      · rw [hst] at this; simp at this; omega
    subst hrv
    clear hS hrm
    go_enter Tryd.func62, Tryd.ntmps62
    go_wp2
    go_ret
    exact ⟨Below.refl _ _, by rw [HF.out]; rfl⟩
  · obtain ⟨r, X, Y, hrs⟩ := snoc2 rs h2
    have hrl : r.length ≤ 1048576 := by rw [hrs] at hl; simp at hl; omega
    have HF : Hid (pairStep room (stOf rs) p = some (room, (.bin p X.T Y.T, max X.n Y.n) :: stOf r)) := by
      unfold Hid; rw [hrs, stOf_snoc, stOf_snoc]; rfl
    have hlr : Hid (lsOf rs = lsOf r ++ X.l ++ Y.l) := by unfold Hid; rw [hrs, lsOf_app, lsOf_app, lsOf_one, lsOf_one]
    have hS' : Bst B w bb nv rv (r ++ [X] ++ [Y]) (lsOf rs) room := by have := hS; rw [hrs] at this ⊢; exact this
    have hY := hS'.rep Y (by simp)
    have hX := hS'.rep X (by simp)
    obtain ⟨ty, uy, hyv⟩ := hY.form
    obtain ⟨tx, ux, hxv⟩ := hX.form
    have hpop := pop_any B w bb nv rv (r ++ [X]) (lsOf rs) room Y hS' hB (by simp; rw [hrs] at hl; simp at hl; omega)
    have HS : Hid (Bst B w bb nv rv (r ++ [X] ++ [Y]) (lsOf rs) room) := hS'
    have HX : Hid (Rep (Xof bb nv rv) B w X.v X.T) := hX
    have HY : Hid (Rep (Xof bb nv rv) B w Y.v Y.T) := hY
    have PX : Hid (Post w X.v X.T X.l) := hS'.post X (by simp)
    have PY : Hid (Post w Y.v Y.T Y.l) := hS'.post Y (by simp)
    rw [hyv] at hpop
    have HRV := hrv
    subst hrv
    clear hS hS' hX hY hrs
    go_enter Tryd.func62, Tryd.ntmps62
    go_wp2_with fail
    refine hpop.mono ?_
    rintro e w1 ⟨rfl, rv1, hS1, fr1⟩
    have hB1 := fr1.bel.size
    have gb1 : w1.grownBy (w1.alloc (.cells #[.iface ty uy, .int .i64 Y.n] 155)) none := World.grownBy_alloc _ _ _
    have HS1 : Hid (Bst B (w1.alloc (.cells #[.iface ty uy, .int .i64 Y.n] 155)) bb nv rv1 (r ++ [X]) (lsOf rs) room) := hS1.keep gb1
    have HFr1 : Hid (Fr B bb nv _ nv rv1 w (w1.alloc (.cells #[.iface ty uy, .int .i64 Y.n] 155))) := fr1.grown gb1 hB
    have hpop2 := pop_any B _ bb nv rv1 r (lsOf rs) room X HS1.out (by simp; omega) hrl
    have hnx1 := new_out hS1 w1.heap.size (Nat.le_refl _)
    rw [hxv] at hpop2
    clear hpop hS1 fr1 gb1
    go_wp2_with fail
    refine hpop2.mono ?_
    rintro e w2 ⟨rfl, rv2, hS2, fr2⟩
    have hB2 := fr2.bel.size
    simp only [World.size_alloc] at hB2
    have y0 := fr2.cell (a := ⟨w1.heap.size, 0, none⟩) (v := .iface ty uy) (by simp [go_sem]) hnx1
    have y1 := fr2.cell (a := ⟨w1.heap.size, 1, none⟩) (v := .int .i64 Y.n) (by simp [go_sem]) hnx1
    have gb2 : w2.grownBy (w2.alloc (.cells #[.iface tx ux, .int .i64 X.n] 155)) none := World.grownBy_alloc _ _ _
    have HFr2 : Hid (Fr B bb nv rv1 nv rv2 _ (w2.alloc (.cells #[.iface tx ux, .int .i64 X.n] 155))) := fr2.grown gb2 (by simp; omega)
    have HS2 : Hid (Bst B (w2.alloc (.cells #[.iface tx ux, .int .i64 X.n] 155)) bb nv rv2 r (lsOf rs) room) := hS2.keep gb2
    have hmax : max X.n Y.n = if X.n < Y.n then Y.n else X.n := by omega
    have z0 := gb2.cell y0 (by simp)
    have z1 := gb2.cell y1 (by simp)
    have hw12 : w1.heap.size ≠ w2.heap.size := by omega
    clear hpop2 hS2 fr2 gb2 HS1 y0 y1
    have hnx2 := new_out HS2.out (w2.heap.size + 1) (by simp)
    have HXr := HFr2.out.rep (HFr1.out.rep HX.out)
    have HYr := HFr2.out.rep (HFr1.out.rep HY.out)
    have PXr := HFr2.out.post (HFr1.out.rep HX.out) (HFr1.out.post HX.out PX.out)
    have PYr := HFr2.out.post (HFr1.out.rep HY.out) (HFr1.out.post HY.out PY.out)
    have HFr : Hid (Fr B bb nv (Value.slice ra rs.length rcap) nv rv2 w (w2.alloc (.cells #[.iface tx ux, .int .i64 X.n] 155))) := HFr1.out.trans HFr2.out
    have hB3 : B ≤ w2.heap.size + 1 := by omega
    rw [hxv] at HXr PXr
    rw [hyv] at HYr PYr
    have FIN : Hid (∀ (tid t : TypeId) (N : Int), ((p.k = 6 ∧ tid = 138) ∨ (p.k = 9 ∧ tid = 142)) → max X.n Y.n = N →
        Calls Tryd.prog 60 #[.pointer (some ⟨bb, 0, none⟩), .iface tid (.pointer (some ⟨w2.heap.size + 1, 0, none⟩)), .int .i64 N] ((w2.alloc (.cells #[.iface tx ux, .int .i64 X.n] 155)).alloc (.cells #[.iface tx ux, .iface ty uy] t))
          fun e w' => e = .returned (.tuple #[]) ∧ Below B w w' ∧ ∃ nv rv rs', stOf rs' = (.bin p X.T Y.T, max X.n Y.n) :: stOf r ∧ Bst B w' bb nv rv rs' (lsOf rs') room ∧ (lsOf rs').length = (lsOf rs).length + 1) := by
      intro tid t N hk hN
      have hnx3 : ¬ Xof bb nv rv2 (w2.alloc (.cells #[.iface tx ux, .int .i64 X.n] 155)).heap.size := by simpa using hnx2
      have hrep := rep_bin HXr HYr hnx3 tid t hk
      have gA : (w2.alloc (.cells #[.iface tx ux, .int .i64 X.n] 155)).grownBy ((w2.alloc (.cells #[.iface tx ux, .int .i64 X.n] 155)).alloc (.cells #[.iface tx ux, .iface ty uy] t)) none := World.grownBy_alloc _ _ _
      have hpost := post_bin (p := p) HXr HYr PXr PYr tid t
      have hnw := HS2.out.once.new tid (w2.alloc (.cells #[.iface tx ux, .int .i64 X.n] 155)).heap.size (Nat.le_refl _)
      have := put_any B _ bb nv rv2 r (lsOf rs) room ⟨_, .bin p X.T Y.T, N, _⟩ (HS2.out.keep gA) hrep hpost (fun t b e => by cases e; exact ⟨⟨hnx3, _, _, heap_alloc_new _ _⟩, hnw⟩) (by simp; omega) hrl hln
      simp only [World.size_alloc] at this
      refine this.mono ?_
      rintro e w' ⟨rfl, nv', rv', hS', fr'⟩
      have hls : lsOf (r ++ [(⟨.iface tid (.pointer (some ⟨w2.heap.size + 1, 0, none⟩)), .bin p X.T Y.T, N, X.l ++ Y.l ++ [.iface tid (.pointer (some ⟨w2.heap.size + 1, 0, none⟩))]⟩ : Mk)]) = lsOf rs ++ [.iface tid (.pointer (some ⟨w2.heap.size + 1, 0, none⟩))] := by
        rw [lsOf_app, lsOf_one, hlr.out]; simp
      exact ⟨rfl, (HFr.out.grown gA hB).bel.trans fr'.bel, nv', rv', r ++ [(⟨.iface tid (.pointer (some ⟨w2.heap.size + 1, 0, none⟩)), .bin p X.T Y.T, N, X.l ++ Y.l ++ [.iface tid (.pointer (some ⟨w2.heap.size + 1, 0, none⟩))]⟩ : Mk)], by rw [stOf_snoc, hN], by rw [hls]; exact hS', by rw [hls]; simp⟩
    clear HXr HYr PXr PYr HS2 HFr1 HFr2 HX HY PX PY hnx1 hnx2
    rcases hk with hk6 | hk9
    · have e9 : (p.k == 9) = false := by rw [hk6]; rfl
      have HK : Hid (p.k = 6) := hk6
      clear hk6
      go_wp2_with fail
      all_goals
        refine (FIN.out _ _ _ (.inl ⟨HK.out, rfl⟩) (by omega)).mono ?_
        rintro e w4 ⟨rfl, bel4, h4⟩
        go_wp2
        go_ret
        refine ⟨bel4, ?_⟩
        rw [HF.out]
        exact ⟨rfl, h4⟩
    · have e9 : (p.k == 9) = true := by rw [hk9]; rfl
      have HK : Hid (p.k = 9) := hk9
      clear hk9
      go_wp2_with fail
      all_goals
        refine (FIN.out _ _ _ (.inr ⟨HK.out, rfl⟩) (by omega)).mono ?_
        rintro e w4 ⟨rfl, bel4, h4⟩
        go_wp2
        go_ret
        refine ⟨bel4, ?_⟩
        rw [HF.out]
        exact ⟨rfl, h4⟩

end Go.Proofs.YtgmjpdejfdldlaaDoor

namespace Go.Proofs.YtgmjpdejfdldlaaDoor
open Go.RowKit

set_option maxHeartbeats 2000000 in
set_option maxRecDepth 100000 in
theorem takeAround_any (B : Nat) (w : World) (bb : Nat) (nv rv : Value) (rs : List Mk) (room : Int) (p : Pc) (hS : Bst B w bb nv rv rs (lsOf rs) room) (hk : (p.k = 8 ∧ p.n = 0) ∨ p.k = 7) (hB : B ≤ w.heap.size) (hl : rs.length ≤ 1048576) (hln : (lsOf rs).length ≤ 1048576) (hg : ∀ x ∈ rs, 0 ≤ x.n ∧ x.n ≤ 4000) :
    Calls Tryd.prog 63 #[.pointer (some ⟨bb, 0, none⟩), .int .i64 p.k, .int .i64 p.n] w fun e w' => TakeSays B w bb ((lsOf rs).length + 1) (aroundStep room (stOf rs) p) e w' := by
  have c1 := hS.c1
  obtain ⟨ra, rcap, hrv, hrc, hrm⟩ := row_form hS.row
  by_cases h2 : rs.length < 1
  · have HF : Hid (aroundStep room (stOf rs) p = none) := by
      have := stOf_len rs
      unfold Hid aroundStep
      rcases hst : stOf rs with _ | ⟨y, r⟩
      · rfl
      · rw [hst] at this; simp at this; omega
    subst hrv
    clear hS hrm
    go_enter Tryd.func63, Tryd.ntmps63
    go_wp2
    go_ret
    exact ⟨Below.refl _ _, by rw [HF.out]; rfl⟩
  · obtain ⟨r, X, hrs⟩ := snoc1 rs h2
    have hrl : r.length ≤ 1048576 := by rw [hrs] at hl; simp at hl; omega
    obtain ⟨hX0, hX1⟩ := hg X (by rw [hrs]; simp)
    have HF : Hid (aroundStep room (stOf rs) p = if p.n < 0 ∨ 4000 - X.n < p.n then none else some (room, (.un p X.T, X.n + p.n) :: stOf r)) := by
      unfold Hid; rw [hrs, stOf_snoc]; rfl
    have hlr : Hid (lsOf rs = lsOf r ++ X.l) := by unfold Hid; rw [hrs, lsOf_app, lsOf_one]
    have hS' : Bst B w bb nv rv (r ++ [X]) (lsOf rs) room := by have := hS; rw [hrs] at this ⊢; exact this
    have hX := hS'.rep X (by simp)
    obtain ⟨tx, ux, hxv⟩ := hX.form
    have hpop := pop_any B w bb nv rv r (lsOf rs) room X hS' hB hrl
    have HX : Hid (Rep (Xof bb nv rv) B w X.v X.T) := hX
    have PX : Hid (Post w X.v X.T X.l) := hS'.post X (by simp)
    rw [hxv] at hpop
    subst hrv
    clear hS hS' hX hrs hg
    by_cases hbad : p.n < 0 ∨ 4000 - X.n < p.n
    · have HF2 : Hid (aroundStep room (stOf rs) p = none) := by unfold Hid; rw [HF.out, if_pos hbad]
      clear HF
      by_cases hn0 : p.n < 0
      · clear hbad
        go_enter Tryd.func63, Tryd.ntmps63
        go_wp2_with fail
        refine hpop.mono ?_
        rintro e w1 ⟨rfl, rv1, hS1, fr1⟩
        have HB : Hid (Below B w (w1.alloc (.cells #[.iface tx ux, .int .i64 X.n] 155))) := (fr1.grown (World.grownBy_alloc _ _ _) hB).bel
        clear hS1 fr1
        go_wp2
        go_ret
        exact ⟨HB.out, by rw [HF2.out]; rfl⟩
      · have hn4 : 4000 - X.n < p.n := by omega
        clear hbad
        go_enter Tryd.func63, Tryd.ntmps63
        go_wp2_with fail
        refine hpop.mono ?_
        rintro e w1 ⟨rfl, rv1, hS1, fr1⟩
        have HB : Hid (Below B w (w1.alloc (.cells #[.iface tx ux, .int .i64 X.n] 155))) := (fr1.grown (World.grownBy_alloc _ _ _) hB).bel
        clear hS1 fr1
        go_wp2
        go_ret
        exact ⟨HB.out, by rw [HF2.out]; rfl⟩
    · have hn0 : ¬ p.n < 0 := by omega
      have hn4 : ¬ 4000 - X.n < p.n := by omega
      have HF2 : Hid (aroundStep room (stOf rs) p = some (room, (.un p X.T, X.n + p.n) :: stOf r)) := by unfold Hid; rw [HF.out, if_neg hbad]
      clear HF hbad
      have HK := hk
      clear hk
      go_enter Tryd.func63, Tryd.ntmps63
      go_wp2_with fail
      refine hpop.mono ?_
      rintro e w1 ⟨rfl, rv1, hS1, fr1⟩
      have hB1 := fr1.bel.size
      have HFr : Hid (Fr B bb nv (Value.slice ra rs.length rcap) nv rv1 w w1) := fr1
      have HS1 : Hid (Bst B w1 bb nv rv1 r (lsOf rs) room) := hS1
      have hnx1 : ∀ b, w1.heap.size ≤ b → ¬ Xof bb nv rv1 b := new_out hS1
      have HNX : Hid (∀ b, w1.heap.size ≤ b → ¬ Xof bb nv rv1 b) := hnx1
      have HXr := fr1.rep HX.out
      have PXr := fr1.post HX.out PX.out
      rw [hxv] at HXr PXr
      have PXR : Hid (Post w1 (.iface tx ux) X.T X.l) := PXr
      have HXR : Hid (Rep (Xof bb nv rv1) B w1 (.iface tx ux) X.T) := HXr
      have gA : Hid (w1.grownBy ((w1.alloc (.cells #[.iface tx ux, .int .i64 X.n] 155)).alloc (.cells #[.iface tx ux] 132)) none) := grown_trans (World.grownBy_alloc _ _ _) (World.grownBy_alloc _ _ _)
      clear hS1 fr1 hnx1 HXr hpop HX PX PXr
      rcases HK with ⟨hk8, hpn⟩ | hk7
      · have e8 : (p.k == 8) = true := by rw [hk8]; rfl
        have FIN : Calls Tryd.prog 60 #[.pointer (some ⟨bb, 0, none⟩), .iface 135 (.pointer (some ⟨w1.heap.size + 1 + 1, 0, none⟩)), .int .i64 X.n] (((w1.alloc (.cells #[.iface tx ux, .int .i64 X.n] 155)).alloc (.cells #[.iface tx ux] 132)).alloc (.cells #[.iface tx ux] 137))
          fun e w' => e = .returned (.tuple #[]) ∧ Below B w w' ∧ ∃ nv rv rs', stOf rs' = (.un p X.T, X.n + p.n) :: stOf r ∧ Bst B w' bb nv rv rs' (lsOf rs') room ∧ (lsOf rs').length = (lsOf rs).length + 1 := by
          have hrep := rep_un1 (t := 137) (p := p) (HXR.out.keep gA.out) (HNX.out _ (by simp; omega)) hk8
          have gB : ((w1.alloc (.cells #[.iface tx ux, .int .i64 X.n] 155)).alloc (.cells #[.iface tx ux] 132)).grownBy (((w1.alloc (.cells #[.iface tx ux, .int .i64 X.n] 155)).alloc (.cells #[.iface tx ux] 132)).alloc (.cells #[.iface tx ux] 137)) none := World.grownBy_alloc _ _ _
          have hpost := post_un1 (t := 137) (p := p) (HXR.out.keep gA.out) (PXR.out.keep HXR.out gA.out) 135 (by omega)
          have hnw := (HS1.out.keep gA.out).once.new 135 ((w1.alloc (.cells #[.iface tx ux, .int .i64 X.n] 155)).alloc (.cells #[.iface tx ux] 132)).heap.size (Nat.le_refl _)
          have := put_any B _ bb nv rv1 r (lsOf rs) room ⟨_, .un p X.T, X.n, _⟩ ((HS1.out.keep gA.out).keep gB) hrep hpost (fun t b e => by cases e; exact ⟨⟨HNX.out _ (by simp; omega), _, _, heap_alloc_new _ _⟩, hnw⟩) (by simp; omega) hrl hln
          simp only [World.size_alloc] at this
          refine this.mono ?_
          rintro e w' ⟨rfl, nv', rv', hS', fr'⟩
          have hls : lsOf (r ++ [(⟨.iface 135 (.pointer (some ⟨w1.heap.size + 1 + 1, 0, none⟩)), .un p X.T, X.n, X.l ++ [.iface 135 (.pointer (some ⟨w1.heap.size + 1 + 1, 0, none⟩))]⟩ : Mk)]) = lsOf rs ++ [.iface 135 (.pointer (some ⟨w1.heap.size + 1 + 1, 0, none⟩))] := by
            rw [lsOf_app, lsOf_one, hlr.out]; simp
          exact ⟨rfl, ((HFr.out.grown gA.out hB).grown gB hB).bel.trans fr'.bel, nv', rv', r ++ [(⟨.iface 135 (.pointer (some ⟨w1.heap.size + 1 + 1, 0, none⟩)), .un p X.T, X.n, X.l ++ [.iface 135 (.pointer (some ⟨w1.heap.size + 1 + 1, 0, none⟩))]⟩ : Mk)], by rw [stOf_snoc, hpn]; simp, by rw [hls]; exact hS', by rw [hls]; simp⟩
        clear hk8 HXR PXR HS1 HFr HNX hpn
        go_wp2_with fail
        refine FIN.mono ?_
        rintro e w4 ⟨rfl, bel4, h4⟩
        go_wp2
        go_ret
        refine ⟨bel4, ?_⟩
        rw [HF2.out]
        exact ⟨rfl, h4⟩
      · have e8 : (p.k == 8) = false := by rw [hk7]; rfl
        have FIN : Calls Tryd.prog 60 #[.pointer (some ⟨bb, 0, none⟩), .iface 130 (.pointer (some ⟨w1.heap.size + 1 + 1, 0, none⟩)), .int .i64 (X.n + p.n)] (((w1.alloc (.cells #[.iface tx ux, .int .i64 X.n] 155)).alloc (.cells #[.iface tx ux] 132)).alloc (.cells #[.iface tx ux, .int .i64 p.n] 134))
          fun e w' => e = .returned (.tuple #[]) ∧ Below B w w' ∧ ∃ nv rv rs', stOf rs' = (.un p X.T, X.n + p.n) :: stOf r ∧ Bst B w' bb nv rv rs' (lsOf rs') room ∧ (lsOf rs').length = (lsOf rs).length + 1 := by
          have hrep := rep_un2 (t := 134) (p := p) (nv := .int .i64 p.n) (HXR.out.keep gA.out) (HNX.out _ (by simp; omega)) hk7
          have gB : ((w1.alloc (.cells #[.iface tx ux, .int .i64 X.n] 155)).alloc (.cells #[.iface tx ux] 132)).grownBy (((w1.alloc (.cells #[.iface tx ux, .int .i64 X.n] 155)).alloc (.cells #[.iface tx ux] 132)).alloc (.cells #[.iface tx ux, .int .i64 p.n] 134)) none := World.grownBy_alloc _ _ _
          have hpost := post_un2 (t := 134) (p := p) (HXR.out.keep gA.out) (PXR.out.keep HXR.out gA.out) 130 
          have hnw := (HS1.out.keep gA.out).once.new 130 ((w1.alloc (.cells #[.iface tx ux, .int .i64 X.n] 155)).alloc (.cells #[.iface tx ux] 132)).heap.size (Nat.le_refl _)
          have := put_any B _ bb nv rv1 r (lsOf rs) room ⟨_, .un p X.T, X.n + p.n, _⟩ ((HS1.out.keep gA.out).keep gB) hrep hpost (fun t b e => by cases e; exact ⟨⟨HNX.out _ (by simp; omega), _, _, heap_alloc_new _ _⟩, hnw⟩) (by simp; omega) hrl hln
          simp only [World.size_alloc] at this
          refine this.mono ?_
          rintro e w' ⟨rfl, nv', rv', hS', fr'⟩
          have hls : lsOf (r ++ [(⟨.iface 130 (.pointer (some ⟨w1.heap.size + 1 + 1, 0, none⟩)), .un p X.T, X.n + p.n, X.l ++ [.iface 130 (.pointer (some ⟨w1.heap.size + 1 + 1, 0, none⟩))]⟩ : Mk)]) = lsOf rs ++ [.iface 130 (.pointer (some ⟨w1.heap.size + 1 + 1, 0, none⟩))] := by
            rw [lsOf_app, lsOf_one, hlr.out]; simp
          exact ⟨rfl, ((HFr.out.grown gA.out hB).grown gB hB).bel.trans fr'.bel, nv', rv', r ++ [(⟨.iface 130 (.pointer (some ⟨w1.heap.size + 1 + 1, 0, none⟩)), .un p X.T, X.n + p.n, X.l ++ [.iface 130 (.pointer (some ⟨w1.heap.size + 1 + 1, 0, none⟩))]⟩ : Mk)], by rw [stOf_snoc], by rw [hls]; exact hS', by rw [hls]; simp⟩
        clear hk7 HXR PXR HS1 HFr HNX
        go_wp2_with fail
        refine FIN.mono ?_
        rintro e w4 ⟨rfl, bel4, h4⟩
        go_wp2
        go_ret
        refine ⟨bel4, ?_⟩
        rw [HF2.out]
        exact ⟨rfl, h4⟩

end Go.Proofs.YtgmjpdejfdldlaaDoor

