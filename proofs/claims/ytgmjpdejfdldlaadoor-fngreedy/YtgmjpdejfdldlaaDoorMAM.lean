import Derived.Test.YtgmjpdejfdldlaaDoorMAL
namespace Go.Proofs.YtgmjpdejfdldlaaDoor
open Go.RowKit

theorem TakeSays.first {B : Nat} {w w1 : World} {bb k : Nat} {o : Option (Int × List (Tr × Int))} {e : Ending} {w' : World} (hb : Below B w w1) (h : TakeSays B w1 bb k o e w') : TakeSays B w bb k o e w' := ⟨hb.trans h.1, h.2⟩

theorem im_bad {room : Int} {st : List (Tr × Int)} {p : Pc} (h : (p.k ≠ 1 ∧ 0 < p.t.length) ∨ (p.k ≠ 7 ∧ p.n ≠ 0)) : imStep room st p = none := by unfold imStep; rw [if_pos h]
theorem im_text {room : Int} {st : List (Tr × Int)} {p : Pc} (h : ¬ ((p.k ≠ 1 ∧ 0 < p.t.length) ∨ (p.k ≠ 7 ∧ p.n ≠ 0))) (hk : p.k = 1) : imStep room st p = textStep room st p := by unfold imStep textStep; rw [if_neg h, if_pos hk]
theorem im_leaf {room : Int} {st : List (Tr × Int)} {p : Pc} (h : ¬ ((p.k ≠ 1 ∧ 0 < p.t.length) ∨ (p.k ≠ 7 ∧ p.n ≠ 0))) (hk1 : ¬ p.k = 1) (hk : p.k = 0 ∨ p.k = 2 ∨ p.k = 3 ∨ p.k = 4 ∨ p.k = 5) : imStep room st p = some (room, (.leaf p, 0) :: st) := by
  unfold imStep; rw [if_neg h, if_neg hk1, if_pos hk]
theorem im_pair {room : Int} {st : List (Tr × Int)} {p : Pc} (h : ¬ ((p.k ≠ 1 ∧ 0 < p.t.length) ∨ (p.k ≠ 7 ∧ p.n ≠ 0))) (hk : p.k = 6 ∨ p.k = 9) : imStep room st p = pairStep room st p := by
  unfold imStep pairStep; rw [if_neg h, if_neg (by omega), if_neg (by omega), if_pos hk]
  rcases st with _ | ⟨⟨y, ny⟩, _ | ⟨⟨x, nx⟩, r⟩⟩ <;> rfl
theorem im_around {room : Int} {st : List (Tr × Int)} {p : Pc} (h : ¬ ((p.k ≠ 1 ∧ 0 < p.t.length) ∨ (p.k ≠ 7 ∧ p.n ≠ 0))) (hk : p.k = 7 ∨ p.k = 8) : imStep room st p = aroundStep room st p := by
  unfold imStep aroundStep; rw [if_neg h, if_neg (by omega), if_neg (by omega), if_neg (by omega), if_pos hk]
  rcases st with _ | ⟨⟨x, nx⟩, r⟩ <;> rfl
theorem im_other {room : Int} {st : List (Tr × Int)} {p : Pc} (h : ¬ ((p.k ≠ 1 ∧ 0 < p.t.length) ∨ (p.k ≠ 7 ∧ p.n ≠ 0))) (hk : p.k < 0 ∨ 9 < p.k) : imStep room st p = none := by
  unfold imStep; rw [if_neg h, if_neg (by omega), if_neg (by omega), if_neg (by omega), if_neg (by omega)]

set_option maxHeartbeats 4000000 in
set_option maxRecDepth 100000 in
theorem take_any (B : Nat) (w : World) (bb : Nat) (nv rv : Value) (rs : List Mk) (room : Int) (p : Pc) (tv : Value) (hS : Bst B w bb nv rv rs (lsOf rs) room) (hv : RdB B w tv p.t) (hsl : Sl tv p.t.length) (hby : Bys p.t) (hn : p.t.length ≤ 1048576)
    (hr0 : 0 ≤ room) (hr1 : room ≤ 100000) (hB : B ≤ w.heap.size) (hB0 : 0 < B) (hT : Tab w) (hl : rs.length ≤ 1048576) (hln : (lsOf rs).length ≤ 1048576) (hgd : ∀ x ∈ rs, 0 ≤ x.n ∧ x.n ≤ 4000) :
    Calls Tryd.prog 42 #[.pointer (some ⟨bb, 0, none⟩), .agg #[.int .i64 p.k, tv, .int .i64 p.n]] w fun e w' => TakeSays B w bb ((lsOf rs).length + 1) (imStep room (stOf rs) p) e w' := by
  obtain ⟨ta, tcap, htv, htl, htm⟩ := id hsl
  have hg : w.grownBy (w.alloc (.cells #[.int .i64 p.k, tv, .int .i64 p.n] 40)) none := World.grownBy_alloc _ _ _
  have HS : Hid (Bst B (w.alloc (.cells #[.int .i64 p.k, tv, .int .i64 p.n] 40)) bb nv rv rs (lsOf rs) room) := hS.keep hg
  have HBel : Hid (Below B w (w.alloc (.cells #[.int .i64 p.k, tv, .int .i64 p.n] 40))) := (Below.refl B w).grown hg hB (fun k e => by cases e)
  have HV : Hid (RdB B (w.alloc (.cells #[.int .i64 p.k, tv, .int .i64 p.n] 40)) tv p.t) := hv.keep hg
  have HT : Hid (Tab (w.alloc (.cells #[.int .i64 p.k, tv, .int .i64 p.n] 40))) := hT.keep hg
  have HSl : Hid (Sl tv p.t.length) := hsl
  have HGd : Hid (∀ x ∈ rs, 0 ≤ x.n ∧ x.n ≤ 4000) := hgd
  have hB1 : B ≤ (w.alloc (.cells #[.int .i64 p.k, tv, .int .i64 p.n] 40)).heap.size := Nat.le_trans hB hg.size
  have HB1 := hB1
  clear hS hv hT hsl hg hgd hB1
  by_cases hbad : (p.k ≠ 1 ∧ 0 < p.t.length) ∨ (p.k ≠ 7 ∧ p.n ≠ 0)
  · have HF : Hid (imStep room (stOf rs) p = none) := im_bad hbad
    subst htv
    by_cases hb1 : p.k ≠ 1 ∧ 0 < p.t.length
    · obtain ⟨h1, h2⟩ := hb1
      have e1 : (p.k != 1) = true := by simpa using h1
      clear hbad h1
      go_enter Tryd.func42, Tryd.ntmps42
      go_wp2
      go_ret
      exact ⟨HBel.out, by rw [HF.out]; rfl⟩
    · have hb2 : p.k ≠ 7 ∧ p.n ≠ 0 := by rcases hbad with h | h; exact absurd h hb1; exact h
      obtain ⟨h1, h2⟩ := hb2
      have e7 : (p.k != 7) = true := by simpa using h1
      have e0 : (p.n != 0) = true := by simpa using h2
      by_cases hk1 : p.k = 1
      · have e1 : (p.k != 1) = false := by rw [hk1]; rfl
        clear hbad h1 h2 hb1 hk1
        go_enter Tryd.func42, Tryd.ntmps42
        go_wp2
        go_ret
        exact ⟨HBel.out, by rw [HF.out]; rfl⟩
      · have e1 : (p.k != 1) = true := by simpa using hk1
        have hlen : ¬ 0 < p.t.length := fun h => hb1 ⟨hk1, h⟩
        clear hbad h1 h2 hb1 hk1
        go_enter Tryd.func42, Tryd.ntmps42
        go_wp2
        go_ret
        exact ⟨HBel.out, by rw [HF.out]; rfl⟩
  have HBad : Hid (¬ ((p.k ≠ 1 ∧ 0 < p.t.length) ∨ (p.k ≠ 7 ∧ p.n ≠ 0))) := hbad
  have hlen0 : p.k ≠ 1 → ¬ 0 < p.t.length := fun h1 h2 => hbad (.inl ⟨h1, h2⟩)
  have hn0 : p.k ≠ 7 → p.n = 0 := fun h1 => by by_cases h : p.n = 0; exact h; exact absurd (.inr ⟨h1, h⟩) hbad
  clear hbad
  by_cases hk : p.k = 1
  · have HF : Hid (imStep room (stOf rs) p = textStep room (stOf rs) p) := im_text HBad.out hk
    have hT := takeText_any B _ bb nv rv rs room p tv HS.out hk HV.out HSl.out hby hn hr0 hr1 HB1 hB0 HT.out hl hln
    have hnz : p.n = 0 := hn0 (by omega)
    have en : (p.n != 0) = false := by rw [hnz]; rfl
    have q0 : (p.k == 0) = false := by rw [hk]; rfl
    have q1 : (p.k == 1) = true := by rw [hk]; rfl
    have q2 : (p.k == 2) = false := by rw [hk]; rfl
    have q3 : (p.k == 3) = false := by rw [hk]; rfl
    have q4 : (p.k == 4) = false := by rw [hk]; rfl
    have q5 : (p.k == 5) = false := by rw [hk]; rfl
    have q6 : (p.k == 6) = false := by rw [hk]; rfl
    have q7 : (p.k == 7) = false := by rw [hk]; rfl
    have q8 : (p.k == 8) = false := by rw [hk]; rfl
    have q9 : (p.k == 9) = false := by rw [hk]; rfl
    have e1 : (p.k != 1) = false := by rw [hk]; rfl
    have e7 : (p.k != 7) = true := by rw [hk]; rfl
    clear hk hlen0 hn0 hnz
    subst htv
    go_enter Tryd.func42, Tryd.ntmps42
    go_wp2_with fail
    refine hT.mono ?_
    intro e w2 h2
    have h3 := TakeSays.first HBel.out h2
    rw [← HF.out] at h3
    obtain ⟨b3, h4⟩ := h3
    cases hst : imStep room (stOf rs) p with
    | none =>
      rw [hst] at h4
      simp only at h4
      subst h4
      go_wp2
      go_ret
      exact ⟨b3, by rw [hst]; rfl⟩
    | some x =>
      rw [hst] at h4
      obtain ⟨x1, x2⟩ := x
      obtain ⟨h5, h6⟩ := h4
      subst h5
      go_wp2
      go_ret
      exact ⟨b3, by rw [hst]; exact ⟨rfl, h6⟩⟩
  have HK1 := hk
  by_cases hk : p.k = 0
  · have HF : Hid (imStep room (stOf rs) p = some (room, (.leaf p, 0) :: stOf rs)) := im_leaf HBad.out HK1 (by omega)
    have hnz : p.n = 0 := hn0 (by omega)
    have en : (p.n != 0) = false := by rw [hnz]; rfl
    have hlen := hlen0 (by omega)
    have hT := put_any B _ bb nv rv rs (lsOf rs) room ⟨.iface 127 (.agg #[]), .leaf p, 0, [.iface 127 (.agg #[])]⟩ HS.out (by simp only [Rep]; exact .inl ⟨hk, trivial⟩) rfl (fun t b e => by cases e) HB1 hl hln
    have q0 : (p.k == 0) = true := by rw [hk]; rfl
    have q1 : (p.k == 1) = false := by rw [hk]; rfl
    have q2 : (p.k == 2) = false := by rw [hk]; rfl
    have q3 : (p.k == 3) = false := by rw [hk]; rfl
    have q4 : (p.k == 4) = false := by rw [hk]; rfl
    have q5 : (p.k == 5) = false := by rw [hk]; rfl
    have q6 : (p.k == 6) = false := by rw [hk]; rfl
    have q7 : (p.k == 7) = false := by rw [hk]; rfl
    have q8 : (p.k == 8) = false := by rw [hk]; rfl
    have q9 : (p.k == 9) = false := by rw [hk]; rfl
    have e1 : (p.k != 1) = true := by rw [hk]; rfl
    have e7 : (p.k != 7) = true := by rw [hk]; rfl
    clear hk hlen0 hn0 hnz HK1
    subst htv
    go_enter Tryd.func42, Tryd.ntmps42
    go_wp2_with fail
    refine hT.mono ?_
    rintro e w2 ⟨rfl, nv', rv', hS2, fr2⟩
    have b3 := HBel.out.trans fr2.bel
    clear fr2
    go_wp2
    go_ret
    refine ⟨b3, ?_⟩
    rw [HF.out]
    exact ⟨rfl, nv', rv', rs ++ [⟨.iface 127 (.agg #[]), .leaf p, 0, [.iface 127 (.agg #[])]⟩], stOf_snoc _ _, by rw [lsOf_app, lsOf_one]; exact hS2, by rw [lsOf_app, lsOf_one]; simp⟩
  by_cases hk : p.k = 2
  · have HF : Hid (imStep room (stOf rs) p = some (room, (.leaf p, 0) :: stOf rs)) := im_leaf HBad.out HK1 (by omega)
    have hnz : p.n = 0 := hn0 (by omega)
    have en : (p.n != 0) = false := by rw [hnz]; rfl
    have hlen := hlen0 (by omega)
    have hT := put_any B _ bb nv rv rs (lsOf rs) room ⟨.iface 81 (.agg #[]), .leaf p, 0, [.iface 81 (.agg #[])]⟩ HS.out (by simp only [Rep]; exact .inr (.inl ⟨hk, trivial⟩)) rfl (fun t b e => by cases e) HB1 hl hln
    have q0 : (p.k == 0) = false := by rw [hk]; rfl
    have q1 : (p.k == 1) = false := by rw [hk]; rfl
    have q2 : (p.k == 2) = true := by rw [hk]; rfl
    have q3 : (p.k == 3) = false := by rw [hk]; rfl
    have q4 : (p.k == 4) = false := by rw [hk]; rfl
    have q5 : (p.k == 5) = false := by rw [hk]; rfl
    have q6 : (p.k == 6) = false := by rw [hk]; rfl
    have q7 : (p.k == 7) = false := by rw [hk]; rfl
    have q8 : (p.k == 8) = false := by rw [hk]; rfl
    have q9 : (p.k == 9) = false := by rw [hk]; rfl
    have e1 : (p.k != 1) = true := by rw [hk]; rfl
    have e7 : (p.k != 7) = true := by rw [hk]; rfl
    clear hk hlen0 hn0 hnz HK1
    subst htv
    go_enter Tryd.func42, Tryd.ntmps42
    go_wp2_with fail
    refine hT.mono ?_
    rintro e w2 ⟨rfl, nv', rv', hS2, fr2⟩
    have b3 := HBel.out.trans fr2.bel
    clear fr2
    go_wp2
    go_ret
    refine ⟨b3, ?_⟩
    rw [HF.out]
    exact ⟨rfl, nv', rv', rs ++ [⟨.iface 81 (.agg #[]), .leaf p, 0, [.iface 81 (.agg #[])]⟩], stOf_snoc _ _, by rw [lsOf_app, lsOf_one]; exact hS2, by rw [lsOf_app, lsOf_one]; simp⟩
  by_cases hk : p.k = 3
  · have HF : Hid (imStep room (stOf rs) p = some (room, (.leaf p, 0) :: stOf rs)) := im_leaf HBad.out HK1 (by omega)
    have hnz : p.n = 0 := hn0 (by omega)
    have en : (p.n != 0) = false := by rw [hnz]; rfl
    have hlen := hlen0 (by omega)
    have hT := put_any B _ bb nv rv rs (lsOf rs) room ⟨.iface 128 (.agg #[]), .leaf p, 0, [.iface 128 (.agg #[])]⟩ HS.out (by simp only [Rep]; exact .inr (.inr (.inl ⟨hk, trivial⟩))) rfl (fun t b e => by cases e) HB1 hl hln
    have q0 : (p.k == 0) = false := by rw [hk]; rfl
    have q1 : (p.k == 1) = false := by rw [hk]; rfl
    have q2 : (p.k == 2) = false := by rw [hk]; rfl
    have q3 : (p.k == 3) = true := by rw [hk]; rfl
    have q4 : (p.k == 4) = false := by rw [hk]; rfl
    have q5 : (p.k == 5) = false := by rw [hk]; rfl
    have q6 : (p.k == 6) = false := by rw [hk]; rfl
    have q7 : (p.k == 7) = false := by rw [hk]; rfl
    have q8 : (p.k == 8) = false := by rw [hk]; rfl
    have q9 : (p.k == 9) = false := by rw [hk]; rfl
    have e1 : (p.k != 1) = true := by rw [hk]; rfl
    have e7 : (p.k != 7) = true := by rw [hk]; rfl
    clear hk hlen0 hn0 hnz HK1
    subst htv
    go_enter Tryd.func42, Tryd.ntmps42
    go_wp2_with fail
    refine hT.mono ?_
    rintro e w2 ⟨rfl, nv', rv', hS2, fr2⟩
    have b3 := HBel.out.trans fr2.bel
    clear fr2
    go_wp2
    go_ret
    refine ⟨b3, ?_⟩
    rw [HF.out]
    exact ⟨rfl, nv', rv', rs ++ [⟨.iface 128 (.agg #[]), .leaf p, 0, [.iface 128 (.agg #[])]⟩], stOf_snoc _ _, by rw [lsOf_app, lsOf_one]; exact hS2, by rw [lsOf_app, lsOf_one]; simp⟩
  by_cases hk : p.k = 4
  · have HF : Hid (imStep room (stOf rs) p = some (room, (.leaf p, 0) :: stOf rs)) := im_leaf HBad.out HK1 (by omega)
    have hnz : p.n = 0 := hn0 (by omega)
    have en : (p.n != 0) = false := by rw [hnz]; rfl
    have hlen := hlen0 (by omega)
    have hT := put_any B _ bb nv rv rs (lsOf rs) room ⟨.iface 82 (.agg #[]), .leaf p, 0, [.iface 82 (.agg #[])]⟩ HS.out (by simp only [Rep]; exact .inr (.inr (.inr (.inl ⟨hk, trivial⟩)))) rfl (fun t b e => by cases e) HB1 hl hln
    have q0 : (p.k == 0) = false := by rw [hk]; rfl
    have q1 : (p.k == 1) = false := by rw [hk]; rfl
    have q2 : (p.k == 2) = false := by rw [hk]; rfl
    have q3 : (p.k == 3) = false := by rw [hk]; rfl
    have q4 : (p.k == 4) = true := by rw [hk]; rfl
    have q5 : (p.k == 5) = false := by rw [hk]; rfl
    have q6 : (p.k == 6) = false := by rw [hk]; rfl
    have q7 : (p.k == 7) = false := by rw [hk]; rfl
    have q8 : (p.k == 8) = false := by rw [hk]; rfl
    have q9 : (p.k == 9) = false := by rw [hk]; rfl
    have e1 : (p.k != 1) = true := by rw [hk]; rfl
    have e7 : (p.k != 7) = true := by rw [hk]; rfl
    clear hk hlen0 hn0 hnz HK1
    subst htv
    go_enter Tryd.func42, Tryd.ntmps42
    go_wp2_with fail
    refine hT.mono ?_
    rintro e w2 ⟨rfl, nv', rv', hS2, fr2⟩
    have b3 := HBel.out.trans fr2.bel
    clear fr2
    go_wp2
    go_ret
    refine ⟨b3, ?_⟩
    rw [HF.out]
    exact ⟨rfl, nv', rv', rs ++ [⟨.iface 82 (.agg #[]), .leaf p, 0, [.iface 82 (.agg #[])]⟩], stOf_snoc _ _, by rw [lsOf_app, lsOf_one]; exact hS2, by rw [lsOf_app, lsOf_one]; simp⟩
  by_cases hk : p.k = 5
  · have HF : Hid (imStep room (stOf rs) p = some (room, (.leaf p, 0) :: stOf rs)) := im_leaf HBad.out HK1 (by omega)
    have hnz : p.n = 0 := hn0 (by omega)
    have en : (p.n != 0) = false := by rw [hnz]; rfl
    have hlen := hlen0 (by omega)
    have hT := put_any B _ bb nv rv rs (lsOf rs) room ⟨.iface 83 (.agg #[]), .leaf p, 0, [.iface 83 (.agg #[])]⟩ HS.out (by simp only [Rep]; exact .inr (.inr (.inr (.inr (.inl ⟨hk, trivial⟩))))) rfl (fun t b e => by cases e) HB1 hl hln
    have q0 : (p.k == 0) = false := by rw [hk]; rfl
    have q1 : (p.k == 1) = false := by rw [hk]; rfl
    have q2 : (p.k == 2) = false := by rw [hk]; rfl
    have q3 : (p.k == 3) = false := by rw [hk]; rfl
    have q4 : (p.k == 4) = false := by rw [hk]; rfl
    have q5 : (p.k == 5) = true := by rw [hk]; rfl
    have q6 : (p.k == 6) = false := by rw [hk]; rfl
    have q7 : (p.k == 7) = false := by rw [hk]; rfl
    have q8 : (p.k == 8) = false := by rw [hk]; rfl
    have q9 : (p.k == 9) = false := by rw [hk]; rfl
    have e1 : (p.k != 1) = true := by rw [hk]; rfl
    have e7 : (p.k != 7) = true := by rw [hk]; rfl
    clear hk hlen0 hn0 hnz HK1
    subst htv
    go_enter Tryd.func42, Tryd.ntmps42
    go_wp2_with fail
    refine hT.mono ?_
    rintro e w2 ⟨rfl, nv', rv', hS2, fr2⟩
    have b3 := HBel.out.trans fr2.bel
    clear fr2
    go_wp2
    go_ret
    refine ⟨b3, ?_⟩
    rw [HF.out]
    exact ⟨rfl, nv', rv', rs ++ [⟨.iface 83 (.agg #[]), .leaf p, 0, [.iface 83 (.agg #[])]⟩], stOf_snoc _ _, by rw [lsOf_app, lsOf_one]; exact hS2, by rw [lsOf_app, lsOf_one]; simp⟩
  by_cases hk : p.k = 6
  · have HF : Hid (imStep room (stOf rs) p = pairStep room (stOf rs) p) := im_pair HBad.out (by omega)
    have hlen := hlen0 (by omega)
    have hT := takePair_any B _ bb nv rv rs room p HS.out (by omega) HB1 hl hln
    have hnz : p.n = 0 := hn0 (by omega)
    have en : (p.n != 0) = false := by rw [hnz]; rfl
    clear hnz
    have q0 : (p.k == 0) = false := by rw [hk]; rfl
    have q1 : (p.k == 1) = false := by rw [hk]; rfl
    have q2 : (p.k == 2) = false := by rw [hk]; rfl
    have q3 : (p.k == 3) = false := by rw [hk]; rfl
    have q4 : (p.k == 4) = false := by rw [hk]; rfl
    have q5 : (p.k == 5) = false := by rw [hk]; rfl
    have q6 : (p.k == 6) = true := by rw [hk]; rfl
    have q7 : (p.k == 7) = false := by rw [hk]; rfl
    have q8 : (p.k == 8) = false := by rw [hk]; rfl
    have q9 : (p.k == 9) = false := by rw [hk]; rfl
    have e1 : (p.k != 1) = true := by rw [hk]; rfl
    have e7 : (p.k != 7) = true := by rw [hk]; rfl
    clear hk hlen0 hn0 HK1
    subst htv
    go_enter Tryd.func42, Tryd.ntmps42
    go_wp2_with fail
    refine hT.mono ?_
    intro e w2 h2
    have h3 := TakeSays.first HBel.out h2
    rw [← HF.out] at h3
    obtain ⟨b3, h4⟩ := h3
    cases hst : imStep room (stOf rs) p with
    | none =>
      rw [hst] at h4
      simp only at h4
      subst h4
      go_wp2
      go_ret
      exact ⟨b3, by rw [hst]; rfl⟩
    | some x =>
      rw [hst] at h4
      obtain ⟨x1, x2⟩ := x
      obtain ⟨h5, h6⟩ := h4
      subst h5
      go_wp2
      go_ret
      exact ⟨b3, by rw [hst]; exact ⟨rfl, h6⟩⟩
  by_cases hk : p.k = 9
  · have HF : Hid (imStep room (stOf rs) p = pairStep room (stOf rs) p) := im_pair HBad.out (by omega)
    have hlen := hlen0 (by omega)
    have hT := takePair_any B _ bb nv rv rs room p HS.out (by omega) HB1 hl hln
    have hnz : p.n = 0 := hn0 (by omega)
    have en : (p.n != 0) = false := by rw [hnz]; rfl
    clear hnz
    have q0 : (p.k == 0) = false := by rw [hk]; rfl
    have q1 : (p.k == 1) = false := by rw [hk]; rfl
    have q2 : (p.k == 2) = false := by rw [hk]; rfl
    have q3 : (p.k == 3) = false := by rw [hk]; rfl
    have q4 : (p.k == 4) = false := by rw [hk]; rfl
    have q5 : (p.k == 5) = false := by rw [hk]; rfl
    have q6 : (p.k == 6) = false := by rw [hk]; rfl
    have q7 : (p.k == 7) = false := by rw [hk]; rfl
    have q8 : (p.k == 8) = false := by rw [hk]; rfl
    have q9 : (p.k == 9) = true := by rw [hk]; rfl
    have e1 : (p.k != 1) = true := by rw [hk]; rfl
    have e7 : (p.k != 7) = true := by rw [hk]; rfl
    clear hk hlen0 hn0 HK1
    subst htv
    go_enter Tryd.func42, Tryd.ntmps42
    go_wp2_with fail
    refine hT.mono ?_
    intro e w2 h2
    have h3 := TakeSays.first HBel.out h2
    rw [← HF.out] at h3
    obtain ⟨b3, h4⟩ := h3
    cases hst : imStep room (stOf rs) p with
    | none =>
      rw [hst] at h4
      simp only at h4
      subst h4
      go_wp2
      go_ret
      exact ⟨b3, by rw [hst]; rfl⟩
    | some x =>
      rw [hst] at h4
      obtain ⟨x1, x2⟩ := x
      obtain ⟨h5, h6⟩ := h4
      subst h5
      go_wp2
      go_ret
      exact ⟨b3, by rw [hst]; exact ⟨rfl, h6⟩⟩
  by_cases hk : p.k = 7
  · have HF : Hid (imStep room (stOf rs) p = aroundStep room (stOf rs) p) := im_around HBad.out (by omega)
    have hlen := hlen0 (by omega)
    have hT := takeAround_any B _ bb nv rv rs room p HS.out (.inr hk) HB1 hl hln HGd.out
    have q0 : (p.k == 0) = false := by rw [hk]; rfl
    have q1 : (p.k == 1) = false := by rw [hk]; rfl
    have q2 : (p.k == 2) = false := by rw [hk]; rfl
    have q3 : (p.k == 3) = false := by rw [hk]; rfl
    have q4 : (p.k == 4) = false := by rw [hk]; rfl
    have q5 : (p.k == 5) = false := by rw [hk]; rfl
    have q6 : (p.k == 6) = false := by rw [hk]; rfl
    have q7 : (p.k == 7) = true := by rw [hk]; rfl
    have q8 : (p.k == 8) = false := by rw [hk]; rfl
    have q9 : (p.k == 9) = false := by rw [hk]; rfl
    have e1 : (p.k != 1) = true := by rw [hk]; rfl
    have e7 : (p.k != 7) = false := by rw [hk]; rfl
    clear hk hlen0 hn0 HK1
    subst htv
    go_enter Tryd.func42, Tryd.ntmps42
    go_wp2_with fail
    refine hT.mono ?_
    intro e w2 h2
    have h3 := TakeSays.first HBel.out h2
    rw [← HF.out] at h3
    obtain ⟨b3, h4⟩ := h3
    cases hst : imStep room (stOf rs) p with
    | none =>
      rw [hst] at h4
      simp only at h4
      subst h4
      go_wp2
      go_ret
      exact ⟨b3, by rw [hst]; rfl⟩
    | some x =>
      rw [hst] at h4
      obtain ⟨x1, x2⟩ := x
      obtain ⟨h5, h6⟩ := h4
      subst h5
      go_wp2
      go_ret
      exact ⟨b3, by rw [hst]; exact ⟨rfl, h6⟩⟩
  by_cases hk : p.k = 8
  · have HF : Hid (imStep room (stOf rs) p = aroundStep room (stOf rs) p) := im_around HBad.out (by omega)
    have hlen := hlen0 (by omega)
    have hT := takeAround_any B _ bb nv rv rs room p HS.out (.inl ⟨hk, hn0 (by omega)⟩) HB1 hl hln HGd.out
    have hnz : p.n = 0 := hn0 (by omega)
    have en : (p.n != 0) = false := by rw [hnz]; rfl
    clear hnz
    have q0 : (p.k == 0) = false := by rw [hk]; rfl
    have q1 : (p.k == 1) = false := by rw [hk]; rfl
    have q2 : (p.k == 2) = false := by rw [hk]; rfl
    have q3 : (p.k == 3) = false := by rw [hk]; rfl
    have q4 : (p.k == 4) = false := by rw [hk]; rfl
    have q5 : (p.k == 5) = false := by rw [hk]; rfl
    have q6 : (p.k == 6) = false := by rw [hk]; rfl
    have q7 : (p.k == 7) = false := by rw [hk]; rfl
    have q8 : (p.k == 8) = true := by rw [hk]; rfl
    have q9 : (p.k == 9) = false := by rw [hk]; rfl
    have e1 : (p.k != 1) = true := by rw [hk]; rfl
    have e7 : (p.k != 7) = true := by rw [hk]; rfl
    clear hk hlen0 hn0 HK1
    subst htv
    go_enter Tryd.func42, Tryd.ntmps42
    go_wp2_with fail
    refine hT.mono ?_
    intro e w2 h2
    have h3 := TakeSays.first HBel.out h2
    rw [← HF.out] at h3
    obtain ⟨b3, h4⟩ := h3
    cases hst : imStep room (stOf rs) p with
    | none =>
      rw [hst] at h4
      simp only at h4
      subst h4
      go_wp2
      go_ret
      exact ⟨b3, by rw [hst]; rfl⟩
    | some x =>
      rw [hst] at h4
      obtain ⟨x1, x2⟩ := x
      obtain ⟨h5, h6⟩ := h4
      subst h5
      go_wp2
      go_ret
      exact ⟨b3, by rw [hst]; exact ⟨rfl, h6⟩⟩
  have hko : p.k < 0 ∨ 9 < p.k := by omega
  have HF : Hid (imStep room (stOf rs) p = none) := im_other HBad.out hko
  have hnz : p.n = 0 := hn0 (by omega)
  have en : (p.n != 0) = false := by rw [hnz]; rfl
  have hlen := hlen0 (by omega)
  have q0 : (p.k == 0) = false := by simp; omega
  have q1 : (p.k == 1) = false := by simp; omega
  have q2 : (p.k == 2) = false := by simp; omega
  have q3 : (p.k == 3) = false := by simp; omega
  have q4 : (p.k == 4) = false := by simp; omega
  have q5 : (p.k == 5) = false := by simp; omega
  have q6 : (p.k == 6) = false := by simp; omega
  have q7 : (p.k == 7) = false := by simp; omega
  have q8 : (p.k == 8) = false := by simp; omega
  have q9 : (p.k == 9) = false := by simp; omega
  have e1 : (p.k != 1) = true := by simp; omega
  have e7 : (p.k != 7) = true := by simp; omega
  clear hko hlen0 hn0 hnz HK1
  subst htv
  go_enter Tryd.func42, Tryd.ntmps42
  go_wp2
  go_ret
  exact ⟨HBel.out, by rw [HF.out]; rfl⟩

end Go.Proofs.YtgmjpdejfdldlaaDoor

