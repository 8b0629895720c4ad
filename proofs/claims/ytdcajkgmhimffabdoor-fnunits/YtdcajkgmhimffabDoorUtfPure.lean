import Derived.Test.YtdcajkgmhimffabDoorSeq
import Derived.Test.YtdcajkgmhimffabDoorEncode1
namespace Go.Proofs.YtdcajkgmhimffabDoor
open Go.RowKit

theorem fs_one {s : List Int} (hl : 1 ≤ s.length) (h0 : (0 : Int) ≤ s[0]?.getD 0) (hc : s[0]?.getD 0 < 128) : fsize s = 1 ∧ lv s 1 = s[0]?.getD 0 := by
  have hlv : lv s 1 = s[0]?.getD 0 := by
    rw [lv_fold hl (by rw [lead_one _ hc]; omega), lead_one _ hc]; rfl
  have hok : okPt (s[0]?.getD 0) = true := by simp [okPt]; omega
  have hneed : need (s[0]?.getD 0) = 1 := by unfold need; rw [if_pos hok, if_pos hc]
  have hhit : hit s 1 = true := (hit_val hlv h0).2 hneed
  refine ⟨?_, hlv⟩
  rw [fsize_only (n := 1) (by omega) (by omega) (fun m h1 h4 hne => hit_lead (lead_cls1 h0 hc m h1 h4 hne)), if_pos hhit]
theorem fs_two {s : List Int} {y : Int} (hc : s[0]?.getD 0 / 32 = 6) (g1 : goesOn s 1) (hy : y = s[0]?.getD 0 % 32 * 64 + s[1]?.getD 0 % 64) (h0 : 0 ≤ y) (hn : need y = 2) : fsize s = 2 ∧ lv s 2 = y := by
  have hlv : lv s 2 = y := by rw [hy]; exact lv2 hc g1
  have hhit : hit s 2 = true := (hit_val hlv h0).2 hn
  refine ⟨?_, hlv⟩
  rw [fsize_only (n := 2) (by omega) (by omega) (fun m h1 h4 hne => hit_lead (lead_cls2 hc m h1 h4 hne)), if_pos hhit]
theorem fs_three {s : List Int} {y : Int} (hc : s[0]?.getD 0 / 16 = 14) (g1 : goesOn s 1) (g2 : goesOn s 2) (hy : y = (s[0]?.getD 0 % 16 * 64 + s[1]?.getD 0 % 64) * 64 + s[2]?.getD 0 % 64) (h0 : 0 ≤ y) (hn : need y = 3) : fsize s = 3 ∧ lv s 3 = y := by
  have hlv : lv s 3 = y := by rw [hy]; exact lv3 hc g1 g2
  have hhit : hit s 3 = true := (hit_val hlv h0).2 hn
  refine ⟨?_, hlv⟩
  rw [fsize_only (n := 3) (by omega) (by omega) (fun m h1 h4 hne => hit_lead (lead_cls3 hc m h1 h4 hne)), if_pos hhit]
theorem fs_four {s : List Int} {y : Int} (hc : s[0]?.getD 0 / 8 = 30) (g1 : goesOn s 1) (g2 : goesOn s 2) (g3 : goesOn s 3)
    (hy : y = ((s[0]?.getD 0 % 8 * 64 + s[1]?.getD 0 % 64) * 64 + s[2]?.getD 0 % 64) * 64 + s[3]?.getD 0 % 64) (h0 : 0 ≤ y) (hn : need y = 4) : fsize s = 4 ∧ lv s 4 = y := by
  have hlv : lv s 4 = y := by rw [hy]; exact lv4 hc g1 g2 g3
  have hhit : hit s 4 = true := (hit_val hlv h0).2 hn
  refine ⟨?_, hlv⟩
  rw [fsize_only (n := 4) (by omega) (by omega) (fun m h1 h4 hne => hit_lead (lead_cls4 hc m h1 h4 hne)), if_pos hhit]

theorem dec_enc (p : Int) (r : List Int) (h : okPt p = true) : fsize (enc p ++ r) = (enc p).length ∧ lv (enc p ++ r) (enc p).length = p := by
  obtain ⟨⟨h0, h1⟩, h2⟩ := ok_bd h
  have hg := need_ge p h
  by_cases e1 : need p = 1
  · have hp := need_one h e1
    rw [enc1 p hp]
    have := fs_one (s := [p] ++ r) (by simp) (by simpa using h0) (by simpa using hp)
    simpa using this
  · by_cases e2 : need p = 2
    · have hp := need_two h e2
      rw [enc2 p hp.1 hp.2]
      refine fs_two (by simp; omega) ⟨by simp, by simp; omega⟩ (by simp; omega) h0 e2
    · by_cases e3 : need p = 3
      · have hp := need_three h e3
        rw [enc3 p hp.1 hp.2]
        refine fs_three (by simp; omega) ⟨by simp, by simp; omega⟩ ⟨by simp, by simp; omega⟩ (by simp; omega) h0 e3
      · have e4 : need p = 4 := by omega
        have hp := need_four h e4
        rw [enc4 p hp]
        refine fs_four (by simp; omega) ⟨by simp, by simp; omega⟩ ⟨by simp, by simp; omega⟩ ⟨by simp, by simp; omega⟩ (by simp; omega) h0 e4

theorem dec_all : ∀ (q : List Int) (f k : Nat), q.all okPt = true → (encAll q).length ≤ f → pts f (encAll q) = q ∧ err f (encAll q) k = none
  | [], f, k, _, _ => by simp [encAll, pts_nil, err_nil]
  | p :: q, f, k, h, hf => by
    simp only [List.all_cons, Bool.and_eq_true] at h
    have e : encAll (p :: q) = enc p ++ encAll q := by simp [encAll]
    have hl := enc_len p
    rw [e] at hf ⊢
    rw [List.length_append] at hf
    obtain ⟨f', rfl⟩ : ∃ f', f = f' + 1 := ⟨f - 1, by omega⟩
    have hd := dec_enc p (encAll q) h.1
    have hne : enc p ++ encAll q ≠ [] := fun h => by have := congrArg List.length h; simp at this; rw [this.1] at hl; simp at hl
    have hz : fsize (enc p ++ encAll q) ≠ 0 := by rw [hd.1]; omega
    have ih := dec_all q f' (k + fsize (enc p ++ encAll q)) h.2 (by omega)
    rw [pts_go hne hz, err_go hne hz, hd.1, hd.2, List.drop_left]
    rw [hd.1] at ih
    exact ⟨by rw [ih.1], ih.2⟩
theorem text_back {q : List Int} (h : q.all okPt = true) : decR (encR q).1 = (q, 0, 0) := by
  rw [encR_ok q h]
  have := dec_all q (encAll q).length 0 h (Nat.le_refl _)
  rw [decR_ok this.2, this.1]
theorem width_back {q : List Int} (h : q.all okPt = true) : widthR (encR q).1 = (q.length : Int) := by
  unfold widthR; rw [text_back h]; simp

theorem lv_goes {s : List Int} {n : Nat} (h0 : 0 ≤ lv s n) (j : Nat) (h1 : 1 ≤ j) (hj : j < n) : goesOn s j := by
  have all : ∀ j, 1 ≤ j → j < n → (∀ i, 1 ≤ i → i < j → goesOn s i) → goesOn s j := by
    intro j h1 hj hlo
    apply Classical.byContradiction
    intro hg
    have := lv_cut (n := n) j h1 hj hlo hg
    omega
  induction j using Nat.strongRecOn with
  | _ j ih => exact all j h1 hj (fun i hi1 hi2 => ih i hi2 hi1 (by omega))
theorem lv_lead0 {s : List Int} {n : Nat} (h0 : 0 ≤ lv s n) : n ≤ s.length ∧ 0 ≤ lead n (s[0]?.getD 0) := by
  unfold lv at h0
  split at h0
  · omega
  · split at h0
    · omega
    · omega
theorem take_two (s : List Int) (h : 2 ≤ s.length) : s.take 2 = [s[0]?.getD 0, s[1]?.getD 0] := by
  rw [take_snoc s 1 (by omega), take_snoc s 0 (by omega)]; simp
theorem take_three (s : List Int) (h : 3 ≤ s.length) : s.take 3 = [s[0]?.getD 0, s[1]?.getD 0, s[2]?.getD 0] := by
  rw [take_snoc s 2 (by omega), take_two s (by omega)]; simp
theorem take_four (s : List Int) (h : 4 ≤ s.length) : s.take 4 = [s[0]?.getD 0, s[1]?.getD 0, s[2]?.getD 0, s[3]?.getD 0] := by
  rw [take_snoc s 3 (by omega), take_three s (by omega)]; simp

theorem enc_lv {s : List Int} {n : Nat} (hby : Bys s) (h1 : 1 ≤ n) (h4 : n ≤ 4) (h : hit s n = true) : enc (lv s n) = s.take n ∧ okPt (lv s n) = true := by
  have h0 := hit_pos h
  have hnd : need (lv s n) = n := by
    simp only [hit, Bool.and_eq_true, beq_iff_eq] at h; exact h.2
  have hok : okPt (lv s n) = true := by
    cases ho : okPt (lv s n)
    · have : need (lv s n) = 0 := by simp [need, ho]
      omega
    · rfl
  refine ⟨?_, hok⟩
  obtain ⟨hl, hle⟩ := lv_lead0 h0
  have b0 := hby.get 0
  have hgo := lv_goes h0
  by_cases e1 : n = 1
  · subst e1
    have hp := need_one hok hnd
    have hc : s[0]?.getD 0 < 128 := by
      apply Classical.byContradiction
      intro hh
      rw [lead_no 1 _ (by omega) (by omega) (by omega) (by omega)] at hle; omega
    have hv := (fs_one hl b0.1 hc).2
    rw [hv, enc1 _ hc]
    rw [take_snoc s 0 (by omega)]; simp
  · by_cases e2 : n = 2
    · subst e2
      have hp := need_two hok hnd
      have hc : s[0]?.getD 0 / 32 = 6 := by
        apply Classical.byContradiction
        intro hh
        rw [lead_no 2 _ (by omega) (by omega) (by omega) (by omega)] at hle; omega
      have g1 := hgo 1 (by omega) (by omega)
      have hv := lv2 hc g1
      have b1 := hby.get 1
      have d1 := g1.2
      rw [enc2 _ hp.1 hp.2, take_two s hl, hv]
      simp only [List.cons.injEq, and_true]
      omega
    · by_cases e3 : n = 3
      · subst e3
        have hp := need_three hok hnd
        have hc : s[0]?.getD 0 / 16 = 14 := by
          apply Classical.byContradiction
          intro hh
          rw [lead_no 3 _ (by omega) (by omega) (by omega) (by omega)] at hle; omega
        have g1 := hgo 1 (by omega) (by omega)
        have g2 := hgo 2 (by omega) (by omega)
        have hv := lv3 hc g1 g2
        have b1 := hby.get 1
        have b2 := hby.get 2
        have d1 := g1.2
        have d2 := g2.2
        rw [enc3 _ hp.1 hp.2, take_three s hl, hv]
        simp only [List.cons.injEq, and_true]
        omega
      · have e4 : n = 4 := by omega
        subst e4
        have hp := need_four hok hnd
        have hc : s[0]?.getD 0 / 8 = 30 := by
          apply Classical.byContradiction
          intro hh
          rw [lead_no 4 _ (by omega) (by omega) (by omega) (by omega)] at hle; omega
        have g1 := hgo 1 (by omega) (by omega)
        have g2 := hgo 2 (by omega) (by omega)
        have g3 := hgo 3 (by omega) (by omega)
        have hv := lv4 hc g1 g2 g3
        have b1 := hby.get 1
        have b2 := hby.get 2
        have b3 := hby.get 3
        have d1 := g1.2
        have d2 := g2.2
        have d3 := g3.2
        rw [enc4 _ hp, take_four s hl, hv]
        simp only [List.cons.injEq, and_true]
        omega
theorem fsize_hit {s : List Int} (h : fsize s ≠ 0) : hit s (fsize s) = true := by
  unfold fsize at h ⊢
  split
  · assumption
  · split
    · assumption
    · split
      · assumption
      · split
        · assumption
        · simp_all
theorem enc_all (f : Nat) : ∀ (s : List Int) (k : Nat), Bys s → s.length ≤ f → err f s k = none → encAll (pts f s) = s ∧ (pts f s).all okPt = true := by
  induction f with
  | zero =>
    intro s k _ hl _
    have : s = [] := List.eq_nil_of_length_eq_zero (by omega)
    subst this; simp [pts, encAll]
  | succ f ih =>
    intro s k hby hl he
    by_cases hs : s = []
    · subst hs; simp [pts_nil, encAll]
    · by_cases hf : fsize s = 0
      · rw [err_bad hs hf] at he; cases he
      · rw [err_go hs hf] at he
        rw [pts_go hs hf]
        have h4 := fsize_four s
        have hh := enc_lv hby (by omega) h4 (fsize_hit hf)
        have hi := ih (s.drop (fsize s)) (k + fsize s) (fun z hz => hby z (List.mem_of_mem_drop hz)) (by rw [List.length_drop]; omega) he
        have e : encAll (lv s (fsize s) :: pts f (s.drop (fsize s))) = enc (lv s (fsize s)) ++ encAll (pts f (s.drop (fsize s))) := by simp [encAll]
        rw [e, hh.1, hi.1, List.take_append_drop]
        exact ⟨rfl, by simp [hh.2, hi.2]⟩
theorem bytes_back {c : List Int} (hby : Bys c) (h : (decR c).2.1 = 0) : encR (decR c).1 = (c, 0) := by
  cases he : err c.length c 0 with
  | none =>
    rw [decR_ok he]
    have := enc_all c.length c 0 hby (Nat.le_refl _) he
    rw [encR_ok _ this.2, this.1]
  | some k => rw [decR_bad he] at h; simp at h
theorem width_bad {c : List Int} (h : (decR c).2.1 ≠ 0) : widthR c = -1 := by unfold widthR; rw [if_neg h]

end Go.Proofs.YtdcajkgmhimffabDoor
