import Derived.Test.YtalkhnhhaiigiaaGreatDoorMAD
import Derived.Test.YtalkhnhhaiigiaaGreatDoorMAU
import Derived.Test.YtalkhnhhaiigiaaGreatDoorMBB
import Derived.Test.YtalkhnhhaiigiaaGreatDoorMBC
namespace Go.Proofs.YtalkhnhhaiigiaaGreatDoor
open Go.RowKit

theorem fs_one {s : List Int} (hl : 1 ≤ s.length) (h0 : (0 : Int) ≤ s[0]?.getD 0) (hc : s[0]?.getD 0 < 128) : fsize s = 1 ∧ lv s 1 = s[0]?.getD 0 := by
  have hlv : lv s 1 = s[0]?.getD 0 := by
    rw [lv_fold hl (by rw [lead_one _ hc]; omega), lead_one _ hc]; rfl
  have hok : okPt (s[0]?.getD 0) = true := by simp [okPt]; omega
  have hneed : need (s[0]?.getD 0) = 1 := by unfold need; rw [if_pos hok, if_pos hc]
  have hhit : hit s 1 = true := (hit_val hlv h0).2 hneed
  refine ⟨?_, hlv⟩
  rw [fsize_only (n := 1) (by omega) (by omega) (fun m h1 h4 hne => hit_lead (lead_cls1 h0 hc m h1 h4 hne)), if_pos hhit]
theorem fs_two {s : List Int} {y : Int} (hc : s[0]?.getD 0 / 32 = 6) (g1 : goesOn s 1) (hy : y = s[0]?.getD 0 % 32 * 64 + s[1]?.getD 0 % 64) (h0 : 0 ≤ y) (hn : need y = 2) : fsize s = 2 ∧ lv s 2 = y := by
  have hlv : lv s 2 = y := by rw [hy]; exact lv2 hc g1
  have hhit : hit s 2 = true := (hit_val hlv h0).2 hn
  refine ⟨?_, hlv⟩
  rw [fsize_only (n := 2) (by omega) (by omega) (fun m h1 h4 hne => hit_lead (lead_cls2 hc m h1 h4 hne)), if_pos hhit]
theorem fs_three {s : List Int} {y : Int} (hc : s[0]?.getD 0 / 16 = 14) (g1 : goesOn s 1) (g2 : goesOn s 2) (hy : y = (s[0]?.getD 0 % 16 * 64 + s[1]?.getD 0 % 64) * 64 + s[2]?.getD 0 % 64) (h0 : 0 ≤ y) (hn : need y = 3) : fsize s = 3 ∧ lv s 3 = y := by
  have hlv : lv s 3 = y := by rw [hy]; exact lv3 hc g1 g2
  have hhit : hit s 3 = true := (hit_val hlv h0).2 hn
  refine ⟨?_, hlv⟩
  rw [fsize_only (n := 3) (by omega) (by omega) (fun m h1 h4 hne => hit_lead (lead_cls3 hc m h1 h4 hne)), if_pos hhit]
theorem fs_four {s : List Int} {y : Int} (hc : s[0]?.getD 0 / 8 = 30) (g1 : goesOn s 1) (g2 : goesOn s 2) (g3 : goesOn s 3)
    (hy : y = ((s[0]?.getD 0 % 8 * 64 + s[1]?.getD 0 % 64) * 64 + s[2]?.getD 0 % 64) * 64 + s[3]?.getD 0 % 64) (h0 : 0 ≤ y) (hn : need y = 4) : fsize s = 4 ∧ lv s 4 = y := by
  have hlv : lv s 4 = y := by rw [hy]; exact lv4 hc g1 g2 g3
  have hhit : hit s 4 = true := (hit_val hlv h0).2 hn
  refine ⟨?_, hlv⟩
  rw [fsize_only (n := 4) (by omega) (by omega) (fun m h1 h4 hne => hit_lead (lead_cls4 hc m h1 h4 hne)), if_pos hhit]

theorem dec_enc (p : Int) (r : List Int) (h : okPt p = true) : fsize (enc p ++ r) = (enc p).length ∧ lv (enc p ++ r) (enc p).length = p := by
  obtain ⟨⟨h0, h1⟩, h2⟩ := ok_bd h
  have hg := need_ge p h
  by_cases e1 : need p = 1
  · have hp := need_one h e1
    rw [enc1 p hp]
    have := fs_one (s := [p] ++ r) (by simp) (by simpa using h0) (by simpa using hp)
    simpa using this
  · by_cases e2 : need p = 2
    · have hp := need_two h e2
      rw [enc2 p hp.1 hp.2]
      refine fs_two (by simp; omega) ⟨by simp, by simp; omega⟩ (by simp; omega) h0 e2
    · by_cases e3 : need p = 3
      · have hp := need_three h e3
        rw [enc3 p hp.1 hp.2]
        refine fs_three (by simp; omega) ⟨by simp, by simp; omega⟩ ⟨by simp, by simp; omega⟩ (by simp; omega) h0 e3
      · have e4 : need p = 4 := by omega
        have hp := need_four h e4
        rw [enc4 p hp]
        refine fs_four (by simp; omega) ⟨by simp, by simp; omega⟩ ⟨by simp, by simp; omega⟩ ⟨by simp, by simp; omega⟩ (by simp; omega) h0 e4

theorem dec_all : ∀ (q : List Int) (f k : Nat), q.all okPt = true → (encAll q).length ≤ f → pts f (encAll q) = q ∧ err f (encAll q) k = none
  | [], f, k, _, _ => by simp [encAll, pts_nil, err_nil]
  | p :: q, f, k, h, hf => by
    simp only [List.all_cons, Bool.and_eq_true] at h
    have e : encAll (p :: q) = enc p ++ encAll q := by simp [encAll]
    have hl := enc_len p
    rw [e] at hf ⊢
    rw [List.length_append] at hf
    obtain ⟨f', rfl⟩ : ∃ f', f = f' + 1 := ⟨f - 1, by omega⟩
    have hd := dec_enc p (encAll q) h.1
    have hne : enc p ++ encAll q ≠ [] := fun h => by have := congrArg List.length h; simp at this; rw [this.1] at hl; simp at hl
    have hz : fsize (enc p ++ encAll q) ≠ 0 := by rw [hd.1]; omega
    have ih := dec_all q f' (k + fsize (enc p ++ encAll q)) h.2 (by omega)
    rw [pts_go hne hz, err_go hne hz, hd.1, hd.2, List.drop_left]
    rw [hd.1] at ih
    exact ⟨by rw [ih.1], ih.2⟩
theorem text_back {q : List Int} (h : q.all okPt = true) : decR (encR q).1 = (q, 0, 0) := by
  rw [encR_ok q h]
  have := dec_all q (encAll q).length 0 h (Nat.le_refl _)
  rw [decR_ok this.2, this.1]
theorem width_back {q : List Int} (h : q.all okPt = true) : widthR (encR q).1 = (q.length : Int) := by
  unfold widthR; rw [text_back h]; simp

theorem lv_goes {s : List Int} {n : Nat} (h0 : 0 ≤ lv s n) (j : Nat) (h1 : 1 ≤ j) (hj : j < n) : goesOn s j := by
  have all : ∀ j, 1 ≤ j → j < n → (∀ i, 1 ≤ i → i < j → goesOn s i) → goesOn s j := by
    intro j h1 hj hlo
    apply Classical.byContradiction
    intro hg
    have := lv_cut (n := n) j h1 hj hlo hg
    omega
  induction j using Nat.strongRecOn with
  | _ j ih => exact all j h1 hj (fun i hi1 hi2 => ih i hi2 hi1 (by omega))
theorem lv_lead0 {s : List Int} {n : Nat} (h0 : 0 ≤ lv s n) : n ≤ s.length ∧ 0 ≤ lead n (s[0]?.getD 0) := by
  unfold lv at h0
  split at h0
  · omega
  · split at h0
    · omega
    · omega
theorem take_two (s : List Int) (h : 2 ≤ s.length) : s.take 2 = [s[0]?.getD 0, s[1]?.getD 0] := by
  rw [take_snoc s 1 (by omega), take_snoc s 0 (by omega)]; simp
theorem take_three (s : List Int) (h : 3 ≤ s.length) : s.take 3 = [s[0]?.getD 0, s[1]?.getD 0, s[2]?.getD 0] := by
  rw [take_snoc s 2 (by omega), take_two s (by omega)]; simp
theorem take_four (s : List Int) (h : 4 ≤ s.length) : s.take 4 = [s[0]?.getD 0, s[1]?.getD 0, s[2]?.getD 0, s[3]?.getD 0] := by
  rw [take_snoc s 3 (by omega), take_three s (by omega)]; simp

theorem enc_lv {s : List Int} {n : Nat} (hby : Bys s) (h1 : 1 ≤ n) (h4 : n ≤ 4) (h : hit s n = true) : enc (lv s n) = s.take n ∧ okPt (lv s n) = true := by
  have h0 := hit_pos h
  have hnd : need (lv s n) = n := by
    simp only [hit, Bool.and_eq_true, beq_iff_eq] at h; exact h.2
  have hok : okPt (lv s n) = true := by
    cases ho : okPt (lv s n)
    · have : need (lv s n) = 0 := by simp [need, ho]
      omega
    · rfl
  refine ⟨?_, hok⟩
  obtain ⟨hl, hle⟩ := lv_lead0 h0
  have b0 := hby.get 0
  have hgo := lv_goes h0
  by_cases e1 : n = 1
  · subst e1
    have hp := need_one hok hnd
    have hc : s[0]?.getD 0 < 128 := by
      apply Classical.byContradiction
      intro hh
      rw [lead_no 1 _ (by omega) (by omega) (by omega) (by omega)] at hle; omega
    have hv := (fs_one hl b0.1 hc).2
    rw [hv, enc1 _ hc]
    rw [take_snoc s 0 (by omega)]; simp
  · by_cases e2 : n = 2
    · subst e2
      have hp := need_two hok hnd
      have hc : s[0]?.getD 0 / 32 = 6 := by
        apply Classical.byContradiction
        intro hh
        rw [lead_no 2 _ (by omega) (by omega) (by omega) (by omega)] at hle; omega
      have g1 := hgo 1 (by omega) (by omega)
      have hv := lv2 hc g1
      have b1 := hby.get 1
      have d1 := g1.2
      rw [enc2 _ hp.1 hp.2, take_two s hl, hv]
      simp only [List.cons.injEq, and_true]
      omega
    · by_cases e3 : n = 3
      · subst e3
        have hp := need_three hok hnd
        have hc : s[0]?.getD 0 / 16 = 14 := by
          apply Classical.byContradiction
          intro hh
          rw [lead_no 3 _ (by omega) (by omega) (by omega) (by omega)] at hle; omega
        have g1 := hgo 1 (by omega) (by omega)
        have g2 := hgo 2 (by omega) (by omega)
        have hv := lv3 hc g1 g2
        have b1 := hby.get 1
        have b2 := hby.get 2
        have d1 := g1.2
        have d2 := g2.2
        rw [enc3 _ hp.1 hp.2, take_three s hl, hv]
        simp only [List.cons.injEq, and_true]
        omega
      · have e4 : n = 4 := by omega
        subst e4
        have hp := need_four hok hnd
        have hc : s[0]?.getD 0 / 8 = 30 := by
          apply Classical.byContradiction
          intro hh
          rw [lead_no 4 _ (by omega) (by omega) (by omega) (by omega)] at hle; omega
        have g1 := hgo 1 (by omega) (by omega)
        have g2 := hgo 2 (by omega) (by omega)
        have g3 := hgo 3 (by omega) (by omega)
        have hv := lv4 hc g1 g2 g3
        have b1 := hby.get 1
        have b2 := hby.get 2
        have b3 := hby.get 3
        have d1 := g1.2
        have d2 := g2.2
        have d3 := g3.2
        rw [enc4 _ hp, take_four s hl, hv]
        simp only [List.cons.injEq, and_true]
        omega
theorem fsize_hit {s : List Int} (h : fsize s ≠ 0) : hit s (fsize s) = true := by
  unfold fsize at h ⊢
  split
  · assumption
  · split
    · assumption
    · split
      · assumption
      · split
        · assumption
        · simp_all
theorem enc_all (f : Nat) : ∀ (s : List Int) (k : Nat), Bys s → s.length ≤ f → err f s k = none → encAll (pts f s) = s ∧ (pts f s).all okPt = true := by
  induction f with
  | zero =>
    intro s k _ hl _
    have : s = [] := List.eq_nil_of_length_eq_zero (by omega)
    subst this; simp [pts, encAll]
  | succ f ih =>
    intro s k hby hl he
    by_cases hs : s = []
    · subst hs; simp [pts_nil, encAll]
    · by_cases hf : fsize s = 0
      · rw [err_bad hs hf] at he; cases he
      · rw [err_go hs hf] at he
        rw [pts_go hs hf]
        have h4 := fsize_four s
        have hh := enc_lv hby (by omega) h4 (fsize_hit hf)
        have hi := ih (s.drop (fsize s)) (k + fsize s) (fun z hz => hby z (List.mem_of_mem_drop hz)) (by rw [List.length_drop]; omega) he
        have e : encAll (lv s (fsize s) :: pts f (s.drop (fsize s))) = enc (lv s (fsize s)) ++ encAll (pts f (s.drop (fsize s))) := by simp [encAll]
        rw [e, hh.1, hi.1, List.take_append_drop]
        exact ⟨rfl, by simp [hh.2, hi.2]⟩
theorem bytes_back {c : List Int} (hby : Bys c) (h : (decR c).2.1 = 0) : encR (decR c).1 = (c, 0) := by
  cases he : err c.length c 0 with
  | none =>
    rw [decR_ok he]
    have := enc_all c.length c 0 hby (Nat.le_refl _) he
    rw [encR_ok _ this.2, this.1]
  | some k => rw [decR_bad he] at h; simp at h
theorem width_bad {c : List Int} (h : (decR c).2.1 ≠ 0) : widthR c = -1 := by unfold widthR; rw [if_neg h]

end Go.Proofs.YtalkhnhhaiigiaaGreatDoor

namespace Go.Proofs.YtalkhnhhaiigiaaGreatDoor
open Go.RowKit

/-! The model's comments and the program's are the same; so are the trees. -/

theorem se_cons (a b : Int) (l : List Int) : hasSE (a :: b :: l) = ((decide (a = 42) && decide (b = 47)) || hasSE (b :: l)) := rfl
theorem se_nil : hasSE [] = false := rfl
theorem se_one (a : Int) : hasSE [a] = false := rfl
theorem se_at : ∀ (l : List Int), hasSE l = true ↔ ∃ i, i + 1 < l.length ∧ l[i]?.getD 0 = 42 ∧ l[i + 1]?.getD 0 = 47
  | [] => by simp [se_nil]
  | [a] => by simp [se_one]
  | a :: b :: l => by
    rw [se_cons, Bool.or_eq_true, se_at (b :: l), Bool.and_eq_true, decide_eq_true_eq, decide_eq_true_eq]
    constructor
    · rintro (⟨h1, h2⟩ | ⟨i, h1, h2, h3⟩)
      · exact ⟨0, by simp, by simpa using h1, by simpa using h2⟩
      · exact ⟨i + 1, by simpa using h1, by simpa using h2, by simpa using h3⟩
    · rintro ⟨i, h1, h2, h3⟩
      cases i with
      | zero => exact .inl ⟨by simpa using h2, by simpa using h3⟩
      | succ i => exact .inr ⟨i, by simpa using h1, by simpa using h2, by simpa using h3⟩
theorem se_skip (r : List Int) : ∀ (l : List Int), (∀ x ∈ l, 128 ≤ x) → hasSE (l ++ r) = hasSE r
  | [], _ => rfl
  | a :: l, h => by
    have ih := se_skip r l (fun x hx => h x (by simp [hx]))
    have ha := h a (by simp)
    rw [List.cons_append]
    cases hl : l ++ r with
    | nil =>
      rw [List.append_eq_nil_iff] at hl
      rw [hl.2]; rfl
    | cons b m =>
      rw [se_cons, ← hl, ih, decide_eq_false (by omega)]; rfl
theorem enc_big (p : Int) (h : 128 ≤ p) (h2 : p ≤ 1114111) : ∀ x ∈ enc p, 128 ≤ x := by
  by_cases a : p < 2048
  · rw [enc2 p (by omega) a]
    intro x hx
    simp only [List.mem_cons, List.not_mem_nil, or_false] at hx
    rcases hx with rfl | rfl <;> omega
  · by_cases b : p < 65536
    · rw [enc3 p a b]
      intro x hx
      simp only [List.mem_cons, List.not_mem_nil, or_false] at hx
      rcases hx with rfl | rfl | rfl <;> omega
    · rw [enc4 p b]
      intro x hx
      simp only [List.mem_cons, List.not_mem_nil, or_false] at hx
      rcases hx with rfl | rfl | rfl | rfl <;> omega
theorem enc_head (p : Int) (h0 : 0 ≤ p) (h2 : p ≤ 1114111) : ∃ x l, enc p = x :: l ∧ (x = 47 ↔ p = 47) := by
  by_cases a : p < 128
  · exact ⟨p, [], enc1 p a, Iff.rfl⟩
  · have hb := enc_big p (by omega) h2
    cases he : enc p with
    | nil => have := enc_len p; rw [he] at this; simp at this
    | cons x l =>
      rw [he] at hb
      have := hb x (by simp)
      exact ⟨x, l, rfl, by omega⟩
theorem se_enc : ∀ (ps : List Int), ps.all okPt = true → hasSE (encAll ps) = hasSE ps
  | [], _ => rfl
  | p :: ps, h => by
    simp only [List.all_cons, Bool.and_eq_true] at h
    have ih := se_enc ps h.2
    have e : encAll (p :: ps) = enc p ++ encAll ps := by simp [encAll]
    obtain ⟨⟨p0, p1⟩, _⟩ := ok_bd h.1
    rw [e]
    by_cases a : p < 128
    · rw [enc1 p a]
      cases ps with
      | nil => rfl
      | cons q qs =>
        simp only [List.all_cons, Bool.and_eq_true] at h
        obtain ⟨⟨q0, q1⟩, _⟩ := ok_bd h.2.1
        obtain ⟨x, l, hx, hq⟩ := enc_head q q0 q1
        have e2 : encAll (q :: qs) = x :: (l ++ encAll qs) := by
          have : encAll (q :: qs) = enc q ++ encAll qs := by simp [encAll]
          rw [this, hx]; rfl
        rw [e2] at ih ⊢
        rw [List.singleton_append, se_cons, se_cons, ih]
        congr 2
        exact decide_eq_decide.2 hq
    · rw [se_skip _ _ (enc_big p (by omega) p1), ih]
      cases ps with
      | nil => rfl
      | cons q qs => rw [se_cons, decide_eq_false (show ¬ p = 42 by omega)]; rfl

theorem cAt_all (b : Bool) (ps : List Int) (hno : ∀ p ∈ ps, p ≠ -1) : (List.range ps.length).all (cAt b ps) = (ps.all (okP b) && (!b || !hasSE ps)) := by
  rw [Bool.eq_iff_iff, Bool.and_eq_true, List.all_eq_true, List.all_eq_true]
  have hget : ∀ i, i < ps.length → ps[i]?.getD 0 ∈ ps := fun i hi => by rw [List.getElem?_eq_getElem hi]; simp
  constructor
  · intro h
    refine ⟨fun p hp => ?_, ?_⟩
    · obtain ⟨i, hi, rfl⟩ := List.getElem_of_mem hp
      have h1 := h i (by simpa using hi)
      have hn := hno _ hp
      unfold cAt at h1
      rw [List.getElem?_eq_getElem hi, Bool.and_eq_true] at h1
      have h2 := h1.1
      unfold okP
      simp only [Option.getD_some] at h2
      rw [decide_eq_false hn]
      generalize lnE ps[i] = L at *
      generalize decide (ps[i] = 10) = D at *
      revert h2
      cases L <;> cases D <;> cases b <;> decide
    · cases b with
      | false => rfl
      | true =>
        cases hs : hasSE ps with
        | false => rfl
        | true =>
          obtain ⟨i, h1, h2, h3⟩ := (se_at ps).1 hs
          have h4 := h (i + 1) (by simpa using h1)
          unfold cAt at h4
          rw [Nat.add_sub_cancel, h2, h3] at h4
          simp at h4
  · rintro ⟨h1, h2⟩ i hi
    have hi' : i < ps.length := by simpa using hi
    have h3 := h1 _ (hget i hi')
    unfold cAt
    rw [Bool.and_eq_true]
    constructor
    · unfold okP at h3
      generalize lnE (ps[i]?.getD 0) = L at *
      generalize decide (ps[i]?.getD 0 = 10) = D at *
      generalize decide (ps[i]?.getD 0 = -1) = E at *
      revert h3
      cases L <;> cases D <;> cases E <;> cases b <;> decide
    · cases b with
      | false => rfl
      | true =>
        rw [Bool.true_and, Bool.not_eq_true']
        apply eq_false_of_ne_true
        intro hc
        simp only [Bool.and_eq_true, decide_eq_true_eq] at hc
        have : hasSE ps = true := (se_at ps).2 ⟨i - 1, by omega, hc.2.2, by rw [show i - 1 + 1 = i by omega]; exact hc.2.1⟩
        rw [this] at h2
        simp at h2

theorem com_eq (c : Cm) (hb : Bys c.t) : comS c = comI c := by
  unfold comS comI
  by_cases h : ∃ x ∈ seqR c.t, x.2 = -1
  · obtain ⟨x, hx, h1⟩ := h
    obtain ⟨q, r, hq⟩ := List.append_of_mem hx
    have hd : decR c.t = ([], 2, x.1) := decR_stop (q := q) (x := x) ⟨r, by rw [hq]; simp⟩ h1
    have ha : (seqR c.t).all (fun x => okP c.b x.2) = false := by
      rw [List.all_eq_false]
      exact ⟨x, hx, by unfold okP; rw [h1]; simp⟩
    rw [ha, hd]; rfl
  · have hno : ∀ x ∈ seqR c.t, x.2 ≠ -1 := fun x hx e => h ⟨x, hx, e⟩
    have hd := decR_done hno
    have hz : (decR c.t).2.1 = 0 := by rw [hd]
    have hbk := bytes_back hb hz
    have hall : ((seqR c.t).map (·.2)).all okPt = true := by
      rw [hd] at hbk
      apply Classical.byContradiction
      intro hn
      unfold encR at hbk
      rw [if_neg hn] at hbk
      have h2 := congrArg Prod.snd hbk
      simp at h2
    have henc : encAll ((seqR c.t).map (·.2)) = c.t := by
      rw [hd] at hbk
      unfold encR at hbk
      rw [if_pos hall] at hbk
      exact (Prod.mk.inj hbk).1
    rw [hd]
    simp only [decide_true, Bool.true_and]
    rw [cAt_all c.b _ (fun p hp => by obtain ⟨x, hx, rfl⟩ := List.mem_map.1 hp; exact hno x hx)]
    rw [← se_enc _ hall, henc, List.all_map]
    rfl

theorem all_com (cs : List Cm) (h : CsOk cs) : cs.all comS = cs.all comI := by
  rw [Bool.eq_iff_iff, List.all_eq_true, List.all_eq_true]
  exact ⟨fun a x hx => by rw [← com_eq x (h x hx).2]; exact a x hx, fun a x hx => by rw [com_eq x (h x hx).2]; exact a x hx⟩
theorem node_eq (n : Nod) (h : NdOk n) : NodeOK comS numS n ↔ NodeOK comI numI n := by
  unfold NodeOK
  rw [all_com _ h.l.2, all_com _ h.t.2, num_eq]

theorem place_len (n : Nat) (r : Option (List Nod)) (h : ∀ R, r = some R → R.length ≤ n) : placeOf n r = (n : Int) ↔ r = some [] := by
  cases r with
  | none => simp only [placeOf]; constructor <;> intro h <;> first | (exfalso; omega) | cases h
  | some R =>
    have hR := h R rfl
    simp only [placeOf, Option.some.injEq]
    constructor
    · intro h; exact List.eq_nil_of_length_eq_zero (by omega)
    · rintro rfl; simp

theorem validS_eq (t : Tre) (ho : TreOk t) : validS t = validI t := by
  have hend : ∀ R, endL t.nodes.length 201 false t.nodes = some R → R.length ≤ t.nodes.length := fun R hR => by
    obtain ⟨i, hi, rfl⟩ := end_suffix t.nodes.length 201 false t.nodes (Nat.le_refl _) 0 R (by simpa using hR)
    simp
  have hv := valid_tree comI numI t.nodes t.tail
  have hI : validI t = true ↔ t.nodes.length ≤ 4000 ∧ ∃ s x, walkL (chkP comI numI) 201 false (t.nodes, (4000, 100000)) = some ([], s) ∧ comP comI t.tail s = some x := by
    unfold validI
    rw [Bool.and_eq_true, decide_eq_true_eq]
    refine and_congr Iff.rfl ?_
    cases hw : walkL (chkP comI numI) 201 false (t.nodes, (4000, 100000)) with
    | none => simp
    | some y =>
      obtain ⟨R, s⟩ := y
      cases R with
      | cons n R => simp
      | nil =>
        simp only [Option.isSome_iff_exists, Option.some.injEq, Prod.mk.injEq, true_and]
        constructor
        · rintro ⟨x, hx⟩; exact ⟨s, x, rfl, hx⟩
        · rintro ⟨s', x, rfl, hx⟩; exact ⟨x, hx⟩
  have hall : t.nodes.all nodeB = true ↔ ∀ n ∈ t.nodes, NodeOK comI numI n := by
    rw [List.all_eq_true]
    exact ⟨fun h n hn => (node_eq n (ho.n n hn).1).1 ((nodeB_is n).1 (h n hn)), fun h n hn => (nodeB_is n).2 ((node_eq n (ho.n n hn).1).2 (h n hn))⟩
  rw [Bool.eq_iff_iff, hI, hv]
  unfold validS
  simp only [Bool.and_eq_true, decide_eq_true_eq]
  rw [hall, all_com _ ho.t.2, place_len _ _ hend]
  constructor
  · rintro ⟨a, b, ⟨c, d⟩, e, f, g⟩; exact ⟨b, c, d, e, f, g⟩
  · rintro ⟨b, c, d, e, f, g⟩
    refine ⟨?_, b, ⟨c, d⟩, e, f, g⟩
    cases hn : t.nodes with
    | nil => rw [hn] at g; simp [endL] at g
    | cons n R => simp
end Go.Proofs.YtalkhnhhaiigiaaGreatDoor

namespace Go.Proofs.YtalkhnhhaiigiaaGreatDoor
open Go.RowKit

set_option maxHeartbeats 4000000 in
set_option maxRecDepth 100000 in
theorem eqNodeS_same (va vb : Value) (ns : List Nod) (w : World) (ha : RdN w.heap.size w va ns) (hb : RdN w.heap.size w vb ns) (hn : ns.length ≤ 1048576) (ht : ∀ p ∈ ns, NOk p) :
    Calls Tryz.prog 25 #[va, vb] w fun e w' => e = .returned (.bool true) ∧ w.grownBy w' none := by
  have hnot : ∀ (x : Bool) (w : World), (Op.unary .not (.bool x)).run Tryz.prog w = .ok (.bool (!x)) w := fun _ _ => rfl
  obtain ⟨a1, cap1, hva, _⟩ := id ha
  obtain ⟨a2, cap2, hvb, _⟩ := id hb
  have hll : ((ns.length : Int) != (ns.length : Int)) = false := by simp
  subst hva hvb
  go_enter Tryz.func25, Tryz.ntmps25
  go_wp2
  go_loopw [5] (fun i wr => ∃ k : Nat, k ≤ ns.length ∧ i = .int .i64 k ∧ w.grownBy wr none) (fun i _ => ns.length - (intOf i).toNat)
  case atStart => exact ⟨0, Nat.zero_le _, rfl, World.grownBy.refl _ _⟩
  case round =>
    obtain ⟨k, hk, rfl, hgr⟩ := hrel
    by_cases hlt : k < ns.length
    · obtain ⟨b1, off1, cap1', l1, k1, x1, u1, t1, hva1, hb1, hp1⟩ := (ha.keep hgr).at k hlt
      obtain ⟨b2, off2, cap2', l2, k2, x2, u2, t2, hva2, hb2, hp2⟩ := (hb.keep hgr).at k hlt
      cases hva1
      cases hva2
      have z0 := hp1.k; have z1 := hp1.lead; have z2 := hp1.mem; have z3 := hp1.key; have z4 := hp1.text; have z5 := hp1.units; have z6 := hp1.cnt; have z7 := hp1.tail
      have y0 := hp2.k; have y1 := hp2.lead; have y2 := hp2.mem; have y3 := hp2.key; have y4 := hp2.text; have y5 := hp2.units; have y6 := hp2.cnt; have y7 := hp2.tail
      have hpt := ht _ (List.getElem_mem hlt)
      have hgs := hgr.size
      have HR := hide (fun W (hW : wr.grownBy W none) => eqNode_same ns[k] l1 k1 x1 u1 t1 l2 k2 x2 u2 t2 W ((hp1.rd.keep hW).wide (Nat.le_trans hgs hW.size)) ((hp2.rd.keep hW).wide (Nat.le_trans hgs hW.size)) hpt)
      obtain ⟨la, lcap, hlv, _, _⟩ := hp1.rl.sl
      obtain ⟨ta, tcap, htv, _, _⟩ := hp1.rt.sl
      obtain ⟨ka, kcap, hkv, _, _⟩ := hp1.sk
      obtain ⟨xa, xcap, hxv, _, _⟩ := hp1.sx
      obtain ⟨ua, ucap, huv, _, _⟩ := hp1.su
      obtain ⟨la', lcap', hlv', _, _⟩ := hp2.rl.sl
      obtain ⟨ta', tcap', htv', _, _⟩ := hp2.rt.sl
      obtain ⟨ka', kcap', hkv', _, _⟩ := hp2.sk
      obtain ⟨xa', xcap', hxv', _, _⟩ := hp2.sx
      obtain ⟨ua', ucap', huv', _, _⟩ := hp2.su
      have HG : Hid (w.grownBy wr none) := hgr
      subst hlv htv hkv hxv huv hlv' htv' hkv' hxv' huv'
      clear ha hb hp1 hp2 ht hgr hpt
      generalize ns[k] = p at *
      have HD : Hid (wr.grownBy wr.drew none) := ⟨rfl, rfl, rfl, Nat.le_refl _, fun _ _ _ => rfl⟩
      have HC := hide (HR.out wr.drew HD.out)
      clear HR
      go_wp2
      go_region_with (go_at_call 55; refine HC.out.mono ?_; rintro e w1 ⟨rfl, g1⟩)
      all_goals
        go_wp2
        go_roundw
        case rel => exact ⟨k + 1, by omega, by go_num, grown_trans (grown_trans HG.out HD.out) g1⟩
        case measure => simp [intOf]; omega
    · go_wp2
      go_ret
      exact ⟨rfl, hgr⟩

set_option maxHeartbeats 1000000 in
set_option maxRecDepth 100000 in
theorem eqTree_same (nv tv nv' tv' : Value) (t : Tre) (w : World) (h : RdT' w.heap.size w nv tv t) (h' : RdT' w.heap.size w nv' tv' t) (hn : t.nodes.length ≤ 1048576) (hns : ∀ p ∈ t.nodes, NOk p) (ht : t.tail.length ≤ 1048576) (hts : ∀ c ∈ t.tail, c.t.length ≤ 1048576) :
    Calls Tryz.prog 9 #[.agg #[nv, tv], .agg #[nv', tv']] w fun e w' => e = .returned (.bool true) ∧ w.grownBy w' none := by
  have hnot : ∀ (x : Bool) (w : World), (Op.unary .not (.bool x)).run Tryz.prog w = .ok (.bool (!x)) w := fun _ _ => rfl
  have gA : w.grownBy ((w.alloc (.cells #[nv, tv] 33)).alloc (.cells #[nv', tv'] 33)) none := grown_trans (World.grownBy_alloc _ _ _) (World.grownBy_alloc _ _ _)
  obtain ⟨na, ncap, hnv, _, _, _⟩ := id h.1
  obtain ⟨ta, tcap, htv, _, _⟩ := h.2.sl
  obtain ⟨na', ncap', hnv', _, _, _⟩ := id h'.1
  obtain ⟨ta', tcap', htv', _, _⟩ := h'.2.sl
  have HN := hide (eqNodeS_same nv nv' t.nodes _ ((h.1.keep gA).wide gA.size) ((h'.1.keep gA).wide gA.size) hn hns)
  have HT := hide (fun W (hW : w.grownBy W none) => eqCommentS_same tv tv' t.tail W ((h.2.keep hW).wide hW.size) ((h'.2.keep hW).wide hW.size) ht hts)
  have HG := hide gA
  subst hnv htv hnv' htv'
  clear h h' gA
  go_enter Tryz.func9, Tryz.ntmps9
  go_wp2_with fail
  refine HN.out.mono ?_
  rintro e w1 ⟨rfl, g1⟩
  have z1 := g1.cell (a := ⟨w.heap.size, 1, none⟩) (v := .slice ta t.tail.length tcap) (by simp [go_sem]) (by simp)
  have y1 := g1.cell (a := ⟨w.heap.size + 1, 1, none⟩) (v := .slice ta' t.tail.length tcap') (by simp [go_sem]) (by simp)
  go_wp2_with fail
  refine (HT.out _ (grown_trans HG.out g1)).mono ?_
  rintro e w2 ⟨rfl, g2⟩
  go_wp2
  go_ret
  exact ⟨rfl, grown_trans HG.out (grown_trans g1 g2)⟩

end Go.Proofs.YtalkhnhhaiigiaaGreatDoor

