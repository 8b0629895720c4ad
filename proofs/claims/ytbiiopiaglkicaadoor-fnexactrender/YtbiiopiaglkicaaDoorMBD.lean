import Derived.Test.YtbiiopiaglkicaaDoorMAG
import Derived.Test.YtbiiopiaglkicaaDoorMAZ
import Derived.Test.YtbiiopiaglkicaaDoorMBB
import Derived.Test.YtbiiopiaglkicaaDoorMBC
namespace Go.Proofs.YtbiiopiaglkicaaDoor
open Go.RowKit

theorem fs_one {s : List Int} (hl : 1 ≤ s.length) (h0 : (0 : Int) ≤ s[0]?.getD 0) (hc : s[0]?.getD 0 < 128) : fsize s = 1 ∧ lv s 1 = s[0]?.getD 0 := by
  have hlv : lv s 1 = s[0]?.getD 0 := by
    rw [lv_fold hl (by rw [lead_one _ hc]; omega), lead_one _ hc]; rfl
  have hok : okPt (s[0]?.getD 0) = true := by simp [okPt]; omega
  have hneed : need (s[0]?.getD 0) = 1 := by unfold need; rw [if_pos hok, if_pos hc]
  have hhit : hit s 1 = true := (hit_val hlv h0).2 hneed
  refine ⟨?_, hlv⟩
  rw [fsize_only (n := 1) (by omega) (by omega) (fun m h1 h4 hne => hit_lead (lead_cls1 h0 hc m h1 h4 hne)), if_pos hhit]
theorem fs_two {s : List Int} {y : Int} (hc : s[0]?.getD 0 / 32 = 6) (g1 : goesOn s 1) (hy : y = s[0]?.getD 0 % 32 * 64 + s[1]?.getD 0 % 64) (h0 : 0 ≤ y) (hn : need y = 2) : fsize s = 2 ∧ lv s 2 = y := by
  have hlv : lv s 2 = y := by rw [hy]; exact lv2 hc g1
  have hhit : hit s 2 = true := (hit_val hlv h0).2 hn
  refine ⟨?_, hlv⟩
  rw [fsize_only (n := 2) (by omega) (by omega) (fun m h1 h4 hne => hit_lead (lead_cls2 hc m h1 h4 hne)), if_pos hhit]
theorem fs_three {s : List Int} {y : Int} (hc : s[0]?.getD 0 / 16 = 14) (g1 : goesOn s 1) (g2 : goesOn s 2) (hy : y = (s[0]?.getD 0 % 16 * 64 + s[1]?.getD 0 % 64) * 64 + s[2]?.getD 0 % 64) (h0 : 0 ≤ y) (hn : need y = 3) : fsize s = 3 ∧ lv s 3 = y := by
  have hlv : lv s 3 = y := by rw [hy]; exact lv3 hc g1 g2
  have hhit : hit s 3 = true := (hit_val hlv h0).2 hn
  refine ⟨?_, hlv⟩
  rw [fsize_only (n := 3) (by omega) (by omega) (fun m h1 h4 hne => hit_lead (lead_cls3 hc m h1 h4 hne)), if_pos hhit]
theorem fs_four {s : List Int} {y : Int} (hc : s[0]?.getD 0 / 8 = 30) (g1 : goesOn s 1) (g2 : goesOn s 2) (g3 : goesOn s 3)
    (hy : y = ((s[0]?.getD 0 % 8 * 64 + s[1]?.getD 0 % 64) * 64 + s[2]?.getD 0 % 64) * 64 + s[3]?.getD 0 % 64) (h0 : 0 ≤ y) (hn : need y = 4) : fsize s = 4 ∧ lv s 4 = y := by
  have hlv : lv s 4 = y := by rw [hy]; exact lv4 hc g1 g2 g3
  have hhit : hit s 4 = true := (hit_val hlv h0).2 hn
  refine ⟨?_, hlv⟩
  rw [fsize_only (n := 4) (by omega) (by omega) (fun m h1 h4 hne => hit_lead (lead_cls4 hc m h1 h4 hne)), if_pos hhit]

theorem dec_enc (p : Int) (r : List Int) (h : okPt p = true) : fsize (enc p ++ r) = (enc p).length ∧ lv (enc p ++ r) (enc p).length = p := by
  obtain ⟨⟨h0, h1⟩, h2⟩ := ok_bd h
  have hg := need_ge p h
  by_cases e1 : need p = 1
  · have hp := need_one h e1
    rw [enc1 p hp]
    have := fs_one (s := [p] ++ r) (by simp) (by simpa using h0) (by simpa using hp)
    simpa using this
  · by_cases e2 : need p = 2
    · have hp := need_two h e2
      rw [enc2 p hp.1 hp.2]
      refine fs_two (by simp; omega) ⟨by simp, by simp; omega⟩ (by simp; omega) h0 e2
    · by_cases e3 : need p = 3
      · have hp := need_three h e3
        rw [enc3 p hp.1 hp.2]
        refine fs_three (by simp; omega) ⟨by simp, by simp; omega⟩ ⟨by simp, by simp; omega⟩ (by simp; omega) h0 e3
      · have e4 : need p = 4 := by omega
        have hp := need_four h e4
        rw [enc4 p hp]
        refine fs_four (by simp; omega) ⟨by simp, by simp; omega⟩ ⟨by simp, by simp; omega⟩ ⟨by simp, by simp; omega⟩ (by simp; omega) h0 e4

theorem dec_all : ∀ (q : List Int) (f k : Nat), q.all okPt = true → (encAll q).length ≤ f → pts f (encAll q) = q ∧ err f (encAll q) k = none
  | [], f, k, _, _ => by simp [encAll, pts_nil, err_nil]
  | p :: q, f, k, h, hf => by
    simp only [List.all_cons, Bool.and_eq_true] at h
    have e : encAll (p :: q) = enc p ++ encAll q := by simp [encAll]
    have hl := enc_len p
    rw [e] at hf ⊢
    rw [List.length_append] at hf
    obtain ⟨f', rfl⟩ : ∃ f', f = f' + 1 := ⟨f - 1, by omega⟩
    have hd := dec_enc p (encAll q) h.1
    have hne : enc p ++ encAll q ≠ [] := fun h => by have := congrArg List.length h; simp at this; rw [this.1] at hl; simp at hl
    have hz : fsize (enc p ++ encAll q) ≠ 0 := by rw [hd.1]; omega
    have ih := dec_all q f' (k + fsize (enc p ++ encAll q)) h.2 (by omega)
    rw [pts_go hne hz, err_go hne hz, hd.1, hd.2, List.drop_left]
    rw [hd.1] at ih
    exact ⟨by rw [ih.1], ih.2⟩
theorem text_back {q : List Int} (h : q.all okPt = true) : decR (encR q).1 = (q, 0, 0) := by
  rw [encR_ok q h]
  have := dec_all q (encAll q).length 0 h (Nat.le_refl _)
  rw [decR_ok this.2, this.1]
theorem width_back {q : List Int} (h : q.all okPt = true) : widthR (encR q).1 = (q.length : Int) := by
  unfold widthR; rw [text_back h]; simp

theorem lv_goes {s : List Int} {n : Nat} (h0 : 0 ≤ lv s n) (j : Nat) (h1 : 1 ≤ j) (hj : j < n) : goesOn s j := by
  have all : ∀ j, 1 ≤ j → j < n → (∀ i, 1 ≤ i → i < j → goesOn s i) → goesOn s j := by
    intro j h1 hj hlo
    apply Classical.byContradiction
    intro hg
    have := lv_cut (n := n) j h1 hj hlo hg
    omega
  induction j using Nat.strongRecOn with
  | _ j ih => exact all j h1 hj (fun i hi1 hi2 => ih i hi2 hi1 (by omega))
theorem lv_lead0 {s : List Int} {n : Nat} (h0 : 0 ≤ lv s n) : n ≤ s.length ∧ 0 ≤ lead n (s[0]?.getD 0) := by
  unfold lv at h0
  split at h0
  · omega
  · split at h0
    · omega
    · omega
theorem take_two (s : List Int) (h : 2 ≤ s.length) : s.take 2 = [s[0]?.getD 0, s[1]?.getD 0] := by
  rw [take_snoc s 1 (by omega), take_snoc s 0 (by omega)]; simp
theorem take_three (s : List Int) (h : 3 ≤ s.length) : s.take 3 = [s[0]?.getD 0, s[1]?.getD 0, s[2]?.getD 0] := by
  rw [take_snoc s 2 (by omega), take_two s (by omega)]; simp
theorem take_four (s : List Int) (h : 4 ≤ s.length) : s.take 4 = [s[0]?.getD 0, s[1]?.getD 0, s[2]?.getD 0, s[3]?.getD 0] := by
  rw [take_snoc s 3 (by omega), take_three s (by omega)]; simp

theorem enc_lv {s : List Int} {n : Nat} (hby : Bys s) (h1 : 1 ≤ n) (h4 : n ≤ 4) (h : hit s n = true) : enc (lv s n) = s.take n ∧ okPt (lv s n) = true := by
  have h0 := hit_pos h
  have hnd : need (lv s n) = n := by
    simp only [hit, Bool.and_eq_true, beq_iff_eq] at h; exact h.2
  have hok : okPt (lv s n) = true := by
    cases ho : okPt (lv s n)
    · have : need (lv s n) = 0 := by simp [need, ho]
      omega
    · rfl
  refine ⟨?_, hok⟩
  obtain ⟨hl, hle⟩ := lv_lead0 h0
  have b0 := hby.get 0
  have hgo := lv_goes h0
  by_cases e1 : n = 1
  · subst e1
    have hp := need_one hok hnd
    have hc : s[0]?.getD 0 < 128 := by
      apply Classical.byContradiction
      intro hh
      rw [lead_no 1 _ (by omega) (by omega) (by omega) (by omega)] at hle; omega
    have hv := (fs_one hl b0.1 hc).2
    rw [hv, enc1 _ hc]
    rw [take_snoc s 0 (by omega)]; simp
  · by_cases e2 : n = 2
    · subst e2
      have hp := need_two hok hnd
      have hc : s[0]?.getD 0 / 32 = 6 := by
        apply Classical.byContradiction
        intro hh
        rw [lead_no 2 _ (by omega) (by omega) (by omega) (by omega)] at hle; omega
      have g1 := hgo 1 (by omega) (by omega)
      have hv := lv2 hc g1
      have b1 := hby.get 1
      have d1 := g1.2
      rw [enc2 _ hp.1 hp.2, take_two s hl, hv]
      simp only [List.cons.injEq, and_true]
      omega
    · by_cases e3 : n = 3
      · subst e3
        have hp := need_three hok hnd
        have hc : s[0]?.getD 0 / 16 = 14 := by
          apply Classical.byContradiction
          intro hh
          rw [lead_no 3 _ (by omega) (by omega) (by omega) (by omega)] at hle; omega
        have g1 := hgo 1 (by omega) (by omega)
        have g2 := hgo 2 (by omega) (by omega)
        have hv := lv3 hc g1 g2
        have b1 := hby.get 1
        have b2 := hby.get 2
        have d1 := g1.2
        have d2 := g2.2
        rw [enc3 _ hp.1 hp.2, take_three s hl, hv]
        simp only [List.cons.injEq, and_true]
        omega
      · have e4 : n = 4 := by omega
        subst e4
        have hp := need_four hok hnd
        have hc : s[0]?.getD 0 / 8 = 30 := by
          apply Classical.byContradiction
          intro hh
          rw [lead_no 4 _ (by omega) (by omega) (by omega) (by omega)] at hle; omega
        have g1 := hgo 1 (by omega) (by omega)
        have g2 := hgo 2 (by omega) (by omega)
        have g3 := hgo 3 (by omega) (by omega)
        have hv := lv4 hc g1 g2 g3
        have b1 := hby.get 1
        have b2 := hby.get 2
        have b3 := hby.get 3
        have d1 := g1.2
        have d2 := g2.2
        have d3 := g3.2
        rw [enc4 _ hp, take_four s hl, hv]
        simp only [List.cons.injEq, and_true]
        omega
theorem fsize_hit {s : List Int} (h : fsize s ≠ 0) : hit s (fsize s) = true := by
  unfold fsize at h ⊢
  split
  · assumption
  · split
    · assumption
    · split
      · assumption
      · split
        · assumption
        · simp_all
theorem enc_all (f : Nat) : ∀ (s : List Int) (k : Nat), Bys s → s.length ≤ f → err f s k = none → encAll (pts f s) = s ∧ (pts f s).all okPt = true := by
  induction f with
  | zero =>
    intro s k _ hl _
    have : s = [] := List.eq_nil_of_length_eq_zero (by omega)
    subst this; simp [pts, encAll]
  | succ f ih =>
    intro s k hby hl he
    by_cases hs : s = []
    · subst hs; simp [pts_nil, encAll]
    · by_cases hf : fsize s = 0
      · rw [err_bad hs hf] at he; cases he
      · rw [err_go hs hf] at he
        rw [pts_go hs hf]
        have h4 := fsize_four s
        have hh := enc_lv hby (by omega) h4 (fsize_hit hf)
        have hi := ih (s.drop (fsize s)) (k + fsize s) (fun z hz => hby z (List.mem_of_mem_drop hz)) (by rw [List.length_drop]; omega) he
        have e : encAll (lv s (fsize s) :: pts f (s.drop (fsize s))) = enc (lv s (fsize s)) ++ encAll (pts f (s.drop (fsize s))) := by simp [encAll]
        rw [e, hh.1, hi.1, List.take_append_drop]
        exact ⟨rfl, by simp [hh.2, hi.2]⟩
theorem bytes_back {c : List Int} (hby : Bys c) (h : (decR c).2.1 = 0) : encR (decR c).1 = (c, 0) := by
  cases he : err c.length c 0 with
  | none =>
    rw [decR_ok he]
    have := enc_all c.length c 0 hby (Nat.le_refl _) he
    rw [encR_ok _ this.2, this.1]
  | some k => rw [decR_bad he] at h; simp at h
theorem width_bad {c : List Int} (h : (decR c).2.1 ≠ 0) : widthR c = -1 := by unfold widthR; rw [if_neg h]

end Go.Proofs.YtbiiopiaglkicaaDoor

namespace Go.Proofs.YtbiiopiaglkicaaDoor
open Go.RowKit

/-- The width of two texts, one behind the other. -/
theorem width_split {a : List Int} (hb : Bys a) (h : 0 ≤ widthR a) : ∃ q, q.all okPt = true ∧ a = encAll q ∧ widthR a = q.length := by
  have h0 : (decR a).2.1 = 0 := by
    apply Classical.byContradiction
    intro hn
    rw [width_bad hn] at h
    omega
  have hq := bytes_back hb h0
  have hw : widthR a = (decR a).1.length := by unfold widthR; rw [if_pos h0]
  by_cases hall : (decR a).1.all okPt = true
  · rw [encR_ok _ hall] at hq
    exact ⟨_, hall, (by simpa using congrArg Prod.fst hq.symm), hw⟩
  · rw [encR_bad _ (by simpa using hall)] at hq
    simp at hq
theorem width_add {a b : List Int} (ha : Bys a) (hb : Bys b) (h1 : 0 ≤ widthR a) (h2 : 0 ≤ widthR b) : widthR (a ++ b) = widthR a + widthR b := by
  obtain ⟨q, q1, q2, q3⟩ := width_split ha h1
  obtain ⟨r, r1, r2, r3⟩ := width_split hb h2
  have hall : (q ++ r).all okPt = true := by rw [List.all_append, q1, r1]; rfl
  have := width_back hall
  rw [encR_ok _ hall] at this
  simp only at this
  rw [show encAll (q ++ r) = a ++ b by rw [q2, r2]; simp [encAll]] at this
  rw [this, q3, r3]
  simp

/-- The kinds and texts of a tree that was read. -/
def KOk : Tr → Prop
  | .leaf p => (0 ≤ p.k ∧ p.k ≤ 5) ∧ (p.k = 1 → 0 ≤ widthR p.t ∧ Bys p.t)
  | .un p x => (p.k = 7 ∨ p.k = 8) ∧ KOk x
  | .bin p x y => (p.k = 6 ∨ p.k = 9) ∧ KOk x ∧ KOk y
theorem kok_seg {doc : List Pc} {st : List Int} (h1 : ∀ p ∈ doc, pcOK p = true) (h2 : ∀ p ∈ doc, Bys p.t) : ∀ {T : Tr} {a b : Nat}, Seg doc st T a b → KOk T
  | .leaf p, a, b, h => by
    obtain ⟨_, hp, har, _⟩ := h
    have hm := List.mem_of_getElem? hp
    have hk := (pcOK_iff p).1 (h1 p hm)
    refine ⟨⟨hk.1.1, ?_⟩, fun e => ⟨(hk.2.1 e).2, h2 p hm⟩⟩
    have := hk.1
    unfold ar at har
    repeat' split at har
    all_goals omega
  | .un p x, a, b, h => by
    obtain ⟨m, _, hp, har, _, hx⟩ := h
    refine ⟨?_, kok_seg h1 h2 hx⟩
    unfold ar at har
    repeat' split at har
    all_goals omega
  | .bin p x y, a, b, h => by
    obtain ⟨c, m, _, hp, har, _, hx, hy⟩ := h
    refine ⟨?_, kok_seg h1 h2 hx, kok_seg h1 h2 hy⟩
    unfold ar at har
    repeat' split at har
    all_goals omega

theorem flatT_acc : ∀ (T : Tr) (out : List Int), flatT T out = (flatT T []).map (out ++ ·)
  | .leaf p, out => by
    simp only [flatT]
    repeat' split
    all_goals simp
  | .un p x, out => by simp only [flatT]; exact flatT_acc x out
  | .bin p x y, out => by
    simp only [flatT]
    split
    · rw [flatT_acc x out]
      cases flatT x [] with
      | none => rfl
      | some o => simp only [Option.map_some, Option.bind_some]; rw [flatT_acc y (out ++ o), flatT_acc y o]; cases flatT y [] <;> simp
    · exact flatT_acc y out

theorem flat_w : ∀ (T : Tr), KOk T → (∀ text, flatT T [] = some text → flatW T = widthR text ∧ 0 ≤ flatW T ∧ Bys text) ∧ (flatT T [] = none → flatW T = -1)
  | .leaf p, h => by
    simp only [KOk] at h
    simp only [flatT, flatW]
    by_cases h1 : p.k = 1
    · have := h.2 h1
      simp only [h1]
      simp
      exact ⟨this.1, this.2⟩
    · by_cases h2 : p.k = 2
      · simp only [h2]
        simp
        refine ⟨by decide, fun z hz => by simp at hz; omega⟩
      · by_cases h03 : p.k = 0 ∨ p.k = 3
        · rw [if_pos h03, if_neg h1, if_neg h2, if_neg (by omega)]
          refine ⟨fun text e => ?_, by simp⟩
          cases e
          exact ⟨by decide, by omega, fun z hz => by simp at hz⟩
        · rw [if_neg h03, if_neg h1, if_neg h2, if_neg h1, if_neg h2, if_pos (by omega)]
          simp
  | .un p x, h => by
    simp only [KOk] at h
    simp only [flatT, flatW]
    exact flat_w x h.2
  | .bin p x y, h => by
    simp only [KOk] at h
    have hx := flat_w x h.2.1
    have hy := flat_w y h.2.2
    simp only [flatT, flatW]
    by_cases h6 : p.k = 6
    · rw [if_pos h6, if_pos h6]
      cases ex : flatT x [] with
      | none => simp [hx.2 ex]
      | some o =>
        have hxo := hx.1 o ex
        simp only [Option.bind_some]
        rw [flatT_acc y o]
        cases ey : flatT y [] with
        | none => simp [hy.2 ey]
        | some q =>
          have hyo := hy.1 q ey
          rw [if_neg (by omega)]
          refine ⟨fun text e => ?_, by simp⟩
          simp at e
          subst e
          refine ⟨?_, by omega, fun z hz => ?_⟩
          · rw [width_add hxo.2.2 hyo.2.2 (by omega) (by omega)]; omega
          · rcases List.mem_append.1 hz with hz | hz
            · exact hxo.2.2 z hz
            · exact hyo.2.2 z hz
    · rw [if_neg h6, if_neg h6]
      exact hy

def szP (its : List PT) : Nat := szs (its.map (·.T))
theorem szP_cons (t : PT) (r : List PT) : szP (t :: r) = sz t.T + szP r := rfl
theorem szP_pt (its : List Tk) : szP (its.map Tk.pt) = szS its := by unfold szP szS; rw [List.map_map]; rfl

theorem pm_fuel (d : Nat → Int → Bool) : ∀ (f f' : Nat) (its : List PT) (tx : List Int) (col : Int) (ch : List Int), szP its < f → szP its < f' → pm d f its tx col ch = pm d f' its tx col ch
  | 0, _, _, _, _, _, h, _ => by omega
  | _ + 1, 0, _, _, _, _, _, h => by omega
  | f + 1, f' + 1, [], _, _, _, _, _ => rfl
  | f + 1, f' + 1, ⟨.leaf p, n, ind, fl, bw, be⟩ :: r, tx, col, ch, h1, h2 => by
    rw [szP_cons] at h1 h2
    simp only [sz] at h1 h2
    have hr : ∀ a b c, pm d f r a b c = pm d f' r a b c := fun a b c => pm_fuel d f f' r a b c (by omega) (by omega)
    simp only [pm, hr]
  | f + 1, f' + 1, ⟨.un p x, n, ind, fl, bw, be⟩ :: r, tx, col, ch, h1, h2 => by
    rw [szP_cons] at h1 h2
    simp only [sz] at h1 h2
    have hr : ∀ i g e a b c, pm d f (⟨x, n, i, g, bw, e⟩ :: r) a b c = pm d f' (⟨x, n, i, g, bw, e⟩ :: r) a b c := fun i g e a b c => pm_fuel d f f' _ a b c (by rw [szP_cons]; simp only; omega) (by rw [szP_cons]; simp only; omega)
    simp only [pm, hr]
  | f + 1, f' + 1, ⟨.bin p x y, n, ind, fl, bw, be⟩ :: r, tx, col, ch, h1, h2 => by
    rw [szP_cons] at h1 h2
    simp only [sz] at h1 h2
    have hr : ∀ b1 e1 a b c, pm d f (⟨x, n, ind, fl, b1, e1⟩ :: ⟨y, n + cntG x, ind, fl, bw, be⟩ :: r) a b c = pm d f' (⟨x, n, ind, fl, b1, e1⟩ :: ⟨y, n + cntG x, ind, fl, bw, be⟩ :: r) a b c :=
      fun b1 e1 a b c => pm_fuel d f f' _ a b c (by rw [szP_cons, szP_cons]; simp only; omega) (by rw [szP_cons, szP_cons]; simp only; omega)
    have hq : ∀ a b c, pm d f (⟨if fl then y else x, if fl then n + cntG x else n, ind, fl, bw, be⟩ :: r) a b c = pm d f' (⟨if fl then y else x, if fl then n + cntG x else n, ind, fl, bw, be⟩ :: r) a b c :=
      fun a b c => pm_fuel d f f' _ a b c (by rw [szP_cons]; cases fl <;> simp <;> omega) (by rw [szP_cons]; cases fl <;> simp <;> omega)
    simp only [pm, hr, hq]

/-- The machine, with fuel enough. -/
def pmL (d : Nat → Int → Bool) (its : List PT) (tx : List Int) (col : Int) (ch : List Int) : List Int × List Int := pm d (szP its + 1) its tx col ch
theorem pmL_fuel {d : Nat → Int → Bool} {f : Nat} {its : List PT} {tx : List Int} {col : Int} {ch : List Int} (h : szP its < f) : pm d f its tx col ch = pmL d its tx col ch := pm_fuel d f _ its tx col ch h (by omega)

section
variable (d : Nat → Int → Bool)

theorem pmL_nil (tx : List Int) (col : Int) (ch : List Int) : pmL d [] tx col ch = (tx, ch) := rfl
theorem pmL_leaf (p : Pc) (n : Nat) (ind : Int) (fl : Bool) (bw : Int) (be : Bool) (r : List PT) (tx : List Int) (col : Int) (ch : List Int) : pmL d (⟨.leaf p, n, ind, fl, bw, be⟩ :: r) tx col ch =
    if (brk (.leaf p) ind fl).2 = true then pmL d r (tx ++ [10] ++ List.replicate (brk (.leaf p) ind fl).1.toNat 32) (brk (.leaf p) ind fl).1 ch
    else if p.k = 1 then pmL d r (tx ++ p.t) (col + widthR p.t) ch
    else if p.k = 2 then pmL d r (tx ++ [32]) (col + 1) ch
    else pmL d r tx col ch := by
  rw [pmL, szP_cons]
  simp only [pm, sz]
  have h : ∀ a b c, pm d (p.t.length + 1 + szP r) r a b c = pmL d r a b c := fun a b c => pmL_fuel (by omega)
  simp only [h]
theorem pmL_un (p : Pc) (x : Tr) (n : Nat) (ind : Int) (fl : Bool) (bw : Int) (be : Bool) (r : List PT) (tx : List Int) (col : Int) (ch : List Int) : pmL d (⟨.un p x, n, ind, fl, bw, be⟩ :: r) tx col ch =
    if p.k = 7 then pmL d (⟨x, n, ind + p.n, fl, bw, be⟩ :: r) tx col ch
    else pmL d (⟨x, n, ind, fl || canR (flatW x) col bw (d (n + cntG x)), bw, be⟩ :: r) tx col (ch.set (n + cntG x) (if (fl || canR (flatW x) col bw (d (n + cntG x))) = true then 1 else 2)) := by
  rw [pmL, szP_cons]
  simp only [pm, sz]
  have h : ∀ i g a b c, pm d (p.t.length + 1 + sz x + szP r) (⟨x, n, i, g, bw, be⟩ :: r) a b c = pmL d (⟨x, n, i, g, bw, be⟩ :: r) a b c := fun i g a b c => pmL_fuel (by rw [szP_cons]; simp only; omega)
  simp only [h]
theorem pmL_bin (p : Pc) (x y : Tr) (n : Nat) (ind : Int) (fl : Bool) (bw : Int) (be : Bool) (r : List PT) (tx : List Int) (col : Int) (ch : List Int) : pmL d (⟨.bin p x y, n, ind, fl, bw, be⟩ :: r) tx col ch =
    if p.k = 6 then pmL d (⟨x, n, ind, fl, if (leadT y).2 = true then (leadT y).1 else (leadT y).1 + bw, if (leadT y).2 = true then (leadT y).2 else be⟩ :: ⟨y, n + cntG x, ind, fl, bw, be⟩ :: r) tx col ch
    else pmL d (⟨if fl then y else x, if fl then n + cntG x else n, ind, fl, bw, be⟩ :: r) tx col ch := by
  rw [pmL, szP_cons]
  simp only [pm, sz]
  have h1 : ∀ b1 e1 a b c, pm d (p.t.length + 1 + (sz x + sz y) + szP r) (⟨x, n, ind, fl, b1, e1⟩ :: ⟨y, n + cntG x, ind, fl, bw, be⟩ :: r) a b c = pmL d (⟨x, n, ind, fl, b1, e1⟩ :: ⟨y, n + cntG x, ind, fl, bw, be⟩ :: r) a b c :=
    fun b1 e1 a b c => pmL_fuel (by rw [szP_cons, szP_cons]; simp only; omega)
  have h2 : ∀ a b c, pm d (p.t.length + 1 + (sz x + sz y) + szP r) (⟨if fl then y else x, if fl then n + cntG x else n, ind, fl, bw, be⟩ :: r) a b c = pmL d (⟨if fl then y else x, if fl then n + cntG x else n, ind, fl, bw, be⟩ :: r) a b c :=
    fun a b c => pmL_fuel (by rw [szP_cons]; cases fl <;> simp <;> omega)
  simp only [h1, h2]

/-- A flat part. -/
theorem pm_flat : ∀ (T : Tr) (n : Nat) (ind bw : Int) (be : Bool) (r : List PT) (tx : List Int) (col : Int) (ch text : List Int), KOk T → flatT T [] = some text →
    pmL d (⟨T, n, ind, true, bw, be⟩ :: r) tx col ch = pmL d r (tx ++ text) (col + flatW T) (markF T n ch)
  | .leaf p, n, ind, bw, be, r, tx, col, ch, text, hk, ht => by
    simp only [KOk] at hk
    rw [pmL_leaf]
    simp only [flatT] at ht
    have hb : (brk (.leaf p) ind true).2 = false := by
      simp only [brk]
      by_cases h45 : p.k = 4 ∨ p.k = 5
      · rw [if_neg (by omega), if_neg (by omega), if_neg (by omega)] at ht
        cases ht
      · by_cases h23 : p.k = 2 ∨ p.k = 3
        · simp [h23]
        · rw [if_neg h23, if_neg (by omega), if_neg (by omega)]
    rw [if_neg (by rw [hb]; simp)]
    simp only [flatW, markF]
    by_cases h1 : p.k = 1
    · rw [if_pos h1]
      simp only [h1] at ht ⊢
      simp at ht
      subst ht
      simp
    · rw [if_neg h1]
      by_cases h2 : p.k = 2
      · rw [if_pos h2]
        simp only [h2] at ht ⊢
        simp at ht
        subst ht
        simp
      · rw [if_neg h2, if_neg h1, if_neg h2]
        by_cases h03 : p.k = 0 ∨ p.k = 3
        · rw [if_pos h03] at ht
          cases ht
          rw [if_neg (by omega)]
          simp
        · rw [if_neg h03, if_neg h1, if_neg h2] at ht
          cases ht
  | .un p x, n, ind, bw, be, r, tx, col, ch, text, hk, ht => by
    simp only [KOk] at hk
    simp only [flatT] at ht
    rw [pmL_un]
    simp only [flatW, markF]
    rcases hk.1 with h7 | h8
    · rw [if_pos h7, if_neg (by omega)]
      exact pm_flat x n _ bw be r tx col ch text hk.2 ht
    · rw [if_neg (by omega), if_pos h8]
      simp only [Bool.true_or, if_true]
      exact pm_flat x n _ bw be r tx col _ text hk.2 ht
  | .bin p x y, n, ind, bw, be, r, tx, col, ch, text, hk, ht => by
    simp only [KOk] at hk
    simp only [flatT] at ht
    rw [pmL_bin]
    simp only [flatW, markF]
    rcases hk.1 with h6 | h9
    · rw [if_pos h6] at ht
      rw [if_pos h6, if_pos h6, if_pos h6]
      cases ex : flatT x [] with
      | none => rw [ex] at ht; simp at ht
      | some o =>
        rw [ex, Option.bind_some, flatT_acc y o] at ht
        cases ey : flatT y [] with
        | none => rw [ey] at ht; simp at ht
        | some q =>
          rw [ey] at ht
          simp at ht
          subst ht
          have hx := (flat_w x hk.2.1).1 o ex
          have hy := (flat_w y hk.2.2).1 q ey
          rw [pm_flat x n ind _ _ _ tx col ch o hk.2.1 ex, pm_flat y (n + cntG x) ind bw be r _ _ _ q hk.2.2 ey, if_neg (by omega)]
          rw [List.append_assoc, Int.add_assoc]
    · rw [if_neg (by omega)] at ht
      have h6n : ¬ p.k = 6 := by omega
      simp only [if_neg h6n, if_true]
      exact pm_flat y (n + cntG x) ind bw be r tx col ch text hk.2.2 ht
end

end Go.Proofs.YtbiiopiaglkicaaDoor

