import Derived.Test.YtalkhnhhaiigiaaGreatDoorMAF
import Derived.Test.YtalkhnhhaiigiaaGreatDoorMAK
import Derived.Test.YtalkhnhhaiigiaaGreatDoorMAN
import Derived.Test.YtalkhnhhaiigiaaGreatDoorMAP
namespace Go.Proofs.YtalkhnhhaiigiaaGreatDoor
open Go.RowKit

set_option maxHeartbeats 400000 in
theorem isHexDigit_any (p : Int) (w : World) : Calls Tryz.prog 133 #[.int .i32 p] w fun e w' => e = .returned (.bool (isHex p)) ∧ w = w' := by
  go_enter Tryz.func133, Tryz.ntmps133
  go_wp2_with (go_at_call 153; refine (hexValue_any _ _).mono ?_; rintro e w' ⟨rfl, rfl⟩)
  go_ret
  exact ⟨rfl, rfl⟩
theorem asks_hex : Asks 133 isHex := ⟨fun p W => isHexDigit_any p W, fun args W => by kernel_rfl⟩
theorem asc_hex : Asc isHex := fun p h => by
  have h : 0 ≤ hexV p := of_decide_eq_true h
  unfold hexV at h
  split at h
  · rename_i hd; simp [isDig] at hd; omega
  · split at h
    · omega
    · split at h
      · omega
      · omega

end Go.Proofs.YtalkhnhhaiigiaaGreatDoor

namespace Go.Proofs.YtalkhnhhaiigiaaGreatDoor
open Go.RowKit

theorem bys_of {l : List Int} (h : l.all (fun z => decide (0 ≤ z ∧ z ≤ 255)) = true) : Bys l := fun z hz => by
  have := List.all_eq_true.1 h z hz
  simpa using this
theorem yinf {sb : Nat} {w0 w : World} {r : List Int} (h : St sb w0 w ([73, 110, 102, 105, 110, 105, 116, 121] ++ r)) :
    Calls Tryz.prog 131 #[.pointer (some ⟨sb, 0, none⟩), .string { data := #[73, 110, 102, 105, 110, 105, 116, 121] }] w fun e w' => e = .returned (.bool true) ∧ St sb w0 w' r := accept_yes [73, 110, 102, 105, 110, 105, 116, 121] r (bys_of (by decide)) (by simp) h
theorem ninf {sb : Nat} {w0 w : World} {s : List Int} (hp : ¬ [73, 110, 102, 105, 110, 105, 116, 121] <+: s) (h : St sb w0 w s) :
    Calls Tryz.prog 131 #[.pointer (some ⟨sb, 0, none⟩), .string { data := #[73, 110, 102, 105, 110, 105, 116, 121] }] w fun e w' => e = .returned (.bool false) ∧ St sb w0 w' s := accept_no [73, 110, 102, 105, 110, 105, 116, 121] s (bys_of (by decide)) (by simp) hp h
theorem ynan {sb : Nat} {w0 w : World} {r : List Int} (h : St sb w0 w ([78, 97, 78] ++ r)) :
    Calls Tryz.prog 131 #[.pointer (some ⟨sb, 0, none⟩), .string { data := #[78, 97, 78] }] w fun e w' => e = .returned (.bool true) ∧ St sb w0 w' r := accept_yes [78, 97, 78] r (bys_of (by decide)) (by simp) h
theorem nnan {sb : Nat} {w0 w : World} {s : List Int} (hp : ¬ [78, 97, 78] <+: s) (h : St sb w0 w s) :
    Calls Tryz.prog 131 #[.pointer (some ⟨sb, 0, none⟩), .string { data := #[78, 97, 78] }] w fun e w' => e = .returned (.bool false) ∧ St sb w0 w' s := accept_no [78, 97, 78] s (bys_of (by decide)) (by simp) hp h
theorem yx {sb : Nat} {w0 w : World} {r : List Int} (h : St sb w0 w ([48, 120] ++ r)) :
    Calls Tryz.prog 131 #[.pointer (some ⟨sb, 0, none⟩), .string { data := #[48, 120] }] w fun e w' => e = .returned (.bool true) ∧ St sb w0 w' r := accept_yes [48, 120] r (bys_of (by decide)) (by simp) h
theorem nx {sb : Nat} {w0 w : World} {s : List Int} (hp : ¬ [48, 120] <+: s) (h : St sb w0 w s) :
    Calls Tryz.prog 131 #[.pointer (some ⟨sb, 0, none⟩), .string { data := #[48, 120] }] w fun e w' => e = .returned (.bool false) ∧ St sb w0 w' s := accept_no [48, 120] s (bys_of (by decide)) (by simp) hp h
theorem yX {sb : Nat} {w0 w : World} {r : List Int} (h : St sb w0 w ([48, 88] ++ r)) :
    Calls Tryz.prog 131 #[.pointer (some ⟨sb, 0, none⟩), .string { data := #[48, 88] }] w fun e w' => e = .returned (.bool true) ∧ St sb w0 w' r := accept_yes [48, 88] r (bys_of (by decide)) (by simp) h
theorem nX {sb : Nat} {w0 w : World} {s : List Int} (hp : ¬ [48, 88] <+: s) (h : St sb w0 w s) :
    Calls Tryz.prog 131 #[.pointer (some ⟨sb, 0, none⟩), .string { data := #[48, 88] }] w fun e w' => e = .returned (.bool false) ∧ St sb w0 w' s := accept_no [48, 88] s (bys_of (by decide)) (by simp) hp h
theorem skh {sb : Nat} {w0 w : World} {s : List Int} (h : St sb w0 w s) :
    Calls Tryz.prog 132 #[.pointer (some ⟨sb, 0, none⟩), .func (.func 133) #[] #[]] w fun e w' => e = .returned (.bool (headIs isHex s)) ∧ St sb w0 w' (s.dropWhile isHex) := skip_st _ isHex asks_hex asc_hex s h

theorem unsC (s : List Int) : (∃ r, s = [73, 110, 102, 105, 110, 105, 116, 121] ++ r ∧ unsI s = (true, r)) ∨
    (¬ [73, 110, 102, 105, 110, 105, 116, 121] <+: s ∧ ∃ r, s = [78, 97, 78] ++ r ∧ unsI s = (true, r)) ∨
    (¬ [73, 110, 102, 105, 110, 105, 116, 121] <+: s ∧ ¬ [78, 97, 78] <+: s ∧ ∃ r, s = [48, 120] ++ r ∧ unsI s = (headIs isHex r, r.dropWhile isHex)) ∨
    (¬ [73, 110, 102, 105, 110, 105, 116, 121] <+: s ∧ ¬ [78, 97, 78] <+: s ∧ ¬ [48, 120] <+: s ∧ ∃ r, s = [48, 88] ++ r ∧ unsI s = (headIs isHex r, r.dropWhile isHex)) ∨
    (¬ [73, 110, 102, 105, 110, 105, 116, 121] <+: s ∧ ¬ [78, 97, 78] <+: s ∧ ¬ [48, 120] <+: s ∧ ¬ [48, 88] <+: s ∧ unsI s = decI s) := by
  by_cases hi : infin <+: s
  · obtain ⟨r, rfl⟩ := id hi
    exact .inl ⟨r, rfl, by unfold unsI; rw [if_pos hi]; rfl⟩
  · by_cases hn : nan <+: s
    · obtain ⟨r, rfl⟩ := id hn
      exact .inr (.inl ⟨hi, r, rfl, by unfold unsI; rw [if_neg hi, if_pos hn]; rfl⟩)
    · by_cases h1 : [48, 120] <+: s
      · obtain ⟨r, rfl⟩ := id h1
        refine .inr (.inr (.inl ⟨hi, hn, r, rfl, ?_⟩))
        unfold unsI
        rw [if_neg hi, if_neg hn]
        simp [isX, headIs_hex]
      · by_cases h2 : [48, 88] <+: s
        · obtain ⟨r, rfl⟩ := id h2
          refine .inr (.inr (.inr (.inl ⟨hi, hn, h1, r, rfl, ?_⟩)))
          unfold unsI
          rw [if_neg hi, if_neg hn]
          simp [isX, headIs_hex]
        · refine .inr (.inr (.inr (.inr ⟨hi, hn, h1, h2, ?_⟩)))
          unfold unsI
          rw [if_neg hi, if_neg hn]
          match s, h1, h2 with
          | [], _, _ => rfl
          | [c], _, _ => rfl
          | c :: x :: r, h1, h2 =>
            simp only
            rw [if_neg]
            rintro ⟨rfl, hx⟩
            have hx' : x = 120 ∨ x = 88 := by simpa [isX] using hx
            rcases hx' with rfl | rfl
            · exact h1 ⟨r, rfl⟩
            · exact h2 ⟨r, rfl⟩

set_option maxHeartbeats 4000000 in
set_option maxRecDepth 100000 in
theorem readNumber_st {sb : Nat} {w0 w : World} (s : List Int) (hS : St sb w0 w s) :
    Calls Tryz.prog 120 #[.pointer (some ⟨sb, 0, none⟩)] w fun e w' => e = .returned (.bool (unsI (strip s)).1) ∧ St sb w0 w' (unsI (strip s)).2 := by
  rcases signC s with ⟨t, rfl, hq⟩ | ⟨t, rfl, hn43, hq⟩ | ⟨hn43, hn45, hq⟩
  · rw [hq]
    clear hq
    rcases unsC t with ⟨r, e1, hu⟩ | ⟨hi, r, e1, hu⟩ | ⟨hi, hn, r, e1, hu⟩ | ⟨hi, hn, h1, r, e1, hu⟩ | ⟨hi, hn, h1, h2, hu⟩
    · rw [hu]
      clear hu
      have He := hide e1
      clear e1
      go_enter Tryz.func120, Tryz.ntmps120
      go_wp2_with fail
      refine (y43 hS).mono ?_
      rintro e w' ⟨rfl, hS⟩
      go_wp2_with fail
      refine (yinf (He.out ▸ hS)).mono ?_
      rintro e w' ⟨rfl, hS⟩
      go_wp2
      go_ret
      exact ⟨rfl, hS⟩
    · rw [hu]
      have Hi := hide hi
      clear hu hi
      have He := hide e1
      clear e1
      go_enter Tryz.func120, Tryz.ntmps120
      go_wp2_with fail
      refine (y43 hS).mono ?_
      rintro e w' ⟨rfl, hS⟩
      go_wp2_with fail
      refine (ninf Hi.out hS).mono ?_
      rintro e w' ⟨rfl, hS⟩
      go_wp2_with fail
      refine (ynan (He.out ▸ hS)).mono ?_
      rintro e w' ⟨rfl, hS⟩
      go_wp2
      go_ret
      exact ⟨rfl, hS⟩
    · rw [hu]
      have Hi := hide hi
      have Hn := hide hn
      clear hu hi hn
      have He := hide e1
      clear e1
      go_enter Tryz.func120, Tryz.ntmps120
      go_wp2_with fail
      refine (y43 hS).mono ?_
      rintro e w' ⟨rfl, hS⟩
      go_wp2_with fail
      refine (ninf Hi.out hS).mono ?_
      rintro e w' ⟨rfl, hS⟩
      go_wp2_with fail
      refine (nnan Hn.out hS).mono ?_
      rintro e w' ⟨rfl, hS⟩
      go_wp2_with fail
      refine (yx (He.out ▸ hS)).mono ?_
      rintro e w' ⟨rfl, hS⟩
      go_wp2_with fail
      refine (skh hS).mono ?_
      rintro e w' ⟨rfl, hS⟩
      go_wp2
      go_ret
      exact ⟨rfl, hS⟩
    · rw [hu]
      have Hi := hide hi
      have Hn := hide hn
      have H1 := hide h1
      clear hu hi hn h1
      have He := hide e1
      clear e1
      go_enter Tryz.func120, Tryz.ntmps120
      go_wp2_with fail
      refine (y43 hS).mono ?_
      rintro e w' ⟨rfl, hS⟩
      go_wp2_with fail
      refine (ninf Hi.out hS).mono ?_
      rintro e w' ⟨rfl, hS⟩
      go_wp2_with fail
      refine (nnan Hn.out hS).mono ?_
      rintro e w' ⟨rfl, hS⟩
      go_wp2_with fail
      refine (nx H1.out hS).mono ?_
      rintro e w' ⟨rfl, hS⟩
      go_wp2_with fail
      refine (yX (He.out ▸ hS)).mono ?_
      rintro e w' ⟨rfl, hS⟩
      go_wp2_with fail
      refine (skh hS).mono ?_
      rintro e w' ⟨rfl, hS⟩
      go_wp2
      go_ret
      exact ⟨rfl, hS⟩
    · rw [hu]
      have Hi := hide hi
      have Hn := hide hn
      have H1 := hide h1
      have H2 := hide h2
      clear hu hi hn h1 h2
      go_enter Tryz.func120, Tryz.ntmps120
      go_wp2_with fail
      refine (y43 hS).mono ?_
      rintro e w' ⟨rfl, hS⟩
      go_wp2_with fail
      refine (ninf Hi.out hS).mono ?_
      rintro e w' ⟨rfl, hS⟩
      go_wp2_with fail
      refine (nnan Hn.out hS).mono ?_
      rintro e w' ⟨rfl, hS⟩
      go_wp2_with fail
      refine (nx H1.out hS).mono ?_
      rintro e w' ⟨rfl, hS⟩
      go_wp2_with fail
      refine (nX H2.out hS).mono ?_
      rintro e w' ⟨rfl, hS⟩
      go_wp2_with fail
      refine (readDecimal_st _ hS).mono ?_
      rintro e w' ⟨rfl, hS⟩
      go_wp2
      go_ret
      exact ⟨rfl, hS⟩
  · rw [hq]
    have H43 := hide hn43
    clear hq hn43
    rcases unsC t with ⟨r, e1, hu⟩ | ⟨hi, r, e1, hu⟩ | ⟨hi, hn, r, e1, hu⟩ | ⟨hi, hn, h1, r, e1, hu⟩ | ⟨hi, hn, h1, h2, hu⟩
    · rw [hu]
      clear hu
      have He := hide e1
      clear e1
      go_enter Tryz.func120, Tryz.ntmps120
      go_wp2_with fail
      refine (n43 H43.out hS).mono ?_
      rintro e w' ⟨rfl, hS⟩
      go_wp2_with fail
      refine (y45 hS).mono ?_
      rintro e w' ⟨rfl, hS⟩
      go_wp2_with fail
      refine (yinf (He.out ▸ hS)).mono ?_
      rintro e w' ⟨rfl, hS⟩
      go_wp2
      go_ret
      exact ⟨rfl, hS⟩
    · rw [hu]
      have Hi := hide hi
      clear hu hi
      have He := hide e1
      clear e1
      go_enter Tryz.func120, Tryz.ntmps120
      go_wp2_with fail
      refine (n43 H43.out hS).mono ?_
      rintro e w' ⟨rfl, hS⟩
      go_wp2_with fail
      refine (y45 hS).mono ?_
      rintro e w' ⟨rfl, hS⟩
      go_wp2_with fail
      refine (ninf Hi.out hS).mono ?_
      rintro e w' ⟨rfl, hS⟩
      go_wp2_with fail
      refine (ynan (He.out ▸ hS)).mono ?_
      rintro e w' ⟨rfl, hS⟩
      go_wp2
      go_ret
      exact ⟨rfl, hS⟩
    · rw [hu]
      have Hi := hide hi
      have Hn := hide hn
      clear hu hi hn
      have He := hide e1
      clear e1
      go_enter Tryz.func120, Tryz.ntmps120
      go_wp2_with fail
      refine (n43 H43.out hS).mono ?_
      rintro e w' ⟨rfl, hS⟩
      go_wp2_with fail
      refine (y45 hS).mono ?_
      rintro e w' ⟨rfl, hS⟩
      go_wp2_with fail
      refine (ninf Hi.out hS).mono ?_
      rintro e w' ⟨rfl, hS⟩
      go_wp2_with fail
      refine (nnan Hn.out hS).mono ?_
      rintro e w' ⟨rfl, hS⟩
      go_wp2_with fail
      refine (yx (He.out ▸ hS)).mono ?_
      rintro e w' ⟨rfl, hS⟩
      go_wp2_with fail
      refine (skh hS).mono ?_
      rintro e w' ⟨rfl, hS⟩
      go_wp2
      go_ret
      exact ⟨rfl, hS⟩
    · rw [hu]
      have Hi := hide hi
      have Hn := hide hn
      have H1 := hide h1
      clear hu hi hn h1
      have He := hide e1
      clear e1
      go_enter Tryz.func120, Tryz.ntmps120
      go_wp2_with fail
      refine (n43 H43.out hS).mono ?_
      rintro e w' ⟨rfl, hS⟩
      go_wp2_with fail
      refine (y45 hS).mono ?_
      rintro e w' ⟨rfl, hS⟩
      go_wp2_with fail
      refine (ninf Hi.out hS).mono ?_
      rintro e w' ⟨rfl, hS⟩
      go_wp2_with fail
      refine (nnan Hn.out hS).mono ?_
      rintro e w' ⟨rfl, hS⟩
      go_wp2_with fail
      refine (nx H1.out hS).mono ?_
      rintro e w' ⟨rfl, hS⟩
      go_wp2_with fail
      refine (yX (He.out ▸ hS)).mono ?_
      rintro e w' ⟨rfl, hS⟩
      go_wp2_with fail
      refine (skh hS).mono ?_
      rintro e w' ⟨rfl, hS⟩
      go_wp2
      go_ret
      exact ⟨rfl, hS⟩
    · rw [hu]
      have Hi := hide hi
      have Hn := hide hn
      have H1 := hide h1
      have H2 := hide h2
      clear hu hi hn h1 h2
      go_enter Tryz.func120, Tryz.ntmps120
      go_wp2_with fail
      refine (n43 H43.out hS).mono ?_
      rintro e w' ⟨rfl, hS⟩
      go_wp2_with fail
      refine (y45 hS).mono ?_
      rintro e w' ⟨rfl, hS⟩
      go_wp2_with fail
      refine (ninf Hi.out hS).mono ?_
      rintro e w' ⟨rfl, hS⟩
      go_wp2_with fail
      refine (nnan Hn.out hS).mono ?_
      rintro e w' ⟨rfl, hS⟩
      go_wp2_with fail
      refine (nx H1.out hS).mono ?_
      rintro e w' ⟨rfl, hS⟩
      go_wp2_with fail
      refine (nX H2.out hS).mono ?_
      rintro e w' ⟨rfl, hS⟩
      go_wp2_with fail
      refine (readDecimal_st _ hS).mono ?_
      rintro e w' ⟨rfl, hS⟩
      go_wp2
      go_ret
      exact ⟨rfl, hS⟩
  · rw [hq]
    have H43 := hide hn43
    have H45 := hide hn45
    clear hq hn43 hn45
    rcases unsC s with ⟨r, e1, hu⟩ | ⟨hi, r, e1, hu⟩ | ⟨hi, hn, r, e1, hu⟩ | ⟨hi, hn, h1, r, e1, hu⟩ | ⟨hi, hn, h1, h2, hu⟩
    · rw [hu]
      clear hu
      have He := hide e1
      clear e1
      go_enter Tryz.func120, Tryz.ntmps120
      go_wp2_with fail
      refine (n43 H43.out hS).mono ?_
      rintro e w' ⟨rfl, hS⟩
      go_wp2_with fail
      refine (n45 H45.out hS).mono ?_
      rintro e w' ⟨rfl, hS⟩
      go_wp2_with fail
      refine (yinf (He.out ▸ hS)).mono ?_
      rintro e w' ⟨rfl, hS⟩
      go_wp2
      go_ret
      exact ⟨rfl, hS⟩
    · rw [hu]
      have Hi := hide hi
      clear hu hi
      have He := hide e1
      clear e1
      go_enter Tryz.func120, Tryz.ntmps120
      go_wp2_with fail
      refine (n43 H43.out hS).mono ?_
      rintro e w' ⟨rfl, hS⟩
      go_wp2_with fail
      refine (n45 H45.out hS).mono ?_
      rintro e w' ⟨rfl, hS⟩
      go_wp2_with fail
      refine (ninf Hi.out hS).mono ?_
      rintro e w' ⟨rfl, hS⟩
      go_wp2_with fail
      refine (ynan (He.out ▸ hS)).mono ?_
      rintro e w' ⟨rfl, hS⟩
      go_wp2
      go_ret
      exact ⟨rfl, hS⟩
    · rw [hu]
      have Hi := hide hi
      have Hn := hide hn
      clear hu hi hn
      have He := hide e1
      clear e1
      go_enter Tryz.func120, Tryz.ntmps120
      go_wp2_with fail
      refine (n43 H43.out hS).mono ?_
      rintro e w' ⟨rfl, hS⟩
      go_wp2_with fail
      refine (n45 H45.out hS).mono ?_
      rintro e w' ⟨rfl, hS⟩
      go_wp2_with fail
      refine (ninf Hi.out hS).mono ?_
      rintro e w' ⟨rfl, hS⟩
      go_wp2_with fail
      refine (nnan Hn.out hS).mono ?_
      rintro e w' ⟨rfl, hS⟩
      go_wp2_with fail
      refine (yx (He.out ▸ hS)).mono ?_
      rintro e w' ⟨rfl, hS⟩
      go_wp2_with fail
      refine (skh hS).mono ?_
      rintro e w' ⟨rfl, hS⟩
      go_wp2
      go_ret
      exact ⟨rfl, hS⟩
    · rw [hu]
      have Hi := hide hi
      have Hn := hide hn
      have H1 := hide h1
      clear hu hi hn h1
      have He := hide e1
      clear e1
      go_enter Tryz.func120, Tryz.ntmps120
      go_wp2_with fail
      refine (n43 H43.out hS).mono ?_
      rintro e w' ⟨rfl, hS⟩
      go_wp2_with fail
      refine (n45 H45.out hS).mono ?_
      rintro e w' ⟨rfl, hS⟩
      go_wp2_with fail
      refine (ninf Hi.out hS).mono ?_
      rintro e w' ⟨rfl, hS⟩
      go_wp2_with fail
      refine (nnan Hn.out hS).mono ?_
      rintro e w' ⟨rfl, hS⟩
      go_wp2_with fail
      refine (nx H1.out hS).mono ?_
      rintro e w' ⟨rfl, hS⟩
      go_wp2_with fail
      refine (yX (He.out ▸ hS)).mono ?_
      rintro e w' ⟨rfl, hS⟩
      go_wp2_with fail
      refine (skh hS).mono ?_
      rintro e w' ⟨rfl, hS⟩
      go_wp2
      go_ret
      exact ⟨rfl, hS⟩
    · rw [hu]
      have Hi := hide hi
      have Hn := hide hn
      have H1 := hide h1
      have H2 := hide h2
      clear hu hi hn h1 h2
      go_enter Tryz.func120, Tryz.ntmps120
      go_wp2_with fail
      refine (n43 H43.out hS).mono ?_
      rintro e w' ⟨rfl, hS⟩
      go_wp2_with fail
      refine (n45 H45.out hS).mono ?_
      rintro e w' ⟨rfl, hS⟩
      go_wp2_with fail
      refine (ninf Hi.out hS).mono ?_
      rintro e w' ⟨rfl, hS⟩
      go_wp2_with fail
      refine (nnan Hn.out hS).mono ?_
      rintro e w' ⟨rfl, hS⟩
      go_wp2_with fail
      refine (nx H1.out hS).mono ?_
      rintro e w' ⟨rfl, hS⟩
      go_wp2_with fail
      refine (nX H2.out hS).mono ?_
      rintro e w' ⟨rfl, hS⟩
      go_wp2_with fail
      refine (readDecimal_st _ hS).mono ?_
      rintro e w' ⟨rfl, hS⟩
      go_wp2
      go_ret
      exact ⟨rfl, hS⟩

set_option maxHeartbeats 1000000 in
set_option maxRecDepth 100000 in
theorem implIsNumber_any (v : Value) (zs : List Int) (w : World) (hv : RdB w.heap.size w v zs) (hs : Sl v zs.length) (hb : Bys zs) (hl : zs.length ≤ 1048576) (hT : Tab w) :
    Calls Tryz.prog 102 #[v] w fun e w' => e = .returned (.bool (numI zs)) ∧ w.grownBy w' none := by
  have hg := World.grownBy_alloc w (.cells #[v, .int .i64 0] 143) none
  have hpos := hT.pos
  have hSt : St w.heap.size (w.alloc (.cells #[v, .int .i64 0] 143)) (w.alloc (.cells #[v, .int .i64 0] 143)) zs :=
    ⟨v, zs, 0, Nat.zero_le _, by simp, by simpa using sc_new w v 0, ⟨hv.keep hg, hs, hb, hl⟩, hT.keep hg, hpos, World.grownBy.refl _ _⟩
  have HN := hide (readNumber_st zs hSt)
  have HG := hide hg
  have HV : Hid (numI zs = ((unsI (strip zs)).1 && decide ((unsI (strip zs)).2 = []))) := rfl
  obtain ⟨a, cap, rfl, _⟩ := hv
  clear hSt hg hpos hT hs
  generalize unsI (strip zs) = u at HN HV
  obtain ⟨u1, u2⟩ := u
  cases u1
  · go_enter Tryz.func102, Tryz.ntmps102
    go_wp2_with fail
    refine HN.out.mono ?_
    rintro e w1 ⟨rfl, hS⟩
    have g1 := (by obtain ⟨_, _, _, _, _, _, _, _, _, g⟩ := hS; exact g : World.grownBy _ w1 _)
    have G := hide (grown_over HG.out (Nat.le_refl _) g1)
    clear hS g1
    go_wp2
    go_ret
    exact ⟨by rw [HV.out]; rfl, G.out⟩
  · go_enter Tryz.func102, Tryz.ntmps102
    go_wp2_with fail
    refine HN.out.mono ?_
    rintro e w1 ⟨rfl, hS⟩
    go_wp2_with fail
    refine (ended_st _ hS).mono ?_
    rintro e w2 ⟨rfl, hS⟩
    have g1 := (by obtain ⟨_, _, _, _, _, _, _, _, _, g⟩ := hS; exact g : World.grownBy _ w2 _)
    have G := hide (grown_over HG.out (Nat.le_refl _) g1)
    clear hS g1
    go_wp2
    go_ret
    exact ⟨by rw [HV.out]; rfl, G.out⟩

end Go.Proofs.YtalkhnhhaiigiaaGreatDoor

namespace Go.Proofs.YtalkhnhhaiigiaaGreatDoor
open Go.RowKit

set_option maxHeartbeats 1000000 in
theorem holdsNodes_any (k : Int) (w : World) : Calls Tryz.prog 77 #[.int .i64 k] w fun e w' => e = .returned (.bool (decide (k = 5 ∨ k = 6))) ∧ w = w' := by
  by_cases h5 : k = 5
  · subst h5
    go_enter Tryz.func77, Tryz.ntmps77
    go_wp2
    go_ret
    exact ⟨rfl, rfl⟩
  · have e5 : (k == 5) = false := by simpa using h5
    by_cases h6 : k = 6
    · subst h6
      go_enter Tryz.func77, Tryz.ntmps77
      go_wp2
      go_ret
      exact ⟨rfl, rfl⟩
    · have e6 : (k == 6) = false := by simpa using h6
      have HF : Hid (decide (k = 5 ∨ k = 6) = false) := by unfold Hid; simp [h5, h6]
      rw [HF.out]
      go_enter Tryz.func77, Tryz.ntmps77
      go_wp2
      go_ret
      exact ⟨by first | rfl | simp [h6], rfl⟩

/-- What the program asks of a node's fields. -/
def fitsB (p : Nod) : Bool :=
  decide (0 ≤ p.k ∧ p.k ≤ 6) && ((p.mem || decide (p.key = [])) && ((decide (p.k = 3) || decide (p.text = [])) && ((decide (p.k = 4) || decide (p.units = [])) && (if 5 ≤ p.k then decide (0 ≤ p.cnt) else (decide (p.cnt = 0) && decide (p.tail = []))))))
theorem fitsB_is (p : Nod) : fitsB p = true ↔ Fits p := by
  unfold fitsB Fits
  simp only [Bool.and_eq_true, Bool.or_eq_true, decide_eq_true_eq]
  constructor
  · rintro ⟨h1, h2, h3, h4, h5⟩
    refine ⟨h1, h2, fun e => h3.resolve_left e, fun e => h4.resolve_left e, fun e => ?_, fun e => ?_⟩
    · rw [if_pos e] at h5; exact of_decide_eq_true h5
    · rw [if_neg (by omega)] at h5
      rw [Bool.and_eq_true, decide_eq_true_eq, decide_eq_true_eq] at h5
      exact h5
  · rintro ⟨h1, h2, h3, h4, h5, h6⟩
    refine ⟨h1, h2, ?_, ?_, ?_⟩
    · by_cases e : p.k = 3
      · exact .inl e
      · exact .inr (h3 e)
    · by_cases e : p.k = 4
      · exact .inl e
      · exact .inr (h4 e)
    · by_cases e : 5 ≤ p.k
      · rw [if_pos e]; exact decide_eq_true (h5 e)
      · rw [if_neg e, Bool.and_eq_true, decide_eq_true_eq, decide_eq_true_eq]; exact h6 (by omega)

theorem fitsB_true (p : Nod) (hr : 0 ≤ p.k ∧ p.k ≤ 6) (hm : p.mem = true ∨ p.key = []) (hx : p.k ≠ 3 → p.text = []) (hu : p.k ≠ 4 → p.units = []) (h5 : 5 ≤ p.k → 0 ≤ p.cnt) (h6 : p.k < 5 → p.cnt = 0 ∧ p.tail = []) : fitsB p = true := (fitsB_is p).2 ⟨hr, hm, hx, hu, h5, h6⟩

theorem len_nil {α : Type} (l : List α) : l = [] ↔ (l.length : Int) = 0 := by
  constructor
  · rintro rfl; rfl
  · intro h; exact List.eq_nil_of_length_eq_zero (by omega)
/-- The same in lengths. -/
theorem fits_len (p : Nod) : fitsB p = true ↔ ((0 ≤ p.k ∧ p.k ≤ 6) ∧ (p.mem = true ∨ (p.key.length : Int) = 0) ∧ (p.k ≠ 3 → (p.text.length : Int) = 0) ∧ (p.k ≠ 4 → (p.units.length : Int) = 0) ∧ (5 ≤ p.k → 0 ≤ p.cnt) ∧ (p.k < 5 → p.cnt = 0 ∧ (p.tail.length : Int) = 0)) := by
  rw [fitsB_is]
  unfold Fits
  rw [len_nil p.key, len_nil p.text, len_nil p.units, len_nil p.tail]

set_option maxHeartbeats 8000000 in
set_option maxRecDepth 100000 in
theorem fitsKind_any (p : Nod) (la ka xa ua ta : Option Addr) (lcap kcap xcap ucap tcap : Nat) (w : World) (l1 : p.key.length ≤ 1048576) (l2 : p.units.length ≤ 1048576) (l3 : p.text.length ≤ 1048576) (l4 : p.tail.length ≤ 1048576) :
    Calls Tryz.prog 100 #[.agg #[.int .i64 p.k, .slice la p.lead.length lcap, .bool p.mem, .slice ka p.key.length kcap, .slice xa p.text.length xcap, .slice ua p.units.length ucap, .int .i64 p.cnt, .slice ta p.tail.length tcap]] w fun e w' => e = .returned (.bool (fitsB p)) ∧ w.grownBy w' none := by
  have HN := hide (fun (k : Int) (w : World) => holdsNodes_any k w)
  cases hm : p.mem with
  | true =>
    have HF := hide (fits_len p)
    rw [hm] at HF
    clear hm
    go_enter Tryz.func100, Tryz.ntmps100
    go_wp2_with (go_at_call 77; refine (HN.out _ _).mono ?_; rintro e w1 ⟨rfl, rfl⟩)
    all_goals go_ret
    all_goals refine ⟨?_, World.grownBy_alloc _ _ _⟩
    all_goals refine congrArg (fun b => Ending.returned (Value.bool b)) (?_ : _ = fitsB p)
    all_goals rw [Bool.eq_iff_iff, HF.out]
    all_goals clear HF HN
    all_goals generalize p.key.length = n1 at *
    all_goals generalize p.text.length = n2 at *
    all_goals generalize p.units.length = n3 at *
    all_goals generalize p.tail.length = n4 at *
    all_goals generalize p.k = kk at *
    all_goals generalize p.cnt = cc at *
    all_goals try simp
    all_goals try simp only [bne_eq_false_iff_eq] at *
    all_goals omega
  | false =>
    have HF := hide (fits_len p)
    rw [hm] at HF
    clear hm
    go_enter Tryz.func100, Tryz.ntmps100
    go_wp2_with (go_at_call 77; refine (HN.out _ _).mono ?_; rintro e w1 ⟨rfl, rfl⟩)
    all_goals go_ret
    all_goals refine ⟨?_, World.grownBy_alloc _ _ _⟩
    all_goals refine congrArg (fun b => Ending.returned (Value.bool b)) (?_ : _ = fitsB p)
    all_goals rw [Bool.eq_iff_iff, HF.out]
    all_goals clear HF HN
    all_goals generalize p.key.length = n1 at *
    all_goals generalize p.text.length = n2 at *
    all_goals generalize p.units.length = n3 at *
    all_goals generalize p.tail.length = n4 at *
    all_goals generalize p.k = kk at *
    all_goals generalize p.cnt = cc at *
    all_goals try simp
    all_goals try simp only [bne_eq_false_iff_eq] at *
    all_goals omega

end Go.Proofs.YtalkhnhhaiigiaaGreatDoor

