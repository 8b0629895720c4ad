import Derived.Test.YthcjmmpkgljjhaaGreatDoorMAU
import Derived.Test.YthcjmmpkgljjhaaGreatDoorMAV
namespace Go.Proofs.YthcjmmpkgljjhaaGreatDoor
open Go.RowKit

theorem bys_of {l : List Int} (h : l.all (fun z => decide (0 ≤ z ∧ z ≤ 255)) = true) : Bys l := fun z hz => by
  have := List.all_eq_true.1 h z hz
  simpa using this
theorem yinf {sb : Nat} {w0 w : World} {r : List Int} (h : St sb w0 w ([73, 110, 102, 105, 110, 105, 116, 121] ++ r)) :
    Calls Tryz.prog 83 #[.pointer (some ⟨sb, 0, none⟩), .string { data := #[73, 110, 102, 105, 110, 105, 116, 121] }] w fun e w' => e = .returned (.bool true) ∧ St sb w0 w' r := accept_yes [73, 110, 102, 105, 110, 105, 116, 121] r (bys_of (by decide)) (by simp) h
theorem ninf {sb : Nat} {w0 w : World} {s : List Int} (hp : ¬ [73, 110, 102, 105, 110, 105, 116, 121] <+: s) (h : St sb w0 w s) :
    Calls Tryz.prog 83 #[.pointer (some ⟨sb, 0, none⟩), .string { data := #[73, 110, 102, 105, 110, 105, 116, 121] }] w fun e w' => e = .returned (.bool false) ∧ St sb w0 w' s := accept_no [73, 110, 102, 105, 110, 105, 116, 121] s (bys_of (by decide)) (by simp) hp h
theorem ynan {sb : Nat} {w0 w : World} {r : List Int} (h : St sb w0 w ([78, 97, 78] ++ r)) :
    Calls Tryz.prog 83 #[.pointer (some ⟨sb, 0, none⟩), .string { data := #[78, 97, 78] }] w fun e w' => e = .returned (.bool true) ∧ St sb w0 w' r := accept_yes [78, 97, 78] r (bys_of (by decide)) (by simp) h
theorem nnan {sb : Nat} {w0 w : World} {s : List Int} (hp : ¬ [78, 97, 78] <+: s) (h : St sb w0 w s) :
    Calls Tryz.prog 83 #[.pointer (some ⟨sb, 0, none⟩), .string { data := #[78, 97, 78] }] w fun e w' => e = .returned (.bool false) ∧ St sb w0 w' s := accept_no [78, 97, 78] s (bys_of (by decide)) (by simp) hp h
theorem yx {sb : Nat} {w0 w : World} {r : List Int} (h : St sb w0 w ([48, 120] ++ r)) :
    Calls Tryz.prog 83 #[.pointer (some ⟨sb, 0, none⟩), .string { data := #[48, 120] }] w fun e w' => e = .returned (.bool true) ∧ St sb w0 w' r := accept_yes [48, 120] r (bys_of (by decide)) (by simp) h
theorem nx {sb : Nat} {w0 w : World} {s : List Int} (hp : ¬ [48, 120] <+: s) (h : St sb w0 w s) :
    Calls Tryz.prog 83 #[.pointer (some ⟨sb, 0, none⟩), .string { data := #[48, 120] }] w fun e w' => e = .returned (.bool false) ∧ St sb w0 w' s := accept_no [48, 120] s (bys_of (by decide)) (by simp) hp h
theorem yX {sb : Nat} {w0 w : World} {r : List Int} (h : St sb w0 w ([48, 88] ++ r)) :
    Calls Tryz.prog 83 #[.pointer (some ⟨sb, 0, none⟩), .string { data := #[48, 88] }] w fun e w' => e = .returned (.bool true) ∧ St sb w0 w' r := accept_yes [48, 88] r (bys_of (by decide)) (by simp) h
theorem nX {sb : Nat} {w0 w : World} {s : List Int} (hp : ¬ [48, 88] <+: s) (h : St sb w0 w s) :
    Calls Tryz.prog 83 #[.pointer (some ⟨sb, 0, none⟩), .string { data := #[48, 88] }] w fun e w' => e = .returned (.bool false) ∧ St sb w0 w' s := accept_no [48, 88] s (bys_of (by decide)) (by simp) hp h
theorem skh {sb : Nat} {w0 w : World} {s : List Int} (h : St sb w0 w s) :
    Calls Tryz.prog 84 #[.pointer (some ⟨sb, 0, none⟩), .func (.func 85) #[] #[]] w fun e w' => e = .returned (.bool (headIs isHex s)) ∧ St sb w0 w' (s.dropWhile isHex) := skip_st _ isHex asks_hex asc_hex s h

theorem unsC (s : List Int) : (∃ r, s = [73, 110, 102, 105, 110, 105, 116, 121] ++ r ∧ unsI s = (true, r)) ∨
    (¬ [73, 110, 102, 105, 110, 105, 116, 121] <+: s ∧ ∃ r, s = [78, 97, 78] ++ r ∧ unsI s = (true, r)) ∨
    (¬ [73, 110, 102, 105, 110, 105, 116, 121] <+: s ∧ ¬ [78, 97, 78] <+: s ∧ ∃ r, s = [48, 120] ++ r ∧ unsI s = (headIs isHex r, r.dropWhile isHex)) ∨
    (¬ [73, 110, 102, 105, 110, 105, 116, 121] <+: s ∧ ¬ [78, 97, 78] <+: s ∧ ¬ [48, 120] <+: s ∧ ∃ r, s = [48, 88] ++ r ∧ unsI s = (headIs isHex r, r.dropWhile isHex)) ∨
    (¬ [73, 110, 102, 105, 110, 105, 116, 121] <+: s ∧ ¬ [78, 97, 78] <+: s ∧ ¬ [48, 120] <+: s ∧ ¬ [48, 88] <+: s ∧ unsI s = decI s) := by
  by_cases hi : infin <+: s
  · obtain ⟨r, rfl⟩ := id hi
    exact .inl ⟨r, rfl, by unfold unsI; rw [if_pos hi]; rfl⟩
  · by_cases hn : nan <+: s
    · obtain ⟨r, rfl⟩ := id hn
      exact .inr (.inl ⟨hi, r, rfl, by unfold unsI; rw [if_neg hi, if_pos hn]; rfl⟩)
    · by_cases h1 : [48, 120] <+: s
      · obtain ⟨r, rfl⟩ := id h1
        refine .inr (.inr (.inl ⟨hi, hn, r, rfl, ?_⟩))
        unfold unsI
        rw [if_neg hi, if_neg hn]
        simp [isX, headIs_hex]
      · by_cases h2 : [48, 88] <+: s
        · obtain ⟨r, rfl⟩ := id h2
          refine .inr (.inr (.inr (.inl ⟨hi, hn, h1, r, rfl, ?_⟩)))
          unfold unsI
          rw [if_neg hi, if_neg hn]
          simp [isX, headIs_hex]
        · refine .inr (.inr (.inr (.inr ⟨hi, hn, h1, h2, ?_⟩)))
          unfold unsI
          rw [if_neg hi, if_neg hn]
          match s, h1, h2 with
          | [], _, _ => rfl
          | [c], _, _ => rfl
          | c :: x :: r, h1, h2 =>
            simp only
            rw [if_neg]
            rintro ⟨rfl, hx⟩
            have hx' : x = 120 ∨ x = 88 := by simpa [isX] using hx
            rcases hx' with rfl | rfl
            · exact h1 ⟨r, rfl⟩
            · exact h2 ⟨r, rfl⟩

set_option maxHeartbeats 4000000 in
set_option maxRecDepth 100000 in
theorem readNumber_st {sb : Nat} {w0 w : World} (s : List Int) (hS : St sb w0 w s) :
    Calls Tryz.prog 76 #[.pointer (some ⟨sb, 0, none⟩)] w fun e w' => e = .returned (.bool (unsI (strip s)).1) ∧ St sb w0 w' (unsI (strip s)).2 := by
  rcases signC s with ⟨t, rfl, hq⟩ | ⟨t, rfl, hn43, hq⟩ | ⟨hn43, hn45, hq⟩
  · rw [hq]
    clear hq
    rcases unsC t with ⟨r, e1, hu⟩ | ⟨hi, r, e1, hu⟩ | ⟨hi, hn, r, e1, hu⟩ | ⟨hi, hn, h1, r, e1, hu⟩ | ⟨hi, hn, h1, h2, hu⟩
    · rw [hu]
      clear hu
      have He := hide e1
      clear e1
      go_enter Tryz.func76, Tryz.ntmps76
      go_wp2_with fail
      refine (y43 hS).mono ?_
      rintro e w' ⟨rfl, hS⟩
      go_wp2_with fail
      refine (yinf (He.out ▸ hS)).mono ?_
      rintro e w' ⟨rfl, hS⟩
      go_wp2
      go_ret
      exact ⟨rfl, hS⟩
    · rw [hu]
      have Hi := hide hi
      clear hu hi
      have He := hide e1
      clear e1
      go_enter Tryz.func76, Tryz.ntmps76
      go_wp2_with fail
      refine (y43 hS).mono ?_
      rintro e w' ⟨rfl, hS⟩
      go_wp2_with fail
      refine (ninf Hi.out hS).mono ?_
      rintro e w' ⟨rfl, hS⟩
      go_wp2_with fail
      refine (ynan (He.out ▸ hS)).mono ?_
      rintro e w' ⟨rfl, hS⟩
      go_wp2
      go_ret
      exact ⟨rfl, hS⟩
    · rw [hu]
      have Hi := hide hi
      have Hn := hide hn
      clear hu hi hn
      have He := hide e1
      clear e1
      go_enter Tryz.func76, Tryz.ntmps76
      go_wp2_with fail
      refine (y43 hS).mono ?_
      rintro e w' ⟨rfl, hS⟩
      go_wp2_with fail
      refine (ninf Hi.out hS).mono ?_
      rintro e w' ⟨rfl, hS⟩
      go_wp2_with fail
      refine (nnan Hn.out hS).mono ?_
      rintro e w' ⟨rfl, hS⟩
      go_wp2_with fail
      refine (yx (He.out ▸ hS)).mono ?_
      rintro e w' ⟨rfl, hS⟩
      go_wp2_with fail
      refine (skh hS).mono ?_
      rintro e w' ⟨rfl, hS⟩
      go_wp2
      go_ret
      exact ⟨rfl, hS⟩
    · rw [hu]
      have Hi := hide hi
      have Hn := hide hn
      have H1 := hide h1
      clear hu hi hn h1
      have He := hide e1
      clear e1
      go_enter Tryz.func76, Tryz.ntmps76
      go_wp2_with fail
      refine (y43 hS).mono ?_
      rintro e w' ⟨rfl, hS⟩
      go_wp2_with fail
      refine (ninf Hi.out hS).mono ?_
      rintro e w' ⟨rfl, hS⟩
      go_wp2_with fail
      refine (nnan Hn.out hS).mono ?_
      rintro e w' ⟨rfl, hS⟩
      go_wp2_with fail
      refine (nx H1.out hS).mono ?_
      rintro e w' ⟨rfl, hS⟩
      go_wp2_with fail
      refine (yX (He.out ▸ hS)).mono ?_
      rintro e w' ⟨rfl, hS⟩
      go_wp2_with fail
      refine (skh hS).mono ?_
      rintro e w' ⟨rfl, hS⟩
      go_wp2
      go_ret
      exact ⟨rfl, hS⟩
    · rw [hu]
      have Hi := hide hi
      have Hn := hide hn
      have H1 := hide h1
      have H2 := hide h2
      clear hu hi hn h1 h2
      go_enter Tryz.func76, Tryz.ntmps76
      go_wp2_with fail
      refine (y43 hS).mono ?_
      rintro e w' ⟨rfl, hS⟩
      go_wp2_with fail
      refine (ninf Hi.out hS).mono ?_
      rintro e w' ⟨rfl, hS⟩
      go_wp2_with fail
      refine (nnan Hn.out hS).mono ?_
      rintro e w' ⟨rfl, hS⟩
      go_wp2_with fail
      refine (nx H1.out hS).mono ?_
      rintro e w' ⟨rfl, hS⟩
      go_wp2_with fail
      refine (nX H2.out hS).mono ?_
      rintro e w' ⟨rfl, hS⟩
      go_wp2_with fail
      refine (readDecimal_st _ hS).mono ?_
      rintro e w' ⟨rfl, hS⟩
      go_wp2
      go_ret
      exact ⟨rfl, hS⟩
  · rw [hq]
    have H43 := hide hn43
    clear hq hn43
    rcases unsC t with ⟨r, e1, hu⟩ | ⟨hi, r, e1, hu⟩ | ⟨hi, hn, r, e1, hu⟩ | ⟨hi, hn, h1, r, e1, hu⟩ | ⟨hi, hn, h1, h2, hu⟩
    · rw [hu]
      clear hu
      have He := hide e1
      clear e1
      go_enter Tryz.func76, Tryz.ntmps76
      go_wp2_with fail
      refine (n43 H43.out hS).mono ?_
      rintro e w' ⟨rfl, hS⟩
      go_wp2_with fail
      refine (y45 hS).mono ?_
      rintro e w' ⟨rfl, hS⟩
      go_wp2_with fail
      refine (yinf (He.out ▸ hS)).mono ?_
      rintro e w' ⟨rfl, hS⟩
      go_wp2
      go_ret
      exact ⟨rfl, hS⟩
    · rw [hu]
      have Hi := hide hi
      clear hu hi
      have He := hide e1
      clear e1
      go_enter Tryz.func76, Tryz.ntmps76
      go_wp2_with fail
      refine (n43 H43.out hS).mono ?_
      rintro e w' ⟨rfl, hS⟩
      go_wp2_with fail
      refine (y45 hS).mono ?_
      rintro e w' ⟨rfl, hS⟩
      go_wp2_with fail
      refine (ninf Hi.out hS).mono ?_
      rintro e w' ⟨rfl, hS⟩
      go_wp2_with fail
      refine (ynan (He.out ▸ hS)).mono ?_
      rintro e w' ⟨rfl, hS⟩
      go_wp2
      go_ret
      exact ⟨rfl, hS⟩
    · rw [hu]
      have Hi := hide hi
      have Hn := hide hn
      clear hu hi hn
      have He := hide e1
      clear e1
      go_enter Tryz.func76, Tryz.ntmps76
      go_wp2_with fail
      refine (n43 H43.out hS).mono ?_
      rintro e w' ⟨rfl, hS⟩
      go_wp2_with fail
      refine (y45 hS).mono ?_
      rintro e w' ⟨rfl, hS⟩
      go_wp2_with fail
      refine (ninf Hi.out hS).mono ?_
      rintro e w' ⟨rfl, hS⟩
      go_wp2_with fail
      refine (nnan Hn.out hS).mono ?_
      rintro e w' ⟨rfl, hS⟩
      go_wp2_with fail
      refine (yx (He.out ▸ hS)).mono ?_
      rintro e w' ⟨rfl, hS⟩
      go_wp2_with fail
      refine (skh hS).mono ?_
      rintro e w' ⟨rfl, hS⟩
      go_wp2
      go_ret
      exact ⟨rfl, hS⟩
    · rw [hu]
      have Hi := hide hi
      have Hn := hide hn
      have H1 := hide h1
      clear hu hi hn h1
      have He := hide e1
      clear e1
      go_enter Tryz.func76, Tryz.ntmps76
      go_wp2_with fail
      refine (n43 H43.out hS).mono ?_
      rintro e w' ⟨rfl, hS⟩
      go_wp2_with fail
      refine (y45 hS).mono ?_
      rintro e w' ⟨rfl, hS⟩
      go_wp2_with fail
      refine (ninf Hi.out hS).mono ?_
      rintro e w' ⟨rfl, hS⟩
      go_wp2_with fail
      refine (nnan Hn.out hS).mono ?_
      rintro e w' ⟨rfl, hS⟩
      go_wp2_with fail
      refine (nx H1.out hS).mono ?_
      rintro e w' ⟨rfl, hS⟩
      go_wp2_with fail
      refine (yX (He.out ▸ hS)).mono ?_
      rintro e w' ⟨rfl, hS⟩
      go_wp2_with fail
      refine (skh hS).mono ?_
      rintro e w' ⟨rfl, hS⟩
      go_wp2
      go_ret
      exact ⟨rfl, hS⟩
    · rw [hu]
      have Hi := hide hi
      have Hn := hide hn
      have H1 := hide h1
      have H2 := hide h2
      clear hu hi hn h1 h2
      go_enter Tryz.func76, Tryz.ntmps76
      go_wp2_with fail
      refine (n43 H43.out hS).mono ?_
      rintro e w' ⟨rfl, hS⟩
      go_wp2_with fail
      refine (y45 hS).mono ?_
      rintro e w' ⟨rfl, hS⟩
      go_wp2_with fail
      refine (ninf Hi.out hS).mono ?_
      rintro e w' ⟨rfl, hS⟩
      go_wp2_with fail
      refine (nnan Hn.out hS).mono ?_
      rintro e w' ⟨rfl, hS⟩
      go_wp2_with fail
      refine (nx H1.out hS).mono ?_
      rintro e w' ⟨rfl, hS⟩
      go_wp2_with fail
      refine (nX H2.out hS).mono ?_
      rintro e w' ⟨rfl, hS⟩
      go_wp2_with fail
      refine (readDecimal_st _ hS).mono ?_
      rintro e w' ⟨rfl, hS⟩
      go_wp2
      go_ret
      exact ⟨rfl, hS⟩
  · rw [hq]
    have H43 := hide hn43
    have H45 := hide hn45
    clear hq hn43 hn45
    rcases unsC s with ⟨r, e1, hu⟩ | ⟨hi, r, e1, hu⟩ | ⟨hi, hn, r, e1, hu⟩ | ⟨hi, hn, h1, r, e1, hu⟩ | ⟨hi, hn, h1, h2, hu⟩
    · rw [hu]
      clear hu
      have He := hide e1
      clear e1
      go_enter Tryz.func76, Tryz.ntmps76
      go_wp2_with fail
      refine (n43 H43.out hS).mono ?_
      rintro e w' ⟨rfl, hS⟩
      go_wp2_with fail
      refine (n45 H45.out hS).mono ?_
      rintro e w' ⟨rfl, hS⟩
      go_wp2_with fail
      refine (yinf (He.out ▸ hS)).mono ?_
      rintro e w' ⟨rfl, hS⟩
      go_wp2
      go_ret
      exact ⟨rfl, hS⟩
    · rw [hu]
      have Hi := hide hi
      clear hu hi
      have He := hide e1
      clear e1
      go_enter Tryz.func76, Tryz.ntmps76
      go_wp2_with fail
      refine (n43 H43.out hS).mono ?_
      rintro e w' ⟨rfl, hS⟩
      go_wp2_with fail
      refine (n45 H45.out hS).mono ?_
      rintro e w' ⟨rfl, hS⟩
      go_wp2_with fail
      refine (ninf Hi.out hS).mono ?_
      rintro e w' ⟨rfl, hS⟩
      go_wp2_with fail
      refine (ynan (He.out ▸ hS)).mono ?_
      rintro e w' ⟨rfl, hS⟩
      go_wp2
      go_ret
      exact ⟨rfl, hS⟩
    · rw [hu]
      have Hi := hide hi
      have Hn := hide hn
      clear hu hi hn
      have He := hide e1
      clear e1
      go_enter Tryz.func76, Tryz.ntmps76
      go_wp2_with fail
      refine (n43 H43.out hS).mono ?_
      rintro e w' ⟨rfl, hS⟩
      go_wp2_with fail
      refine (n45 H45.out hS).mono ?_
      rintro e w' ⟨rfl, hS⟩
      go_wp2_with fail
      refine (ninf Hi.out hS).mono ?_
      rintro e w' ⟨rfl, hS⟩
      go_wp2_with fail
      refine (nnan Hn.out hS).mono ?_
      rintro e w' ⟨rfl, hS⟩
      go_wp2_with fail
      refine (yx (He.out ▸ hS)).mono ?_
      rintro e w' ⟨rfl, hS⟩
      go_wp2_with fail
      refine (skh hS).mono ?_
      rintro e w' ⟨rfl, hS⟩
      go_wp2
      go_ret
      exact ⟨rfl, hS⟩
    · rw [hu]
      have Hi := hide hi
      have Hn := hide hn
      have H1 := hide h1
      clear hu hi hn h1
      have He := hide e1
      clear e1
      go_enter Tryz.func76, Tryz.ntmps76
      go_wp2_with fail
      refine (n43 H43.out hS).mono ?_
      rintro e w' ⟨rfl, hS⟩
      go_wp2_with fail
      refine (n45 H45.out hS).mono ?_
      rintro e w' ⟨rfl, hS⟩
      go_wp2_with fail
      refine (ninf Hi.out hS).mono ?_
      rintro e w' ⟨rfl, hS⟩
      go_wp2_with fail
      refine (nnan Hn.out hS).mono ?_
      rintro e w' ⟨rfl, hS⟩
      go_wp2_with fail
      refine (nx H1.out hS).mono ?_
      rintro e w' ⟨rfl, hS⟩
      go_wp2_with fail
      refine (yX (He.out ▸ hS)).mono ?_
      rintro e w' ⟨rfl, hS⟩
      go_wp2_with fail
      refine (skh hS).mono ?_
      rintro e w' ⟨rfl, hS⟩
      go_wp2
      go_ret
      exact ⟨rfl, hS⟩
    · rw [hu]
      have Hi := hide hi
      have Hn := hide hn
      have H1 := hide h1
      have H2 := hide h2
      clear hu hi hn h1 h2
      go_enter Tryz.func76, Tryz.ntmps76
      go_wp2_with fail
      refine (n43 H43.out hS).mono ?_
      rintro e w' ⟨rfl, hS⟩
      go_wp2_with fail
      refine (n45 H45.out hS).mono ?_
      rintro e w' ⟨rfl, hS⟩
      go_wp2_with fail
      refine (ninf Hi.out hS).mono ?_
      rintro e w' ⟨rfl, hS⟩
      go_wp2_with fail
      refine (nnan Hn.out hS).mono ?_
      rintro e w' ⟨rfl, hS⟩
      go_wp2_with fail
      refine (nx H1.out hS).mono ?_
      rintro e w' ⟨rfl, hS⟩
      go_wp2_with fail
      refine (nX H2.out hS).mono ?_
      rintro e w' ⟨rfl, hS⟩
      go_wp2_with fail
      refine (readDecimal_st _ hS).mono ?_
      rintro e w' ⟨rfl, hS⟩
      go_wp2
      go_ret
      exact ⟨rfl, hS⟩

set_option maxHeartbeats 1000000 in
set_option maxRecDepth 100000 in
theorem implIsNumber_any (v : Value) (zs : List Int) (w : World) (hv : RdB w.heap.size w v zs) (hs : Sl v zs.length) (hb : Bys zs) (hl : zs.length ≤ 1048576) (hT : Tab w) :
    Calls Tryz.prog 66 #[v] w fun e w' => e = .returned (.bool (numI zs)) ∧ w.grownBy w' none := by
  have hg := World.grownBy_alloc w (.cells #[v, .int .i64 0] 94) none
  have hpos := hT.pos
  have hSt : St w.heap.size (w.alloc (.cells #[v, .int .i64 0] 94)) (w.alloc (.cells #[v, .int .i64 0] 94)) zs :=
    ⟨v, zs, 0, Nat.zero_le _, by simp, by simpa using sc_new w v 0, ⟨hv.keep hg, hs, hb, hl⟩, hT.keep hg, hpos, World.grownBy.refl _ _⟩
  have HN := hide (readNumber_st zs hSt)
  have HG := hide hg
  have HV : Hid (numI zs = ((unsI (strip zs)).1 && decide ((unsI (strip zs)).2 = []))) := rfl
  obtain ⟨a, cap, rfl, _⟩ := hv
  clear hSt hg hpos hT hs
  generalize unsI (strip zs) = u at HN HV
  obtain ⟨u1, u2⟩ := u
  cases u1
  · go_enter Tryz.func66, Tryz.ntmps66
    go_wp2_with fail
    refine HN.out.mono ?_
    rintro e w1 ⟨rfl, hS⟩
    have g1 := (by obtain ⟨_, _, _, _, _, _, _, _, _, g⟩ := hS; exact g : World.grownBy _ w1 _)
    have G := hide (grown_over HG.out (Nat.le_refl _) g1)
    clear hS g1
    go_wp2
    go_ret
    exact ⟨by rw [HV.out]; rfl, G.out⟩
  · go_enter Tryz.func66, Tryz.ntmps66
    go_wp2_with fail
    refine HN.out.mono ?_
    rintro e w1 ⟨rfl, hS⟩
    go_wp2_with fail
    refine (ended_st _ hS).mono ?_
    rintro e w2 ⟨rfl, hS⟩
    have g1 := (by obtain ⟨_, _, _, _, _, _, _, _, _, g⟩ := hS; exact g : World.grownBy _ w2 _)
    have G := hide (grown_over HG.out (Nat.le_refl _) g1)
    clear hS g1
    go_wp2
    go_ret
    exact ⟨by rw [HV.out]; rfl, G.out⟩

end Go.Proofs.YthcjmmpkgljjhaaGreatDoor

