import Derived.Test.YtalkhnhhaiigiaaGreatDoorMAF
namespace Go.Proofs.YtalkhnhhaiigiaaGreatDoor
open Go.RowKit

theorem bys1 {c : Int} (h0 : 0 ≤ c) (h1 : c ≤ 255) : Bys [c] := fun z hz => by simp at hz; omega
theorem y48 {sb : Nat} {w0 w : World} {r : List Int} (h : St sb w0 w ([48] ++ r)) :
    Calls Tryz.prog 131 #[.pointer (some ⟨sb, 0, none⟩), .string { data := #[48] }] w fun e w' => e = .returned (.bool true) ∧ St sb w0 w' r := accept_yes [48] r (bys1 (by omega) (by omega)) (by simp) h
theorem n48 {sb : Nat} {w0 w : World} {s : List Int} (hp : ¬ [48] <+: s) (h : St sb w0 w s) :
    Calls Tryz.prog 131 #[.pointer (some ⟨sb, 0, none⟩), .string { data := #[48] }] w fun e w' => e = .returned (.bool false) ∧ St sb w0 w' s := accept_no [48] s (bys1 (by omega) (by omega)) (by simp) hp h
theorem y46 {sb : Nat} {w0 w : World} {r : List Int} (h : St sb w0 w ([46] ++ r)) :
    Calls Tryz.prog 131 #[.pointer (some ⟨sb, 0, none⟩), .string { data := #[46] }] w fun e w' => e = .returned (.bool true) ∧ St sb w0 w' r := accept_yes [46] r (bys1 (by omega) (by omega)) (by simp) h
theorem n46 {sb : Nat} {w0 w : World} {s : List Int} (hp : ¬ [46] <+: s) (h : St sb w0 w s) :
    Calls Tryz.prog 131 #[.pointer (some ⟨sb, 0, none⟩), .string { data := #[46] }] w fun e w' => e = .returned (.bool false) ∧ St sb w0 w' s := accept_no [46] s (bys1 (by omega) (by omega)) (by simp) hp h
theorem y101 {sb : Nat} {w0 w : World} {r : List Int} (h : St sb w0 w ([101] ++ r)) :
    Calls Tryz.prog 131 #[.pointer (some ⟨sb, 0, none⟩), .string { data := #[101] }] w fun e w' => e = .returned (.bool true) ∧ St sb w0 w' r := accept_yes [101] r (bys1 (by omega) (by omega)) (by simp) h
theorem n101 {sb : Nat} {w0 w : World} {s : List Int} (hp : ¬ [101] <+: s) (h : St sb w0 w s) :
    Calls Tryz.prog 131 #[.pointer (some ⟨sb, 0, none⟩), .string { data := #[101] }] w fun e w' => e = .returned (.bool false) ∧ St sb w0 w' s := accept_no [101] s (bys1 (by omega) (by omega)) (by simp) hp h
theorem y69 {sb : Nat} {w0 w : World} {r : List Int} (h : St sb w0 w ([69] ++ r)) :
    Calls Tryz.prog 131 #[.pointer (some ⟨sb, 0, none⟩), .string { data := #[69] }] w fun e w' => e = .returned (.bool true) ∧ St sb w0 w' r := accept_yes [69] r (bys1 (by omega) (by omega)) (by simp) h
theorem n69 {sb : Nat} {w0 w : World} {s : List Int} (hp : ¬ [69] <+: s) (h : St sb w0 w s) :
    Calls Tryz.prog 131 #[.pointer (some ⟨sb, 0, none⟩), .string { data := #[69] }] w fun e w' => e = .returned (.bool false) ∧ St sb w0 w' s := accept_no [69] s (bys1 (by omega) (by omega)) (by simp) hp h
theorem y43 {sb : Nat} {w0 w : World} {r : List Int} (h : St sb w0 w ([43] ++ r)) :
    Calls Tryz.prog 131 #[.pointer (some ⟨sb, 0, none⟩), .string { data := #[43] }] w fun e w' => e = .returned (.bool true) ∧ St sb w0 w' r := accept_yes [43] r (bys1 (by omega) (by omega)) (by simp) h
theorem n43 {sb : Nat} {w0 w : World} {s : List Int} (hp : ¬ [43] <+: s) (h : St sb w0 w s) :
    Calls Tryz.prog 131 #[.pointer (some ⟨sb, 0, none⟩), .string { data := #[43] }] w fun e w' => e = .returned (.bool false) ∧ St sb w0 w' s := accept_no [43] s (bys1 (by omega) (by omega)) (by simp) hp h
theorem y45 {sb : Nat} {w0 w : World} {r : List Int} (h : St sb w0 w ([45] ++ r)) :
    Calls Tryz.prog 131 #[.pointer (some ⟨sb, 0, none⟩), .string { data := #[45] }] w fun e w' => e = .returned (.bool true) ∧ St sb w0 w' r := accept_yes [45] r (bys1 (by omega) (by omega)) (by simp) h
theorem n45 {sb : Nat} {w0 w : World} {s : List Int} (hp : ¬ [45] <+: s) (h : St sb w0 w s) :
    Calls Tryz.prog 131 #[.pointer (some ⟨sb, 0, none⟩), .string { data := #[45] }] w fun e w' => e = .returned (.bool false) ∧ St sb w0 w' s := accept_no [45] s (bys1 (by omega) (by omega)) (by simp) hp h
theorem skd {sb : Nat} {w0 w : World} {s : List Int} (t : List Int) (b : Bool) (h1 : s.dropWhile isDig = t) (h2 : headIs isDig s = b) (h : St sb w0 w s) :
    Calls Tryz.prog 132 #[.pointer (some ⟨sb, 0, none⟩), .func (.func 146) #[] #[]] w fun e w' => e = .returned (.bool b) ∧ St sb w0 w' t := by
  rw [← h1, ← h2]
  exact skip_st _ isDig asks_digit asc_dig s h

set_option maxHeartbeats 4000000 in
set_option maxRecDepth 100000 in
theorem readDecimal_a1 {sb : Nat} {w0 w : World} (s r2 s2 : List Int) (b2 : Bool) (hs2 : Hid (r2.dropWhile isDig = s2)) (hh2 : Hid (headIs isDig r2 = b2)) (HM : Hid (decI s = decOf (true, s2))) (hS : St sb w0 w ([48] ++ ([46] ++ r2))) :
    Calls Tryz.prog 134 #[.pointer (some ⟨sb, 0, none⟩)] w fun e w' => e = .returned (.bool (decI s).1) ∧ St sb w0 w' (decI s).2 := by
  have hnot : ∀ (x : Bool) (w : World), (Op.unary .not (.bool x)).run Tryz.prog w = .ok (.bool (!x)) w := fun _ _ => rfl
  cases b2
  all_goals
    rcases expC s2 with ⟨r3, rfl, hd⟩ | ⟨r3, rfl, hn101, hd⟩ | ⟨hn101, hn69, hd⟩
    · rcases signC r3 with ⟨t, rfl, hq⟩ | ⟨t, rfl, hn43, hq⟩ | ⟨hn43, hn45, hq⟩
      · rw [hq] at hd
        have HR := hide (HM.out.trans hd)
        clear hd hq
        go_enter Tryz.func134, Tryz.ntmps134
        go_wp2_with fail
        refine (y48 hS).mono ?_
        rintro e w' ⟨rfl, hS⟩
        go_wp2_with fail
        refine (y46 hS).mono ?_
        rintro e w' ⟨rfl, hS⟩
        go_wp2_with fail
        refine (skd _ _ hs2.out hh2.out hS).mono ?_
        rintro e w' ⟨rfl, hS⟩
        go_wp2_with fail
        refine (y101 hS).mono ?_
        rintro e w' ⟨rfl, hS⟩
        go_wp2_with fail
        refine (y43 hS).mono ?_
        rintro e w' ⟨rfl, hS⟩
        go_wp2_with fail
        refine (skd _ _ rfl rfl hS).mono ?_
        rintro e w' ⟨rfl, hS⟩
        go_wp2
        go_ret
        exact ⟨by rw [HR.out]; rfl, by rw [HR.out]; exact hS⟩
      · rw [hq] at hd
        have HR := hide (HM.out.trans hd)
        have H43 := hide hn43
        clear hd hq hn43
        go_enter Tryz.func134, Tryz.ntmps134
        go_wp2_with fail
        refine (y48 hS).mono ?_
        rintro e w' ⟨rfl, hS⟩
        go_wp2_with fail
        refine (y46 hS).mono ?_
        rintro e w' ⟨rfl, hS⟩
        go_wp2_with fail
        refine (skd _ _ hs2.out hh2.out hS).mono ?_
        rintro e w' ⟨rfl, hS⟩
        go_wp2_with fail
        refine (y101 hS).mono ?_
        rintro e w' ⟨rfl, hS⟩
        go_wp2_with fail
        refine (n43 H43.out hS).mono ?_
        rintro e w' ⟨rfl, hS⟩
        go_wp2_with fail
        refine (y45 hS).mono ?_
        rintro e w' ⟨rfl, hS⟩
        go_wp2_with fail
        refine (skd _ _ rfl rfl hS).mono ?_
        rintro e w' ⟨rfl, hS⟩
        go_wp2
        go_ret
        exact ⟨by rw [HR.out]; rfl, by rw [HR.out]; exact hS⟩
      · rw [hq] at hd
        have HR := hide (HM.out.trans hd)
        have H43 := hide hn43
        have H45 := hide hn45
        clear hd hq hn43 hn45
        go_enter Tryz.func134, Tryz.ntmps134
        go_wp2_with fail
        refine (y48 hS).mono ?_
        rintro e w' ⟨rfl, hS⟩
        go_wp2_with fail
        refine (y46 hS).mono ?_
        rintro e w' ⟨rfl, hS⟩
        go_wp2_with fail
        refine (skd _ _ hs2.out hh2.out hS).mono ?_
        rintro e w' ⟨rfl, hS⟩
        go_wp2_with fail
        refine (y101 hS).mono ?_
        rintro e w' ⟨rfl, hS⟩
        go_wp2_with fail
        refine (n43 H43.out hS).mono ?_
        rintro e w' ⟨rfl, hS⟩
        go_wp2_with fail
        refine (n45 H45.out hS).mono ?_
        rintro e w' ⟨rfl, hS⟩
        go_wp2_with fail
        refine (skd _ _ rfl rfl hS).mono ?_
        rintro e w' ⟨rfl, hS⟩
        go_wp2
        go_ret
        exact ⟨by rw [HR.out]; rfl, by rw [HR.out]; exact hS⟩
    · rcases signC r3 with ⟨t, rfl, hq⟩ | ⟨t, rfl, hn43, hq⟩ | ⟨hn43, hn45, hq⟩
      · rw [hq] at hd
        have HR := hide (HM.out.trans hd)
        have H101 := hide hn101
        clear hd hq hn101
        go_enter Tryz.func134, Tryz.ntmps134
        go_wp2_with fail
        refine (y48 hS).mono ?_
        rintro e w' ⟨rfl, hS⟩
        go_wp2_with fail
        refine (y46 hS).mono ?_
        rintro e w' ⟨rfl, hS⟩
        go_wp2_with fail
        refine (skd _ _ hs2.out hh2.out hS).mono ?_
        rintro e w' ⟨rfl, hS⟩
        go_wp2_with fail
        refine (n101 H101.out hS).mono ?_
        rintro e w' ⟨rfl, hS⟩
        go_wp2_with fail
        refine (y69 hS).mono ?_
        rintro e w' ⟨rfl, hS⟩
        go_wp2_with fail
        refine (y43 hS).mono ?_
        rintro e w' ⟨rfl, hS⟩
        go_wp2_with fail
        refine (skd _ _ rfl rfl hS).mono ?_
        rintro e w' ⟨rfl, hS⟩
        go_wp2
        go_ret
        exact ⟨by rw [HR.out]; rfl, by rw [HR.out]; exact hS⟩
      · rw [hq] at hd
        have HR := hide (HM.out.trans hd)
        have H101 := hide hn101
        have H43 := hide hn43
        clear hd hq hn101 hn43
        go_enter Tryz.func134, Tryz.ntmps134
        go_wp2_with fail
        refine (y48 hS).mono ?_
        rintro e w' ⟨rfl, hS⟩
        go_wp2_with fail
        refine (y46 hS).mono ?_
        rintro e w' ⟨rfl, hS⟩
        go_wp2_with fail
        refine (skd _ _ hs2.out hh2.out hS).mono ?_
        rintro e w' ⟨rfl, hS⟩
        go_wp2_with fail
        refine (n101 H101.out hS).mono ?_
        rintro e w' ⟨rfl, hS⟩
        go_wp2_with fail
        refine (y69 hS).mono ?_
        rintro e w' ⟨rfl, hS⟩
        go_wp2_with fail
        refine (n43 H43.out hS).mono ?_
        rintro e w' ⟨rfl, hS⟩
        go_wp2_with fail
        refine (y45 hS).mono ?_
        rintro e w' ⟨rfl, hS⟩
        go_wp2_with fail
        refine (skd _ _ rfl rfl hS).mono ?_
        rintro e w' ⟨rfl, hS⟩
        go_wp2
        go_ret
        exact ⟨by rw [HR.out]; rfl, by rw [HR.out]; exact hS⟩
      · rw [hq] at hd
        have HR := hide (HM.out.trans hd)
        have H101 := hide hn101
        have H43 := hide hn43
        have H45 := hide hn45
        clear hd hq hn101 hn43 hn45
        go_enter Tryz.func134, Tryz.ntmps134
        go_wp2_with fail
        refine (y48 hS).mono ?_
        rintro e w' ⟨rfl, hS⟩
        go_wp2_with fail
        refine (y46 hS).mono ?_
        rintro e w' ⟨rfl, hS⟩
        go_wp2_with fail
        refine (skd _ _ hs2.out hh2.out hS).mono ?_
        rintro e w' ⟨rfl, hS⟩
        go_wp2_with fail
        refine (n101 H101.out hS).mono ?_
        rintro e w' ⟨rfl, hS⟩
        go_wp2_with fail
        refine (y69 hS).mono ?_
        rintro e w' ⟨rfl, hS⟩
        go_wp2_with fail
        refine (n43 H43.out hS).mono ?_
        rintro e w' ⟨rfl, hS⟩
        go_wp2_with fail
        refine (n45 H45.out hS).mono ?_
        rintro e w' ⟨rfl, hS⟩
        go_wp2_with fail
        refine (skd _ _ rfl rfl hS).mono ?_
        rintro e w' ⟨rfl, hS⟩
        go_wp2
        go_ret
        exact ⟨by rw [HR.out]; rfl, by rw [HR.out]; exact hS⟩
    · have HR := hide (HM.out.trans hd)
      have H101 := hide hn101
      have H69 := hide hn69
      clear hd hn101 hn69
      go_enter Tryz.func134, Tryz.ntmps134
      go_wp2_with fail
      refine (y48 hS).mono ?_
      rintro e w' ⟨rfl, hS⟩
      go_wp2_with fail
      refine (y46 hS).mono ?_
      rintro e w' ⟨rfl, hS⟩
      go_wp2_with fail
      refine (skd _ _ hs2.out hh2.out hS).mono ?_
      rintro e w' ⟨rfl, hS⟩
      go_wp2_with fail
      refine (n101 H101.out hS).mono ?_
      rintro e w' ⟨rfl, hS⟩
      go_wp2_with fail
      refine (n69 H69.out hS).mono ?_
      rintro e w' ⟨rfl, hS⟩
      go_wp2
      go_ret
      exact ⟨by rw [HR.out]; rfl, by rw [HR.out]; exact hS⟩

set_option maxHeartbeats 4000000 in
set_option maxRecDepth 100000 in
theorem readDecimal_a2 {sb : Nat} {w0 w : World} (s r : List Int) (H46 : Hid (¬ [46] <+: r)) (HM : Hid (decI s = decOf (true, r))) (hS : St sb w0 w ([48] ++ r)) :
    Calls Tryz.prog 134 #[.pointer (some ⟨sb, 0, none⟩)] w fun e w' => e = .returned (.bool (decI s).1) ∧ St sb w0 w' (decI s).2 := by
  have hnot : ∀ (x : Bool) (w : World), (Op.unary .not (.bool x)).run Tryz.prog w = .ok (.bool (!x)) w := fun _ _ => rfl
  rcases expC r with ⟨r3, rfl, hd⟩ | ⟨r3, rfl, hn101, hd⟩ | ⟨hn101, hn69, hd⟩
  · rcases signC r3 with ⟨t, rfl, hq⟩ | ⟨t, rfl, hn43, hq⟩ | ⟨hn43, hn45, hq⟩
    · rw [hq] at hd
      have HR := hide (HM.out.trans hd)
      clear hd hq
      go_enter Tryz.func134, Tryz.ntmps134
      go_wp2_with fail
      refine (y48 hS).mono ?_
      rintro e w' ⟨rfl, hS⟩
      go_wp2_with fail
      refine (n46 H46.out hS).mono ?_
      rintro e w' ⟨rfl, hS⟩
      go_wp2_with fail
      refine (y101 hS).mono ?_
      rintro e w' ⟨rfl, hS⟩
      go_wp2_with fail
      refine (y43 hS).mono ?_
      rintro e w' ⟨rfl, hS⟩
      go_wp2_with fail
      refine (skd _ _ rfl rfl hS).mono ?_
      rintro e w' ⟨rfl, hS⟩
      go_wp2
      go_ret
      exact ⟨by rw [HR.out]; rfl, by rw [HR.out]; exact hS⟩
    · rw [hq] at hd
      have HR := hide (HM.out.trans hd)
      have H43 := hide hn43
      clear hd hq hn43
      go_enter Tryz.func134, Tryz.ntmps134
      go_wp2_with fail
      refine (y48 hS).mono ?_
      rintro e w' ⟨rfl, hS⟩
      go_wp2_with fail
      refine (n46 H46.out hS).mono ?_
      rintro e w' ⟨rfl, hS⟩
      go_wp2_with fail
      refine (y101 hS).mono ?_
      rintro e w' ⟨rfl, hS⟩
      go_wp2_with fail
      refine (n43 H43.out hS).mono ?_
      rintro e w' ⟨rfl, hS⟩
      go_wp2_with fail
      refine (y45 hS).mono ?_
      rintro e w' ⟨rfl, hS⟩
      go_wp2_with fail
      refine (skd _ _ rfl rfl hS).mono ?_
      rintro e w' ⟨rfl, hS⟩
      go_wp2
      go_ret
      exact ⟨by rw [HR.out]; rfl, by rw [HR.out]; exact hS⟩
    · rw [hq] at hd
      have HR := hide (HM.out.trans hd)
      have H43 := hide hn43
      have H45 := hide hn45
      clear hd hq hn43 hn45
      go_enter Tryz.func134, Tryz.ntmps134
      go_wp2_with fail
      refine (y48 hS).mono ?_
      rintro e w' ⟨rfl, hS⟩
      go_wp2_with fail
      refine (n46 H46.out hS).mono ?_
      rintro e w' ⟨rfl, hS⟩
      go_wp2_with fail
      refine (y101 hS).mono ?_
      rintro e w' ⟨rfl, hS⟩
      go_wp2_with fail
      refine (n43 H43.out hS).mono ?_
      rintro e w' ⟨rfl, hS⟩
      go_wp2_with fail
      refine (n45 H45.out hS).mono ?_
      rintro e w' ⟨rfl, hS⟩
      go_wp2_with fail
      refine (skd _ _ rfl rfl hS).mono ?_
      rintro e w' ⟨rfl, hS⟩
      go_wp2
      go_ret
      exact ⟨by rw [HR.out]; rfl, by rw [HR.out]; exact hS⟩
  · rcases signC r3 with ⟨t, rfl, hq⟩ | ⟨t, rfl, hn43, hq⟩ | ⟨hn43, hn45, hq⟩
    · rw [hq] at hd
      have HR := hide (HM.out.trans hd)
      have H101 := hide hn101
      clear hd hq hn101
      go_enter Tryz.func134, Tryz.ntmps134
      go_wp2_with fail
      refine (y48 hS).mono ?_
      rintro e w' ⟨rfl, hS⟩
      go_wp2_with fail
      refine (n46 H46.out hS).mono ?_
      rintro e w' ⟨rfl, hS⟩
      go_wp2_with fail
      refine (n101 H101.out hS).mono ?_
      rintro e w' ⟨rfl, hS⟩
      go_wp2_with fail
      refine (y69 hS).mono ?_
      rintro e w' ⟨rfl, hS⟩
      go_wp2_with fail
      refine (y43 hS).mono ?_
      rintro e w' ⟨rfl, hS⟩
      go_wp2_with fail
      refine (skd _ _ rfl rfl hS).mono ?_
      rintro e w' ⟨rfl, hS⟩
      go_wp2
      go_ret
      exact ⟨by rw [HR.out]; rfl, by rw [HR.out]; exact hS⟩
    · rw [hq] at hd
      have HR := hide (HM.out.trans hd)
      have H101 := hide hn101
      have H43 := hide hn43
      clear hd hq hn101 hn43
      go_enter Tryz.func134, Tryz.ntmps134
      go_wp2_with fail
      refine (y48 hS).mono ?_
      rintro e w' ⟨rfl, hS⟩
      go_wp2_with fail
      refine (n46 H46.out hS).mono ?_
      rintro e w' ⟨rfl, hS⟩
      go_wp2_with fail
      refine (n101 H101.out hS).mono ?_
      rintro e w' ⟨rfl, hS⟩
      go_wp2_with fail
      refine (y69 hS).mono ?_
      rintro e w' ⟨rfl, hS⟩
      go_wp2_with fail
      refine (n43 H43.out hS).mono ?_
      rintro e w' ⟨rfl, hS⟩
      go_wp2_with fail
      refine (y45 hS).mono ?_
      rintro e w' ⟨rfl, hS⟩
      go_wp2_with fail
      refine (skd _ _ rfl rfl hS).mono ?_
      rintro e w' ⟨rfl, hS⟩
      go_wp2
      go_ret
      exact ⟨by rw [HR.out]; rfl, by rw [HR.out]; exact hS⟩
    · rw [hq] at hd
      have HR := hide (HM.out.trans hd)
      have H101 := hide hn101
      have H43 := hide hn43
      have H45 := hide hn45
      clear hd hq hn101 hn43 hn45
      go_enter Tryz.func134, Tryz.ntmps134
      go_wp2_with fail
      refine (y48 hS).mono ?_
      rintro e w' ⟨rfl, hS⟩
      go_wp2_with fail
      refine (n46 H46.out hS).mono ?_
      rintro e w' ⟨rfl, hS⟩
      go_wp2_with fail
      refine (n101 H101.out hS).mono ?_
      rintro e w' ⟨rfl, hS⟩
      go_wp2_with fail
      refine (y69 hS).mono ?_
      rintro e w' ⟨rfl, hS⟩
      go_wp2_with fail
      refine (n43 H43.out hS).mono ?_
      rintro e w' ⟨rfl, hS⟩
      go_wp2_with fail
      refine (n45 H45.out hS).mono ?_
      rintro e w' ⟨rfl, hS⟩
      go_wp2_with fail
      refine (skd _ _ rfl rfl hS).mono ?_
      rintro e w' ⟨rfl, hS⟩
      go_wp2
      go_ret
      exact ⟨by rw [HR.out]; rfl, by rw [HR.out]; exact hS⟩
  · have HR := hide (HM.out.trans hd)
    have H101 := hide hn101
    have H69 := hide hn69
    clear hd hn101 hn69
    go_enter Tryz.func134, Tryz.ntmps134
    go_wp2_with fail
    refine (y48 hS).mono ?_
    rintro e w' ⟨rfl, hS⟩
    go_wp2_with fail
    refine (n46 H46.out hS).mono ?_
    rintro e w' ⟨rfl, hS⟩
    go_wp2_with fail
    refine (n101 H101.out hS).mono ?_
    rintro e w' ⟨rfl, hS⟩
    go_wp2_with fail
    refine (n69 H69.out hS).mono ?_
    rintro e w' ⟨rfl, hS⟩
    go_wp2
    go_ret
    exact ⟨by rw [HR.out]; rfl, by rw [HR.out]; exact hS⟩

set_option maxHeartbeats 4000000 in
set_option maxRecDepth 100000 in
theorem readDecimal_b1 {sb : Nat} {w0 w : World} (s r2 s2 : List Int) (b2 : Bool) (H48 : Hid (¬ [48] <+: s)) (hs1 : Hid (s.dropWhile isDig = [46] ++ r2)) (hh : Hid (headIs isDig s = true)) (hs2 : Hid (r2.dropWhile isDig = s2)) (hh2 : Hid (headIs isDig r2 = b2)) (HM : Hid (decI s = decOf (true, s2))) (hS : St sb w0 w s) :
    Calls Tryz.prog 134 #[.pointer (some ⟨sb, 0, none⟩)] w fun e w' => e = .returned (.bool (decI s).1) ∧ St sb w0 w' (decI s).2 := by
  have hnot : ∀ (x : Bool) (w : World), (Op.unary .not (.bool x)).run Tryz.prog w = .ok (.bool (!x)) w := fun _ _ => rfl
  cases b2
  all_goals
    rcases expC s2 with ⟨r3, rfl, hd⟩ | ⟨r3, rfl, hn101, hd⟩ | ⟨hn101, hn69, hd⟩
    · rcases signC r3 with ⟨t, rfl, hq⟩ | ⟨t, rfl, hn43, hq⟩ | ⟨hn43, hn45, hq⟩
      · rw [hq] at hd
        have HR := hide (HM.out.trans hd)
        clear hd hq
        go_enter Tryz.func134, Tryz.ntmps134
        go_wp2_with fail
        refine (n48 H48.out hS).mono ?_
        rintro e w' ⟨rfl, hS⟩
        go_wp2_with fail
        refine (skd _ _ hs1.out hh.out hS).mono ?_
        rintro e w' ⟨rfl, hS⟩
        go_wp2_with fail
        refine (y46 hS).mono ?_
        rintro e w' ⟨rfl, hS⟩
        go_wp2_with fail
        refine (skd _ _ hs2.out hh2.out hS).mono ?_
        rintro e w' ⟨rfl, hS⟩
        go_wp2_with fail
        refine (y101 hS).mono ?_
        rintro e w' ⟨rfl, hS⟩
        go_wp2_with fail
        refine (y43 hS).mono ?_
        rintro e w' ⟨rfl, hS⟩
        go_wp2_with fail
        refine (skd _ _ rfl rfl hS).mono ?_
        rintro e w' ⟨rfl, hS⟩
        go_wp2
        go_ret
        exact ⟨by rw [HR.out]; rfl, by rw [HR.out]; exact hS⟩
      · rw [hq] at hd
        have HR := hide (HM.out.trans hd)
        have H43 := hide hn43
        clear hd hq hn43
        go_enter Tryz.func134, Tryz.ntmps134
        go_wp2_with fail
        refine (n48 H48.out hS).mono ?_
        rintro e w' ⟨rfl, hS⟩
        go_wp2_with fail
        refine (skd _ _ hs1.out hh.out hS).mono ?_
        rintro e w' ⟨rfl, hS⟩
        go_wp2_with fail
        refine (y46 hS).mono ?_
        rintro e w' ⟨rfl, hS⟩
        go_wp2_with fail
        refine (skd _ _ hs2.out hh2.out hS).mono ?_
        rintro e w' ⟨rfl, hS⟩
        go_wp2_with fail
        refine (y101 hS).mono ?_
        rintro e w' ⟨rfl, hS⟩
        go_wp2_with fail
        refine (n43 H43.out hS).mono ?_
        rintro e w' ⟨rfl, hS⟩
        go_wp2_with fail
        refine (y45 hS).mono ?_
        rintro e w' ⟨rfl, hS⟩
        go_wp2_with fail
        refine (skd _ _ rfl rfl hS).mono ?_
        rintro e w' ⟨rfl, hS⟩
        go_wp2
        go_ret
        exact ⟨by rw [HR.out]; rfl, by rw [HR.out]; exact hS⟩
      · rw [hq] at hd
        have HR := hide (HM.out.trans hd)
        have H43 := hide hn43
        have H45 := hide hn45
        clear hd hq hn43 hn45
        go_enter Tryz.func134, Tryz.ntmps134
        go_wp2_with fail
        refine (n48 H48.out hS).mono ?_
        rintro e w' ⟨rfl, hS⟩
        go_wp2_with fail
        refine (skd _ _ hs1.out hh.out hS).mono ?_
        rintro e w' ⟨rfl, hS⟩
        go_wp2_with fail
        refine (y46 hS).mono ?_
        rintro e w' ⟨rfl, hS⟩
        go_wp2_with fail
        refine (skd _ _ hs2.out hh2.out hS).mono ?_
        rintro e w' ⟨rfl, hS⟩
        go_wp2_with fail
        refine (y101 hS).mono ?_
        rintro e w' ⟨rfl, hS⟩
        go_wp2_with fail
        refine (n43 H43.out hS).mono ?_
        rintro e w' ⟨rfl, hS⟩
        go_wp2_with fail
        refine (n45 H45.out hS).mono ?_
        rintro e w' ⟨rfl, hS⟩
        go_wp2_with fail
        refine (skd _ _ rfl rfl hS).mono ?_
        rintro e w' ⟨rfl, hS⟩
        go_wp2
        go_ret
        exact ⟨by rw [HR.out]; rfl, by rw [HR.out]; exact hS⟩
    · rcases signC r3 with ⟨t, rfl, hq⟩ | ⟨t, rfl, hn43, hq⟩ | ⟨hn43, hn45, hq⟩
      · rw [hq] at hd
        have HR := hide (HM.out.trans hd)
        have H101 := hide hn101
        clear hd hq hn101
        go_enter Tryz.func134, Tryz.ntmps134
        go_wp2_with fail
        refine (n48 H48.out hS).mono ?_
        rintro e w' ⟨rfl, hS⟩
        go_wp2_with fail
        refine (skd _ _ hs1.out hh.out hS).mono ?_
        rintro e w' ⟨rfl, hS⟩
        go_wp2_with fail
        refine (y46 hS).mono ?_
        rintro e w' ⟨rfl, hS⟩
        go_wp2_with fail
        refine (skd _ _ hs2.out hh2.out hS).mono ?_
        rintro e w' ⟨rfl, hS⟩
        go_wp2_with fail
        refine (n101 H101.out hS).mono ?_
        rintro e w' ⟨rfl, hS⟩
        go_wp2_with fail
        refine (y69 hS).mono ?_
        rintro e w' ⟨rfl, hS⟩
        go_wp2_with fail
        refine (y43 hS).mono ?_
        rintro e w' ⟨rfl, hS⟩
        go_wp2_with fail
        refine (skd _ _ rfl rfl hS).mono ?_
        rintro e w' ⟨rfl, hS⟩
        go_wp2
        go_ret
        exact ⟨by rw [HR.out]; rfl, by rw [HR.out]; exact hS⟩
      · rw [hq] at hd
        have HR := hide (HM.out.trans hd)
        have H101 := hide hn101
        have H43 := hide hn43
        clear hd hq hn101 hn43
        go_enter Tryz.func134, Tryz.ntmps134
        go_wp2_with fail
        refine (n48 H48.out hS).mono ?_
        rintro e w' ⟨rfl, hS⟩
        go_wp2_with fail
        refine (skd _ _ hs1.out hh.out hS).mono ?_
        rintro e w' ⟨rfl, hS⟩
        go_wp2_with fail
        refine (y46 hS).mono ?_
        rintro e w' ⟨rfl, hS⟩
        go_wp2_with fail
        refine (skd _ _ hs2.out hh2.out hS).mono ?_
        rintro e w' ⟨rfl, hS⟩
        go_wp2_with fail
        refine (n101 H101.out hS).mono ?_
        rintro e w' ⟨rfl, hS⟩
        go_wp2_with fail
        refine (y69 hS).mono ?_
        rintro e w' ⟨rfl, hS⟩
        go_wp2_with fail
        refine (n43 H43.out hS).mono ?_
        rintro e w' ⟨rfl, hS⟩
        go_wp2_with fail
        refine (y45 hS).mono ?_
        rintro e w' ⟨rfl, hS⟩
        go_wp2_with fail
        refine (skd _ _ rfl rfl hS).mono ?_
        rintro e w' ⟨rfl, hS⟩
        go_wp2
        go_ret
        exact ⟨by rw [HR.out]; rfl, by rw [HR.out]; exact hS⟩
      · rw [hq] at hd
        have HR := hide (HM.out.trans hd)
        have H101 := hide hn101
        have H43 := hide hn43
        have H45 := hide hn45
        clear hd hq hn101 hn43 hn45
        go_enter Tryz.func134, Tryz.ntmps134
        go_wp2_with fail
        refine (n48 H48.out hS).mono ?_
        rintro e w' ⟨rfl, hS⟩
        go_wp2_with fail
        refine (skd _ _ hs1.out hh.out hS).mono ?_
        rintro e w' ⟨rfl, hS⟩
        go_wp2_with fail
        refine (y46 hS).mono ?_
        rintro e w' ⟨rfl, hS⟩
        go_wp2_with fail
        refine (skd _ _ hs2.out hh2.out hS).mono ?_
        rintro e w' ⟨rfl, hS⟩
        go_wp2_with fail
        refine (n101 H101.out hS).mono ?_
        rintro e w' ⟨rfl, hS⟩
        go_wp2_with fail
        refine (y69 hS).mono ?_
        rintro e w' ⟨rfl, hS⟩
        go_wp2_with fail
        refine (n43 H43.out hS).mono ?_
        rintro e w' ⟨rfl, hS⟩
        go_wp2_with fail
        refine (n45 H45.out hS).mono ?_
        rintro e w' ⟨rfl, hS⟩
        go_wp2_with fail
        refine (skd _ _ rfl rfl hS).mono ?_
        rintro e w' ⟨rfl, hS⟩
        go_wp2
        go_ret
        exact ⟨by rw [HR.out]; rfl, by rw [HR.out]; exact hS⟩
    · have HR := hide (HM.out.trans hd)
      have H101 := hide hn101
      have H69 := hide hn69
      clear hd hn101 hn69
      go_enter Tryz.func134, Tryz.ntmps134
      go_wp2_with fail
      refine (n48 H48.out hS).mono ?_
      rintro e w' ⟨rfl, hS⟩
      go_wp2_with fail
      refine (skd _ _ hs1.out hh.out hS).mono ?_
      rintro e w' ⟨rfl, hS⟩
      go_wp2_with fail
      refine (y46 hS).mono ?_
      rintro e w' ⟨rfl, hS⟩
      go_wp2_with fail
      refine (skd _ _ hs2.out hh2.out hS).mono ?_
      rintro e w' ⟨rfl, hS⟩
      go_wp2_with fail
      refine (n101 H101.out hS).mono ?_
      rintro e w' ⟨rfl, hS⟩
      go_wp2_with fail
      refine (n69 H69.out hS).mono ?_
      rintro e w' ⟨rfl, hS⟩
      go_wp2
      go_ret
      exact ⟨by rw [HR.out]; rfl, by rw [HR.out]; exact hS⟩

set_option maxHeartbeats 4000000 in
set_option maxRecDepth 100000 in
theorem readDecimal_b2 {sb : Nat} {w0 w : World} (s s1 : List Int) (H48 : Hid (¬ [48] <+: s)) (hs1 : Hid (s.dropWhile isDig = s1)) (hh : Hid (headIs isDig s = true)) (H46 : Hid (¬ [46] <+: s1)) (HM : Hid (decI s = decOf (true, s1))) (hS : St sb w0 w s) :
    Calls Tryz.prog 134 #[.pointer (some ⟨sb, 0, none⟩)] w fun e w' => e = .returned (.bool (decI s).1) ∧ St sb w0 w' (decI s).2 := by
  have hnot : ∀ (x : Bool) (w : World), (Op.unary .not (.bool x)).run Tryz.prog w = .ok (.bool (!x)) w := fun _ _ => rfl
  rcases expC s1 with ⟨r3, rfl, hd⟩ | ⟨r3, rfl, hn101, hd⟩ | ⟨hn101, hn69, hd⟩
  · rcases signC r3 with ⟨t, rfl, hq⟩ | ⟨t, rfl, hn43, hq⟩ | ⟨hn43, hn45, hq⟩
    · rw [hq] at hd
      have HR := hide (HM.out.trans hd)
      clear hd hq
      go_enter Tryz.func134, Tryz.ntmps134
      go_wp2_with fail
      refine (n48 H48.out hS).mono ?_
      rintro e w' ⟨rfl, hS⟩
      go_wp2_with fail
      refine (skd _ _ hs1.out hh.out hS).mono ?_
      rintro e w' ⟨rfl, hS⟩
      go_wp2_with fail
      refine (n46 H46.out hS).mono ?_
      rintro e w' ⟨rfl, hS⟩
      go_wp2_with fail
      refine (y101 hS).mono ?_
      rintro e w' ⟨rfl, hS⟩
      go_wp2_with fail
      refine (y43 hS).mono ?_
      rintro e w' ⟨rfl, hS⟩
      go_wp2_with fail
      refine (skd _ _ rfl rfl hS).mono ?_
      rintro e w' ⟨rfl, hS⟩
      go_wp2
      go_ret
      exact ⟨by rw [HR.out]; rfl, by rw [HR.out]; exact hS⟩
    · rw [hq] at hd
      have HR := hide (HM.out.trans hd)
      have H43 := hide hn43
      clear hd hq hn43
      go_enter Tryz.func134, Tryz.ntmps134
      go_wp2_with fail
      refine (n48 H48.out hS).mono ?_
      rintro e w' ⟨rfl, hS⟩
      go_wp2_with fail
      refine (skd _ _ hs1.out hh.out hS).mono ?_
      rintro e w' ⟨rfl, hS⟩
      go_wp2_with fail
      refine (n46 H46.out hS).mono ?_
      rintro e w' ⟨rfl, hS⟩
      go_wp2_with fail
      refine (y101 hS).mono ?_
      rintro e w' ⟨rfl, hS⟩
      go_wp2_with fail
      refine (n43 H43.out hS).mono ?_
      rintro e w' ⟨rfl, hS⟩
      go_wp2_with fail
      refine (y45 hS).mono ?_
      rintro e w' ⟨rfl, hS⟩
      go_wp2_with fail
      refine (skd _ _ rfl rfl hS).mono ?_
      rintro e w' ⟨rfl, hS⟩
      go_wp2
      go_ret
      exact ⟨by rw [HR.out]; rfl, by rw [HR.out]; exact hS⟩
    · rw [hq] at hd
      have HR := hide (HM.out.trans hd)
      have H43 := hide hn43
      have H45 := hide hn45
      clear hd hq hn43 hn45
      go_enter Tryz.func134, Tryz.ntmps134
      go_wp2_with fail
      refine (n48 H48.out hS).mono ?_
      rintro e w' ⟨rfl, hS⟩
      go_wp2_with fail
      refine (skd _ _ hs1.out hh.out hS).mono ?_
      rintro e w' ⟨rfl, hS⟩
      go_wp2_with fail
      refine (n46 H46.out hS).mono ?_
      rintro e w' ⟨rfl, hS⟩
      go_wp2_with fail
      refine (y101 hS).mono ?_
      rintro e w' ⟨rfl, hS⟩
      go_wp2_with fail
      refine (n43 H43.out hS).mono ?_
      rintro e w' ⟨rfl, hS⟩
      go_wp2_with fail
      refine (n45 H45.out hS).mono ?_
      rintro e w' ⟨rfl, hS⟩
      go_wp2_with fail
      refine (skd _ _ rfl rfl hS).mono ?_
      rintro e w' ⟨rfl, hS⟩
      go_wp2
      go_ret
      exact ⟨by rw [HR.out]; rfl, by rw [HR.out]; exact hS⟩
  · rcases signC r3 with ⟨t, rfl, hq⟩ | ⟨t, rfl, hn43, hq⟩ | ⟨hn43, hn45, hq⟩
    · rw [hq] at hd
      have HR := hide (HM.out.trans hd)
      have H101 := hide hn101
      clear hd hq hn101
      go_enter Tryz.func134, Tryz.ntmps134
      go_wp2_with fail
      refine (n48 H48.out hS).mono ?_
      rintro e w' ⟨rfl, hS⟩
      go_wp2_with fail
      refine (skd _ _ hs1.out hh.out hS).mono ?_
      rintro e w' ⟨rfl, hS⟩
      go_wp2_with fail
      refine (n46 H46.out hS).mono ?_
      rintro e w' ⟨rfl, hS⟩
      go_wp2_with fail
      refine (n101 H101.out hS).mono ?_
      rintro e w' ⟨rfl, hS⟩
      go_wp2_with fail
      refine (y69 hS).mono ?_
      rintro e w' ⟨rfl, hS⟩
      go_wp2_with fail
      refine (y43 hS).mono ?_
      rintro e w' ⟨rfl, hS⟩
      go_wp2_with fail
      refine (skd _ _ rfl rfl hS).mono ?_
      rintro e w' ⟨rfl, hS⟩
      go_wp2
      go_ret
      exact ⟨by rw [HR.out]; rfl, by rw [HR.out]; exact hS⟩
    · rw [hq] at hd
      have HR := hide (HM.out.trans hd)
      have H101 := hide hn101
      have H43 := hide hn43
      clear hd hq hn101 hn43
      go_enter Tryz.func134, Tryz.ntmps134
      go_wp2_with fail
      refine (n48 H48.out hS).mono ?_
      rintro e w' ⟨rfl, hS⟩
      go_wp2_with fail
      refine (skd _ _ hs1.out hh.out hS).mono ?_
      rintro e w' ⟨rfl, hS⟩
      go_wp2_with fail
      refine (n46 H46.out hS).mono ?_
      rintro e w' ⟨rfl, hS⟩
      go_wp2_with fail
      refine (n101 H101.out hS).mono ?_
      rintro e w' ⟨rfl, hS⟩
      go_wp2_with fail
      refine (y69 hS).mono ?_
      rintro e w' ⟨rfl, hS⟩
      go_wp2_with fail
      refine (n43 H43.out hS).mono ?_
      rintro e w' ⟨rfl, hS⟩
      go_wp2_with fail
      refine (y45 hS).mono ?_
      rintro e w' ⟨rfl, hS⟩
      go_wp2_with fail
      refine (skd _ _ rfl rfl hS).mono ?_
      rintro e w' ⟨rfl, hS⟩
      go_wp2
      go_ret
      exact ⟨by rw [HR.out]; rfl, by rw [HR.out]; exact hS⟩
    · rw [hq] at hd
      have HR := hide (HM.out.trans hd)
      have H101 := hide hn101
      have H43 := hide hn43
      have H45 := hide hn45
      clear hd hq hn101 hn43 hn45
      go_enter Tryz.func134, Tryz.ntmps134
      go_wp2_with fail
      refine (n48 H48.out hS).mono ?_
      rintro e w' ⟨rfl, hS⟩
      go_wp2_with fail
      refine (skd _ _ hs1.out hh.out hS).mono ?_
      rintro e w' ⟨rfl, hS⟩
      go_wp2_with fail
      refine (n46 H46.out hS).mono ?_
      rintro e w' ⟨rfl, hS⟩
      go_wp2_with fail
      refine (n101 H101.out hS).mono ?_
      rintro e w' ⟨rfl, hS⟩
      go_wp2_with fail
      refine (y69 hS).mono ?_
      rintro e w' ⟨rfl, hS⟩
      go_wp2_with fail
      refine (n43 H43.out hS).mono ?_
      rintro e w' ⟨rfl, hS⟩
      go_wp2_with fail
      refine (n45 H45.out hS).mono ?_
      rintro e w' ⟨rfl, hS⟩
      go_wp2_with fail
      refine (skd _ _ rfl rfl hS).mono ?_
      rintro e w' ⟨rfl, hS⟩
      go_wp2
      go_ret
      exact ⟨by rw [HR.out]; rfl, by rw [HR.out]; exact hS⟩
  · have HR := hide (HM.out.trans hd)
    have H101 := hide hn101
    have H69 := hide hn69
    clear hd hn101 hn69
    go_enter Tryz.func134, Tryz.ntmps134
    go_wp2_with fail
    refine (n48 H48.out hS).mono ?_
    rintro e w' ⟨rfl, hS⟩
    go_wp2_with fail
    refine (skd _ _ hs1.out hh.out hS).mono ?_
    rintro e w' ⟨rfl, hS⟩
    go_wp2_with fail
    refine (n46 H46.out hS).mono ?_
    rintro e w' ⟨rfl, hS⟩
    go_wp2_with fail
    refine (n101 H101.out hS).mono ?_
    rintro e w' ⟨rfl, hS⟩
    go_wp2_with fail
    refine (n69 H69.out hS).mono ?_
    rintro e w' ⟨rfl, hS⟩
    go_wp2
    go_ret
    exact ⟨by rw [HR.out]; rfl, by rw [HR.out]; exact hS⟩

set_option maxHeartbeats 4000000 in
set_option maxRecDepth 100000 in
theorem readDecimal_c1 {sb : Nat} {w0 w : World} (s r2 s2 : List Int) (H48 : Hid (¬ [48] <+: s)) (hs1 : Hid (s.dropWhile isDig = [46] ++ r2)) (hh : Hid (headIs isDig s = false)) (hs2 : Hid (r2.dropWhile isDig = s2)) (hh2 : Hid (headIs isDig r2 = true)) (HM : Hid (decI s = decOf (true, s2))) (hS : St sb w0 w s) :
    Calls Tryz.prog 134 #[.pointer (some ⟨sb, 0, none⟩)] w fun e w' => e = .returned (.bool (decI s).1) ∧ St sb w0 w' (decI s).2 := by
  have hnot : ∀ (x : Bool) (w : World), (Op.unary .not (.bool x)).run Tryz.prog w = .ok (.bool (!x)) w := fun _ _ => rfl
  rcases expC s2 with ⟨r3, rfl, hd⟩ | ⟨r3, rfl, hn101, hd⟩ | ⟨hn101, hn69, hd⟩
  · rcases signC r3 with ⟨t, rfl, hq⟩ | ⟨t, rfl, hn43, hq⟩ | ⟨hn43, hn45, hq⟩
    · rw [hq] at hd
      have HR := hide (HM.out.trans hd)
      clear hd hq
      go_enter Tryz.func134, Tryz.ntmps134
      go_wp2_with fail
      refine (n48 H48.out hS).mono ?_
      rintro e w' ⟨rfl, hS⟩
      go_wp2_with fail
      refine (skd _ _ hs1.out hh.out hS).mono ?_
      rintro e w' ⟨rfl, hS⟩
      go_wp2_with fail
      refine (y46 hS).mono ?_
      rintro e w' ⟨rfl, hS⟩
      go_wp2_with fail
      refine (skd _ _ hs2.out hh2.out hS).mono ?_
      rintro e w' ⟨rfl, hS⟩
      go_wp2_with fail
      refine (y101 hS).mono ?_
      rintro e w' ⟨rfl, hS⟩
      go_wp2_with fail
      refine (y43 hS).mono ?_
      rintro e w' ⟨rfl, hS⟩
      go_wp2_with fail
      refine (skd _ _ rfl rfl hS).mono ?_
      rintro e w' ⟨rfl, hS⟩
      go_wp2
      go_ret
      exact ⟨by rw [HR.out]; rfl, by rw [HR.out]; exact hS⟩
    · rw [hq] at hd
      have HR := hide (HM.out.trans hd)
      have H43 := hide hn43
      clear hd hq hn43
      go_enter Tryz.func134, Tryz.ntmps134
      go_wp2_with fail
      refine (n48 H48.out hS).mono ?_
      rintro e w' ⟨rfl, hS⟩
      go_wp2_with fail
      refine (skd _ _ hs1.out hh.out hS).mono ?_
      rintro e w' ⟨rfl, hS⟩
      go_wp2_with fail
      refine (y46 hS).mono ?_
      rintro e w' ⟨rfl, hS⟩
      go_wp2_with fail
      refine (skd _ _ hs2.out hh2.out hS).mono ?_
      rintro e w' ⟨rfl, hS⟩
      go_wp2_with fail
      refine (y101 hS).mono ?_
      rintro e w' ⟨rfl, hS⟩
      go_wp2_with fail
      refine (n43 H43.out hS).mono ?_
      rintro e w' ⟨rfl, hS⟩
      go_wp2_with fail
      refine (y45 hS).mono ?_
      rintro e w' ⟨rfl, hS⟩
      go_wp2_with fail
      refine (skd _ _ rfl rfl hS).mono ?_
      rintro e w' ⟨rfl, hS⟩
      go_wp2
      go_ret
      exact ⟨by rw [HR.out]; rfl, by rw [HR.out]; exact hS⟩
    · rw [hq] at hd
      have HR := hide (HM.out.trans hd)
      have H43 := hide hn43
      have H45 := hide hn45
      clear hd hq hn43 hn45
      go_enter Tryz.func134, Tryz.ntmps134
      go_wp2_with fail
      refine (n48 H48.out hS).mono ?_
      rintro e w' ⟨rfl, hS⟩
      go_wp2_with fail
      refine (skd _ _ hs1.out hh.out hS).mono ?_
      rintro e w' ⟨rfl, hS⟩
      go_wp2_with fail
      refine (y46 hS).mono ?_
      rintro e w' ⟨rfl, hS⟩
      go_wp2_with fail
      refine (skd _ _ hs2.out hh2.out hS).mono ?_
      rintro e w' ⟨rfl, hS⟩
      go_wp2_with fail
      refine (y101 hS).mono ?_
      rintro e w' ⟨rfl, hS⟩
      go_wp2_with fail
      refine (n43 H43.out hS).mono ?_
      rintro e w' ⟨rfl, hS⟩
      go_wp2_with fail
      refine (n45 H45.out hS).mono ?_
      rintro e w' ⟨rfl, hS⟩
      go_wp2_with fail
      refine (skd _ _ rfl rfl hS).mono ?_
      rintro e w' ⟨rfl, hS⟩
      go_wp2
      go_ret
      exact ⟨by rw [HR.out]; rfl, by rw [HR.out]; exact hS⟩
  · rcases signC r3 with ⟨t, rfl, hq⟩ | ⟨t, rfl, hn43, hq⟩ | ⟨hn43, hn45, hq⟩
    · rw [hq] at hd
      have HR := hide (HM.out.trans hd)
      have H101 := hide hn101
      clear hd hq hn101
      go_enter Tryz.func134, Tryz.ntmps134
      go_wp2_with fail
      refine (n48 H48.out hS).mono ?_
      rintro e w' ⟨rfl, hS⟩
      go_wp2_with fail
      refine (skd _ _ hs1.out hh.out hS).mono ?_
      rintro e w' ⟨rfl, hS⟩
      go_wp2_with fail
      refine (y46 hS).mono ?_
      rintro e w' ⟨rfl, hS⟩
      go_wp2_with fail
      refine (skd _ _ hs2.out hh2.out hS).mono ?_
      rintro e w' ⟨rfl, hS⟩
      go_wp2_with fail
      refine (n101 H101.out hS).mono ?_
      rintro e w' ⟨rfl, hS⟩
      go_wp2_with fail
      refine (y69 hS).mono ?_
      rintro e w' ⟨rfl, hS⟩
      go_wp2_with fail
      refine (y43 hS).mono ?_
      rintro e w' ⟨rfl, hS⟩
      go_wp2_with fail
      refine (skd _ _ rfl rfl hS).mono ?_
      rintro e w' ⟨rfl, hS⟩
      go_wp2
      go_ret
      exact ⟨by rw [HR.out]; rfl, by rw [HR.out]; exact hS⟩
    · rw [hq] at hd
      have HR := hide (HM.out.trans hd)
      have H101 := hide hn101
      have H43 := hide hn43
      clear hd hq hn101 hn43
      go_enter Tryz.func134, Tryz.ntmps134
      go_wp2_with fail
      refine (n48 H48.out hS).mono ?_
      rintro e w' ⟨rfl, hS⟩
      go_wp2_with fail
      refine (skd _ _ hs1.out hh.out hS).mono ?_
      rintro e w' ⟨rfl, hS⟩
      go_wp2_with fail
      refine (y46 hS).mono ?_
      rintro e w' ⟨rfl, hS⟩
      go_wp2_with fail
      refine (skd _ _ hs2.out hh2.out hS).mono ?_
      rintro e w' ⟨rfl, hS⟩
      go_wp2_with fail
      refine (n101 H101.out hS).mono ?_
      rintro e w' ⟨rfl, hS⟩
      go_wp2_with fail
      refine (y69 hS).mono ?_
      rintro e w' ⟨rfl, hS⟩
      go_wp2_with fail
      refine (n43 H43.out hS).mono ?_
      rintro e w' ⟨rfl, hS⟩
      go_wp2_with fail
      refine (y45 hS).mono ?_
      rintro e w' ⟨rfl, hS⟩
      go_wp2_with fail
      refine (skd _ _ rfl rfl hS).mono ?_
      rintro e w' ⟨rfl, hS⟩
      go_wp2
      go_ret
      exact ⟨by rw [HR.out]; rfl, by rw [HR.out]; exact hS⟩
    · rw [hq] at hd
      have HR := hide (HM.out.trans hd)
      have H101 := hide hn101
      have H43 := hide hn43
      have H45 := hide hn45
      clear hd hq hn101 hn43 hn45
      go_enter Tryz.func134, Tryz.ntmps134
      go_wp2_with fail
      refine (n48 H48.out hS).mono ?_
      rintro e w' ⟨rfl, hS⟩
      go_wp2_with fail
      refine (skd _ _ hs1.out hh.out hS).mono ?_
      rintro e w' ⟨rfl, hS⟩
      go_wp2_with fail
      refine (y46 hS).mono ?_
      rintro e w' ⟨rfl, hS⟩
      go_wp2_with fail
      refine (skd _ _ hs2.out hh2.out hS).mono ?_
      rintro e w' ⟨rfl, hS⟩
      go_wp2_with fail
      refine (n101 H101.out hS).mono ?_
      rintro e w' ⟨rfl, hS⟩
      go_wp2_with fail
      refine (y69 hS).mono ?_
      rintro e w' ⟨rfl, hS⟩
      go_wp2_with fail
      refine (n43 H43.out hS).mono ?_
      rintro e w' ⟨rfl, hS⟩
      go_wp2_with fail
      refine (n45 H45.out hS).mono ?_
      rintro e w' ⟨rfl, hS⟩
      go_wp2_with fail
      refine (skd _ _ rfl rfl hS).mono ?_
      rintro e w' ⟨rfl, hS⟩
      go_wp2
      go_ret
      exact ⟨by rw [HR.out]; rfl, by rw [HR.out]; exact hS⟩
  · have HR := hide (HM.out.trans hd)
    have H101 := hide hn101
    have H69 := hide hn69
    clear hd hn101 hn69
    go_enter Tryz.func134, Tryz.ntmps134
    go_wp2_with fail
    refine (n48 H48.out hS).mono ?_
    rintro e w' ⟨rfl, hS⟩
    go_wp2_with fail
    refine (skd _ _ hs1.out hh.out hS).mono ?_
    rintro e w' ⟨rfl, hS⟩
    go_wp2_with fail
    refine (y46 hS).mono ?_
    rintro e w' ⟨rfl, hS⟩
    go_wp2_with fail
    refine (skd _ _ hs2.out hh2.out hS).mono ?_
    rintro e w' ⟨rfl, hS⟩
    go_wp2_with fail
    refine (n101 H101.out hS).mono ?_
    rintro e w' ⟨rfl, hS⟩
    go_wp2_with fail
    refine (n69 H69.out hS).mono ?_
    rintro e w' ⟨rfl, hS⟩
    go_wp2
    go_ret
    exact ⟨by rw [HR.out]; rfl, by rw [HR.out]; exact hS⟩

set_option maxHeartbeats 4000000 in
set_option maxRecDepth 100000 in
theorem readDecimal_c2 {sb : Nat} {w0 w : World} (s r2 s2 : List Int) (H48 : Hid (¬ [48] <+: s)) (hs1 : Hid (s.dropWhile isDig = [46] ++ r2)) (hh : Hid (headIs isDig s = false)) (hs2 : Hid (r2.dropWhile isDig = s2)) (hh2 : Hid (headIs isDig r2 = false)) (HR : Hid (decI s = (false, s2))) (hS : St sb w0 w s) :
    Calls Tryz.prog 134 #[.pointer (some ⟨sb, 0, none⟩)] w fun e w' => e = .returned (.bool (decI s).1) ∧ St sb w0 w' (decI s).2 := by
  have hnot : ∀ (x : Bool) (w : World), (Op.unary .not (.bool x)).run Tryz.prog w = .ok (.bool (!x)) w := fun _ _ => rfl
  go_enter Tryz.func134, Tryz.ntmps134
  go_wp2_with fail
  refine (n48 H48.out hS).mono ?_
  rintro e w' ⟨rfl, hS⟩
  go_wp2_with fail
  refine (skd _ _ hs1.out hh.out hS).mono ?_
  rintro e w' ⟨rfl, hS⟩
  go_wp2_with fail
  refine (y46 hS).mono ?_
  rintro e w' ⟨rfl, hS⟩
  go_wp2_with fail
  refine (skd _ _ hs2.out hh2.out hS).mono ?_
  rintro e w' ⟨rfl, hS⟩
  go_wp2
  go_ret
  exact ⟨by rw [HR.out]; rfl, by rw [HR.out]; exact hS⟩

set_option maxHeartbeats 4000000 in
set_option maxRecDepth 100000 in
theorem readDecimal_c3 {sb : Nat} {w0 w : World} (s : List Int) (H48 : Hid (¬ [48] <+: s)) (hs1 : Hid (s.dropWhile isDig = s)) (hh : Hid (headIs isDig s = false)) (H46 : Hid (¬ [46] <+: s)) (HR : Hid (decI s = (false, s))) (hS : St sb w0 w s) :
    Calls Tryz.prog 134 #[.pointer (some ⟨sb, 0, none⟩)] w fun e w' => e = .returned (.bool (decI s).1) ∧ St sb w0 w' (decI s).2 := by
  have hnot : ∀ (x : Bool) (w : World), (Op.unary .not (.bool x)).run Tryz.prog w = .ok (.bool (!x)) w := fun _ _ => rfl
  go_enter Tryz.func134, Tryz.ntmps134
  go_wp2_with fail
  refine (n48 H48.out hS).mono ?_
  rintro e w' ⟨rfl, hS⟩
  go_wp2_with fail
  refine (skd _ _ hs1.out hh.out hS).mono ?_
  rintro e w' ⟨rfl, hS⟩
  go_wp2_with fail
  refine (n46 H46.out hS).mono ?_
  rintro e w' ⟨rfl, hS⟩
  go_wp2
  go_ret
  exact ⟨by rw [HR.out]; rfl, by rw [HR.out]; exact hS⟩

theorem readDecimal_st {sb : Nat} {w0 w : World} (s : List Int) (h : St sb w0 w s) :
    Calls Tryz.prog 134 #[.pointer (some ⟨sb, 0, none⟩)] w fun e w' => e = .returned (.bool (decI s).1) ∧ St sb w0 w' (decI s).2 := by
  rcases wholeC s with ⟨r, hs, hm⟩ | ⟨s1, hn, hs1, hm⟩
  · rcases partC true r with ⟨r2, s2, rfl, hs2, hp⟩ | ⟨hn46, hp⟩
    · exact readDecimal_a1 s r2 s2 _ hs2 rfl (by rw [Hid, decI, hm, hp]; simp) (hs ▸ h)
    · exact readDecimal_a2 s r hn46 (by rw [Hid, decI, hm, hp]) (hs ▸ h)
  · cases hh : headIs isDig s
    · have e : s.dropWhile isDig = s := by
        cases s with
        | nil => rfl
        | cons c r => simp only [headIs] at hh; simp [hh]
      rw [← hs1, e, hh] at hm
      rcases partC false s with ⟨r2, s2, hs, hs2, hp⟩ | ⟨hn46, hp⟩
      · cases hh2 : headIs isDig r2
        · exact readDecimal_c2 s r2 s2 hn (by rw [Hid, e, ← hs]) hh hs2 hh2 (by rw [Hid, decI, hm, hp, hh2]; rfl) h
        · exact readDecimal_c1 s r2 s2 hn (by rw [Hid, e, ← hs]) hh hs2 hh2 (by rw [Hid, decI, hm, hp, hh2]; rfl) h
      · exact readDecimal_c3 s hn e hh hn46 (by rw [Hid, decI, hm, hp]; rfl) h
    · rw [hh] at hm
      rcases partC true s1 with ⟨r2, s2, rfl, hs2, hp⟩ | ⟨hn46, hp⟩
      · exact readDecimal_b1 s r2 s2 _ hn hs1 hh hs2 rfl (by rw [Hid, decI, hm, hp]; simp) h
      · exact readDecimal_b2 s s1 hn hs1 hh hn46 (by rw [Hid, decI, hm, hp]) h

end Go.Proofs.YtalkhnhhaiigiaaGreatDoor

