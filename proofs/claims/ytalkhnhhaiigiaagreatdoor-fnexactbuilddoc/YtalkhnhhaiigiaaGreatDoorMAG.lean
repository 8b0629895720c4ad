import Derived.Test.YtalkhnhhaiigiaaGreatDoorMAF
namespace Go.Proofs.YtalkhnhhaiigiaaGreatDoor
open Go.RowKit
attribute [-go_sem] run_index_string

theorem str_word {ws : List Int} (hb : Bys ws) (l : List Int) (hl : Bys l) (u : List UInt8) (hu : (strOfNums l).toList = u) : ((strOfNums ws).toList == u) = decide (ws = l) := by
  rw [← hu]; exact eqBytes hb hl
theorem bys_all {l : List Int} (h : l.all (fun z => decide (0 ≤ z ∧ z ≤ 255)) = true) : Bys l := fun z hz => by
  have := List.all_eq_true.1 h z hz
  simpa using this
theorem eq_of_beq_word {a u : List UInt8} {b : Bool} (h : (a == u) = b) : (a = u) = (b = true) := by
  rw [← h]; simp
theorem any_false {zs : List Int} (h : zs.all (fun c => !isE c) = true) : zs.any isE = false := by
  rw [List.any_eq_false]
  intro x hx
  have := List.all_eq_true.1 h x hx
  simpa using this
theorem cutE (zs : List Int) (k : Nat) (hk : k < zs.length) (ha : (zs.take k).all (fun c => !isE c) = true) (he : isE (zs[k]?.getD 0) = true) :
    zs.any isE = true ∧ zs.takeWhile (fun c => !isE c) = zs.take k ∧ (zs.dropWhile (fun c => !isE c)).tail = zs.drop (k + 1) := by
  have hz : zs = zs.take k ++ zs[k] :: zs.drop (k + 1) := by
    conv => lhs; rw [← List.take_append_drop k zs, List.drop_eq_getElem_cons hk]
  have he' : isE zs[k] = true := by simpa [hk] using he
  have hs := span_at (p := fun c => !isE c) (a := zs.take k) (c := zs[k]) (b := zs.drop (k + 1)) (fun x hx => List.all_eq_true.1 ha x hx) (by simp [he'])
  rw [← hz] at hs
  refine ⟨?_, hs.1, by rw [hs.2]; rfl⟩
  rw [List.any_eq_true]
  exact ⟨zs[k], List.getElem_mem hk, he'⟩

set_option maxHeartbeats 4000000 in
set_option maxRecDepth 100000 in
theorem unsigned_any (zs : List Int) (w : World) (hb : Bys zs) (hl : zs.length ≤ 1048576) :
    Calls Tryz.prog 93 #[.string (strOfNums zs)] w fun e w' => e = .returned (.bool (unsS zs)) ∧ w = w' := by
  have hnot : ∀ (x : Bool) (w : World), (Op.unary .not (.bool x)).run Tryz.prog w = .ok (.bool (!x)) w := fun _ _ => rfl
  have hsz : (strOfNums zs).size = zs.length := strOfNums_size zs
  have eI := str_word hb infin (bys_all (by decide)) [73, 110, 102, 105, 110, 105, 116, 121] (by rw [strOfNums_list]; rfl)
  have eN := str_word hb nan (bys_all (by decide)) [78, 97, 78] (by rw [strOfNums_list]; rfl)
  have fI := eq_of_beq_word eI
  have fN := eq_of_beq_word eN
  by_cases hi : zs = infin
  · have HV : Hid (unsS zs = true) := by rw [Hid]; unfold unsS; rw [if_pos (.inl hi)]
    rw [decide_eq_true hi] at eI fI
    clear hi fN
    go_enter Tryz.func93, Tryz.ntmps93
    go_wp2
    go_ret
    exact ⟨by rw [HV.out]; rfl, rfl⟩
  rw [decide_eq_false hi] at eI fI
  by_cases hn : zs = nan
  · have HV : Hid (unsS zs = true) := by rw [Hid]; unfold unsS; rw [if_pos (.inr hn)]
    rw [decide_eq_true hn] at eN fN
    clear hi hn
    go_enter Tryz.func93, Tryz.ntmps93
    go_wp2
    go_ret
    exact ⟨by rw [HV.out]; rfl, rfl⟩
  rw [decide_eq_false hn] at eN fN
  have HU : Hid (unsS zs = if 2 < zs.length ∧ zs[0]?.getD 0 = 48 ∧ isX (zs[1]?.getD 0) = true then (zs.drop 2).all isHex
    else if zs.any isE then mantS (zs.takeWhile (fun c => !isE c)) && expS (zs.dropWhile (fun c => !isE c)).tail else mantS zs) := by
    rw [Hid]; unfold unsS; rw [if_neg (by simp [hi, hn])]
  clear hi hn
  simp only [Bool.false_eq_true, eq_iff_iff, iff_false] at fI fN
  have HM := hide (mantissa_any zs w hb hl)
  have HK := hide (fun k : Nat => mantissa_any (zs.take k) w (fun z hz => hb z (List.mem_of_mem_take hz)) (by rw [List.length_take]; omega))
  by_cases h2 : 2 < zs.length
  · have hi0 := str_at0 hb (fun e => by rw [e] at h2; simp at h2) w
    have hi1 := str_at hb (k := 1) (by omega) w
    rw [show ((1 : Nat) : Int) = 1 from rfl] at hi1
    have b0 := hb.get 0
    have b1 := hb.get 1
    have HX2 : Hid (¬ (zs[0]?.getD 0 = 48 ∧ isX (zs[1]?.getD 0) = true) → unsS zs = if zs.any isE then mantS (zs.takeWhile (fun c => !isE c)) && expS (zs.dropWhile (fun c => !isE c)).tail else mantS zs) := by
      intro h; rw [HU.out, if_neg (fun h' => h h'.2)]
    have HX3 : Hid ((zs[0]?.getD 0 = 48 ∧ isX (zs[1]?.getD 0) = true) → unsS zs = (zs.drop 2).all isHex) := by
      intro h; rw [HU.out, if_pos ⟨h2, h⟩]
    clear HU
    generalize zs[0]?.getD 0 = a0 at hi0 b0 HX2 HX3
    generalize zs[1]?.getD 0 = a1 at hi1 b1 HX2 HX3
    obtain ⟨b00, b01⟩ := b0
    obtain ⟨b10, b11⟩ := b1
    by_cases h48 : a0 = 48
    · have g0 : (a0 == 48) = true := by simp [h48]
      by_cases hx : a1 = 120 ∨ a1 = 88
      · have HV := hide (HX3.out ⟨h48, by simp [isX, hx]⟩)
        have x3 : (strOfNums zs).extract 2 zs.length = strOfNums (zs.drop 2) := by
          rw [ext_eq, List.take_of_length_le (by rw [List.length_drop]; omega)]
        have HH := hide (allHex_any (zs.drop 2) w (fun z hz => hb z (List.mem_of_mem_drop hz)) (by rw [List.length_drop]; omega))
        rw [show decide (0 < (zs.drop 2).length) = true by simp; omega, Bool.and_true] at HH
        clear HX2 HX3 h48
        generalize (zs.drop 2).all isHex = ah at HH HV
        rcases hx with rfl | rfl
        all_goals
          go_enter Tryz.func93, Tryz.ntmps93
          go_wp2_with fail
          refine HH.out.mono ?_
          rintro e w' ⟨rfl, rfl⟩
          go_wp2
          go_ret
          exact ⟨by rw [HV.out]; rfl, rfl⟩
      · have HX := hide (HX2.out (fun h => hx (by simpa [isX] using h.2)))
        have g1 : (a1 == 120) = false := by simp; omega
        have g2 : (a1 == 88) = false := by simp; omega
        clear HX2 HX3 h48 hx
        go_enter Tryz.func93, Tryz.ntmps93
        go_wp2
        go_loopw [3] (fun i wr => ∃ k : Nat, k ≤ zs.length ∧ i = .int .i64 k ∧ (zs.take k).all (fun c => !isE c) = true ∧ w = wr)
          (fun i _ => zs.length - (intOf i).toNat)
        case atStart => exact ⟨0, Nat.zero_le _, rfl, rfl, rfl⟩
        case round =>
          obtain ⟨k, hk, rfl, hall, rfl⟩ := hrel
          by_cases hlt : k < zs.length
          · have hal := hide (all_snoc zs (fun c => !isE c) k hlt hall)
            have hcut := hide (cutE zs k hlt hall)
            have hix := str_at hb hlt w
            have hpb := hb.get k
            generalize zs[k]?.getD 0 = c at hix hal hcut hpb
            obtain ⟨hp0, hp1⟩ := hpb
            cases hE : isE c
            · have HT : Hid ((zs.take (k + 1)).all (fun c => !isE c) = true) := hal.out (by simp [hE])
              have c1 : (c == 101) = false := by simp [isE] at hE; simp; omega
              have c2 : (c == 69) = false := by simp [isE] at hE; simp; omega
              clear hal hcut hall
              go_wp2
              go_roundw
              case rel => exact ⟨k + 1, by omega, by go_num, HT.out, trivial⟩
              case measure => simp [intOf]; omega
            · obtain ⟨u1, u2, u3⟩ := hcut.out hE
              have HV : Hid (unsS zs = (mantS (zs.take k) && expS (zs.drop (k + 1)))) := by rw [Hid, HX.out, u1, if_pos rfl, u2, u3]
              have x1 : (strOfNums zs).extract 0 k = strOfNums (zs.take k) := by rw [ext_eq]; simp
              have x2 : (strOfNums zs).extract (k + 1) zs.length = strOfNums (zs.drop (k + 1)) := by
                rw [ext_eq, List.take_of_length_le (by rw [List.length_drop]; omega)]
              have hbe : Bys (zs.drop (k + 1)) := fun z hz => hb z (List.mem_of_mem_drop hz)
              have hle : (zs.drop (k + 1)).length ≤ 1048576 := by rw [List.length_drop]; omega
              have HMk := hide (HK.out k)
              clear hal hcut u1 u2 u3 hall
              generalize zs.drop (k + 1) = ex at x2 HV hbe hle
              generalize mantS (zs.take k) = mb at HV HMk
              generalize strOfNums (zs.take k) = mz at x1 HMk
              have hE2 : c = 101 ∨ c = 69 := by simpa [isE] using hE
              have hse : (strOfNums ex).size = ex.length := strOfNums_size ex
              have hSt : ∀ t : List Int, ex.drop 1 = t → (strOfNums ex).extract 1 ex.length = strOfNums t := fun t ht => by
                rw [ext_eq, List.take_of_length_le (by rw [List.length_drop]; omega), ht]
              clear hE
              rcases hE2 with rfl | rfl
              all_goals
                rcases signC ex with ⟨t, hq, hst⟩ | ⟨t, hq, hn43, hst⟩ | ⟨hn43, hn45, hst⟩
                · have hz : ex ≠ [] := by rw [hq]; simp
                  have e0 : (strOfNums ex).toList.isEmpty = false := by rw [str_nil, decide_eq_false hz]
                  have hix0 := str_at0 hbe hz w
                  rw [show ex[0]?.getD 0 = 43 by rw [hq]; rfl] at hix0
                  have xs := hSt t (by rw [hq]; rfl)
                  have h1l : 1 ≤ ex.length := by rw [hq]; simp
                  have hbt : Bys t := fun z hz => hbe z (by rw [hq]; simp [hz])
                  have hlt2 : t.length ≤ 1048576 := by rw [hq] at hle; simp at hle; omega
                  have HD := hide (allDigits_any t w hbt hlt2)
                  have e1 := str_nil t
                  have HW : Hid (unsS zs = (mb && (decide (t ≠ []) && allDig t))) := by rw [Hid, HV.out]; unfold expS; rw [hst]
                  clear hz hq hst hSt hbe hle hbt
                  by_cases hz : t = []
                  · rw [decide_eq_true hz] at e1
                    have HZ : Hid (unsS zs = false) := by rw [Hid, HW.out, hz]; cases mb <;> rfl
                    clear hz
                    cases mb
                    all_goals
                      go_wp2_with fail
                      refine (HMk.out).mono ?_
                      rintro e w' ⟨rfl, rfl⟩
                      go_wp2
                      go_ret
                      exact ⟨by rw [HZ.out]; rfl, rfl⟩
                  · rw [decide_eq_false hz] at e1
                    have HZ : Hid (unsS zs = (mb && allDig t)) := by rw [Hid, HW.out, decide_eq_true hz]; simp
                    clear hz HW
                    cases mb
                    · clear HD
                      go_wp2_with fail
                      refine (HMk.out).mono ?_
                      rintro e w' ⟨rfl, rfl⟩
                      go_wp2
                      go_ret
                      exact ⟨by rw [HZ.out]; rfl, rfl⟩
                    · generalize allDig t = ad at HD HZ
                      go_wp2_with fail
                      refine (HMk.out).mono ?_
                      rintro e w' ⟨rfl, rfl⟩
                      go_wp2_with fail
                      refine (HD.out).mono ?_
                      rintro e w' ⟨rfl, rfl⟩
                      go_wp2
                      go_ret
                      exact ⟨by rw [HZ.out]; rfl, rfl⟩
                · have hz : ex ≠ [] := by rw [hq]; simp
                  have e0 : (strOfNums ex).toList.isEmpty = false := by rw [str_nil, decide_eq_false hz]
                  have hix0 := str_at0 hbe hz w
                  rw [show ex[0]?.getD 0 = 45 by rw [hq]; rfl] at hix0
                  have xs := hSt t (by rw [hq]; rfl)
                  have h1l : 1 ≤ ex.length := by rw [hq]; simp
                  have hbt : Bys t := fun z hz => hbe z (by rw [hq]; simp [hz])
                  have hlt2 : t.length ≤ 1048576 := by rw [hq] at hle; simp at hle; omega
                  have HD := hide (allDigits_any t w hbt hlt2)
                  have e1 := str_nil t
                  have HW : Hid (unsS zs = (mb && (decide (t ≠ []) && allDig t))) := by rw [Hid, HV.out]; unfold expS; rw [hst]
                  clear hz hq hst hSt hbe hle hbt hn43
                  by_cases hz : t = []
                  · rw [decide_eq_true hz] at e1
                    have HZ : Hid (unsS zs = false) := by rw [Hid, HW.out, hz]; cases mb <;> rfl
                    clear hz
                    cases mb
                    all_goals
                      go_wp2_with fail
                      refine (HMk.out).mono ?_
                      rintro e w' ⟨rfl, rfl⟩
                      go_wp2
                      go_ret
                      exact ⟨by rw [HZ.out]; rfl, rfl⟩
                  · rw [decide_eq_false hz] at e1
                    have HZ : Hid (unsS zs = (mb && allDig t)) := by rw [Hid, HW.out, decide_eq_true hz]; simp
                    clear hz HW
                    cases mb
                    · clear HD
                      go_wp2_with fail
                      refine (HMk.out).mono ?_
                      rintro e w' ⟨rfl, rfl⟩
                      go_wp2
                      go_ret
                      exact ⟨by rw [HZ.out]; rfl, rfl⟩
                    · generalize allDig t = ad at HD HZ
                      go_wp2_with fail
                      refine (HMk.out).mono ?_
                      rintro e w' ⟨rfl, rfl⟩
                      go_wp2_with fail
                      refine (HD.out).mono ?_
                      rintro e w' ⟨rfl, rfl⟩
                      go_wp2
                      go_ret
                      exact ⟨by rw [HZ.out]; rfl, rfl⟩
                · have hlt2 := hle
                  have HD := hide (allDigits_any ex w hbe hlt2)
                  have HW : Hid (unsS zs = (mb && (decide (ex ≠ []) && allDig ex))) := by rw [Hid, HV.out]; unfold expS; rw [hst]
                  have e1 := str_nil ex
                  by_cases hz : ex = []
                  · rw [decide_eq_true hz] at e1
                    have HZ : Hid (unsS zs = false) := by rw [Hid, HW.out, hz]; cases mb <;> rfl
                    clear hz hst hSt hn43 hn45
                    cases mb
                    all_goals
                      go_wp2_with fail
                      refine (HMk.out).mono ?_
                      rintro e w' ⟨rfl, rfl⟩
                      go_wp2
                      go_ret
                      exact ⟨by rw [HZ.out]; rfl, rfl⟩
                  · rw [decide_eq_false hz] at e1
                    have hix0 := str_at0 hbe hz w
                    have hpb := hbe.get 0
                    have s1 : (ex[0]?.getD 0 == 43) = false := by
                      cases ex with
                      | nil => exact absurd rfl hz
                      | cons a r => simp; exact fun h => hn43 ⟨r, by rw [h]; rfl⟩
                    have s2 : (ex[0]?.getD 0 == 45) = false := by
                      cases ex with
                      | nil => exact absurd rfl hz
                      | cons a r => simp; exact fun h => hn45 ⟨r, by rw [h]; rfl⟩
                    have HZ : Hid (unsS zs = (mb && allDig ex)) := by rw [Hid, HW.out, decide_eq_true hz]; simp
                    clear hz hst hSt hn43 hn45 HW
                    generalize ex[0]?.getD 0 = c0 at hix0 hpb s1 s2
                    obtain ⟨hq0, hq1⟩ := hpb
                    cases mb
                    · clear HD
                      go_wp2_with fail
                      refine (HMk.out).mono ?_
                      rintro e w' ⟨rfl, rfl⟩
                      go_wp2
                      go_ret
                      exact ⟨by rw [HZ.out]; rfl, rfl⟩
                    · generalize allDig ex = ad at HD HZ
                      go_wp2_with fail
                      refine (HMk.out).mono ?_
                      rintro e w' ⟨rfl, rfl⟩
                      go_wp2_with fail
                      refine (HD.out).mono ?_
                      rintro e w' ⟨rfl, rfl⟩
                      go_wp2
                      go_ret
                      exact ⟨by rw [HZ.out]; rfl, rfl⟩
          · have hfin : zs.all (fun c => !isE c) = true := by rwa [List.take_of_length_le (by omega)] at hall
            have HV : Hid (unsS zs = mantS zs) := by rw [Hid, HX.out, any_false hfin]; simp
            clear hall hfin
            go_wp2_with fail
            refine HM.out.mono ?_
            rintro e w' ⟨rfl, rfl⟩
            go_wp2
            go_ret
            exact ⟨by rw [HV.out]; rfl, rfl⟩
    · have HX := hide (HX2.out (fun h => h48 h.1))
      have g0 : (a0 == 48) = false := by simp [h48]
      clear HX2 HX3 h48
      go_enter Tryz.func93, Tryz.ntmps93
      go_wp2
      go_loopw [3] (fun i wr => ∃ k : Nat, k ≤ zs.length ∧ i = .int .i64 k ∧ (zs.take k).all (fun c => !isE c) = true ∧ w = wr)
        (fun i _ => zs.length - (intOf i).toNat)
      case atStart => exact ⟨0, Nat.zero_le _, rfl, rfl, rfl⟩
      case round =>
        obtain ⟨k, hk, rfl, hall, rfl⟩ := hrel
        by_cases hlt : k < zs.length
        · have hal := hide (all_snoc zs (fun c => !isE c) k hlt hall)
          have hcut := hide (cutE zs k hlt hall)
          have hix := str_at hb hlt w
          have hpb := hb.get k
          generalize zs[k]?.getD 0 = c at hix hal hcut hpb
          obtain ⟨hp0, hp1⟩ := hpb
          cases hE : isE c
          · have HT : Hid ((zs.take (k + 1)).all (fun c => !isE c) = true) := hal.out (by simp [hE])
            have c1 : (c == 101) = false := by simp [isE] at hE; simp; omega
            have c2 : (c == 69) = false := by simp [isE] at hE; simp; omega
            clear hal hcut hall
            go_wp2
            go_roundw
            case rel => exact ⟨k + 1, by omega, by go_num, HT.out, trivial⟩
            case measure => simp [intOf]; omega
          · obtain ⟨u1, u2, u3⟩ := hcut.out hE
            have HV : Hid (unsS zs = (mantS (zs.take k) && expS (zs.drop (k + 1)))) := by rw [Hid, HX.out, u1, if_pos rfl, u2, u3]
            have x1 : (strOfNums zs).extract 0 k = strOfNums (zs.take k) := by rw [ext_eq]; simp
            have x2 : (strOfNums zs).extract (k + 1) zs.length = strOfNums (zs.drop (k + 1)) := by
              rw [ext_eq, List.take_of_length_le (by rw [List.length_drop]; omega)]
            have hbe : Bys (zs.drop (k + 1)) := fun z hz => hb z (List.mem_of_mem_drop hz)
            have hle : (zs.drop (k + 1)).length ≤ 1048576 := by rw [List.length_drop]; omega
            have HMk := hide (HK.out k)
            clear hal hcut u1 u2 u3 hall
            generalize zs.drop (k + 1) = ex at x2 HV hbe hle
            generalize mantS (zs.take k) = mb at HV HMk
            generalize strOfNums (zs.take k) = mz at x1 HMk
            have hE2 : c = 101 ∨ c = 69 := by simpa [isE] using hE
            have hse : (strOfNums ex).size = ex.length := strOfNums_size ex
            have hSt : ∀ t : List Int, ex.drop 1 = t → (strOfNums ex).extract 1 ex.length = strOfNums t := fun t ht => by
              rw [ext_eq, List.take_of_length_le (by rw [List.length_drop]; omega), ht]
            clear hE
            rcases hE2 with rfl | rfl
            all_goals
              rcases signC ex with ⟨t, hq, hst⟩ | ⟨t, hq, hn43, hst⟩ | ⟨hn43, hn45, hst⟩
              · have hz : ex ≠ [] := by rw [hq]; simp
                have e0 : (strOfNums ex).toList.isEmpty = false := by rw [str_nil, decide_eq_false hz]
                have hix0 := str_at0 hbe hz w
                rw [show ex[0]?.getD 0 = 43 by rw [hq]; rfl] at hix0
                have xs := hSt t (by rw [hq]; rfl)
                have h1l : 1 ≤ ex.length := by rw [hq]; simp
                have hbt : Bys t := fun z hz => hbe z (by rw [hq]; simp [hz])
                have hlt2 : t.length ≤ 1048576 := by rw [hq] at hle; simp at hle; omega
                have HD := hide (allDigits_any t w hbt hlt2)
                have e1 := str_nil t
                have HW : Hid (unsS zs = (mb && (decide (t ≠ []) && allDig t))) := by rw [Hid, HV.out]; unfold expS; rw [hst]
                clear hz hq hst hSt hbe hle hbt
                by_cases hz : t = []
                · rw [decide_eq_true hz] at e1
                  have HZ : Hid (unsS zs = false) := by rw [Hid, HW.out, hz]; cases mb <;> rfl
                  clear hz
                  cases mb
                  all_goals
                    go_wp2_with fail
                    refine (HMk.out).mono ?_
                    rintro e w' ⟨rfl, rfl⟩
                    go_wp2
                    go_ret
                    exact ⟨by rw [HZ.out]; rfl, rfl⟩
                · rw [decide_eq_false hz] at e1
                  have HZ : Hid (unsS zs = (mb && allDig t)) := by rw [Hid, HW.out, decide_eq_true hz]; simp
                  clear hz HW
                  cases mb
                  · clear HD
                    go_wp2_with fail
                    refine (HMk.out).mono ?_
                    rintro e w' ⟨rfl, rfl⟩
                    go_wp2
                    go_ret
                    exact ⟨by rw [HZ.out]; rfl, rfl⟩
                  · generalize allDig t = ad at HD HZ
                    go_wp2_with fail
                    refine (HMk.out).mono ?_
                    rintro e w' ⟨rfl, rfl⟩
                    go_wp2_with fail
                    refine (HD.out).mono ?_
                    rintro e w' ⟨rfl, rfl⟩
                    go_wp2
                    go_ret
                    exact ⟨by rw [HZ.out]; rfl, rfl⟩
              · have hz : ex ≠ [] := by rw [hq]; simp
                have e0 : (strOfNums ex).toList.isEmpty = false := by rw [str_nil, decide_eq_false hz]
                have hix0 := str_at0 hbe hz w
                rw [show ex[0]?.getD 0 = 45 by rw [hq]; rfl] at hix0
                have xs := hSt t (by rw [hq]; rfl)
                have h1l : 1 ≤ ex.length := by rw [hq]; simp
                have hbt : Bys t := fun z hz => hbe z (by rw [hq]; simp [hz])
                have hlt2 : t.length ≤ 1048576 := by rw [hq] at hle; simp at hle; omega
                have HD := hide (allDigits_any t w hbt hlt2)
                have e1 := str_nil t
                have HW : Hid (unsS zs = (mb && (decide (t ≠ []) && allDig t))) := by rw [Hid, HV.out]; unfold expS; rw [hst]
                clear hz hq hst hSt hbe hle hbt hn43
                by_cases hz : t = []
                · rw [decide_eq_true hz] at e1
                  have HZ : Hid (unsS zs = false) := by rw [Hid, HW.out, hz]; cases mb <;> rfl
                  clear hz
                  cases mb
                  all_goals
                    go_wp2_with fail
                    refine (HMk.out).mono ?_
                    rintro e w' ⟨rfl, rfl⟩
                    go_wp2
                    go_ret
                    exact ⟨by rw [HZ.out]; rfl, rfl⟩
                · rw [decide_eq_false hz] at e1
                  have HZ : Hid (unsS zs = (mb && allDig t)) := by rw [Hid, HW.out, decide_eq_true hz]; simp
                  clear hz HW
                  cases mb
                  · clear HD
                    go_wp2_with fail
                    refine (HMk.out).mono ?_
                    rintro e w' ⟨rfl, rfl⟩
                    go_wp2
                    go_ret
                    exact ⟨by rw [HZ.out]; rfl, rfl⟩
                  · generalize allDig t = ad at HD HZ
                    go_wp2_with fail
                    refine (HMk.out).mono ?_
                    rintro e w' ⟨rfl, rfl⟩
                    go_wp2_with fail
                    refine (HD.out).mono ?_
                    rintro e w' ⟨rfl, rfl⟩
                    go_wp2
                    go_ret
                    exact ⟨by rw [HZ.out]; rfl, rfl⟩
              · have hlt2 := hle
                have HD := hide (allDigits_any ex w hbe hlt2)
                have HW : Hid (unsS zs = (mb && (decide (ex ≠ []) && allDig ex))) := by rw [Hid, HV.out]; unfold expS; rw [hst]
                have e1 := str_nil ex
                by_cases hz : ex = []
                · rw [decide_eq_true hz] at e1
                  have HZ : Hid (unsS zs = false) := by rw [Hid, HW.out, hz]; cases mb <;> rfl
                  clear hz hst hSt hn43 hn45
                  cases mb
                  all_goals
                    go_wp2_with fail
                    refine (HMk.out).mono ?_
                    rintro e w' ⟨rfl, rfl⟩
                    go_wp2
                    go_ret
                    exact ⟨by rw [HZ.out]; rfl, rfl⟩
                · rw [decide_eq_false hz] at e1
                  have hix0 := str_at0 hbe hz w
                  have hpb := hbe.get 0
                  have s1 : (ex[0]?.getD 0 == 43) = false := by
                    cases ex with
                    | nil => exact absurd rfl hz
                    | cons a r => simp; exact fun h => hn43 ⟨r, by rw [h]; rfl⟩
                  have s2 : (ex[0]?.getD 0 == 45) = false := by
                    cases ex with
                    | nil => exact absurd rfl hz
                    | cons a r => simp; exact fun h => hn45 ⟨r, by rw [h]; rfl⟩
                  have HZ : Hid (unsS zs = (mb && allDig ex)) := by rw [Hid, HW.out, decide_eq_true hz]; simp
                  clear hz hst hSt hn43 hn45 HW
                  generalize ex[0]?.getD 0 = c0 at hix0 hpb s1 s2
                  obtain ⟨hq0, hq1⟩ := hpb
                  cases mb
                  · clear HD
                    go_wp2_with fail
                    refine (HMk.out).mono ?_
                    rintro e w' ⟨rfl, rfl⟩
                    go_wp2
                    go_ret
                    exact ⟨by rw [HZ.out]; rfl, rfl⟩
                  · generalize allDig ex = ad at HD HZ
                    go_wp2_with fail
                    refine (HMk.out).mono ?_
                    rintro e w' ⟨rfl, rfl⟩
                    go_wp2_with fail
                    refine (HD.out).mono ?_
                    rintro e w' ⟨rfl, rfl⟩
                    go_wp2
                    go_ret
                    exact ⟨by rw [HZ.out]; rfl, rfl⟩
        · have hfin : zs.all (fun c => !isE c) = true := by rwa [List.take_of_length_le (by omega)] at hall
          have HV : Hid (unsS zs = mantS zs) := by rw [Hid, HX.out, any_false hfin]; simp
          clear hall hfin
          go_wp2_with fail
          refine HM.out.mono ?_
          rintro e w' ⟨rfl, rfl⟩
          go_wp2
          go_ret
          exact ⟨by rw [HV.out]; rfl, rfl⟩
  · have HX : Hid (unsS zs = if zs.any isE then mantS (zs.takeWhile (fun c => !isE c)) && expS (zs.dropWhile (fun c => !isE c)).tail else mantS zs) := by rw [Hid, HU.out, if_neg (fun h => h2 h.1)]
    clear HU
    go_enter Tryz.func93, Tryz.ntmps93
    go_wp2
    go_loopw [3] (fun i wr => ∃ k : Nat, k ≤ zs.length ∧ i = .int .i64 k ∧ (zs.take k).all (fun c => !isE c) = true ∧ w = wr)
      (fun i _ => zs.length - (intOf i).toNat)
    case atStart => exact ⟨0, Nat.zero_le _, rfl, rfl, rfl⟩
    case round =>
      obtain ⟨k, hk, rfl, hall, rfl⟩ := hrel
      by_cases hlt : k < zs.length
      · have hal := hide (all_snoc zs (fun c => !isE c) k hlt hall)
        have hcut := hide (cutE zs k hlt hall)
        have hix := str_at hb hlt w
        have hpb := hb.get k
        generalize zs[k]?.getD 0 = c at hix hal hcut hpb
        obtain ⟨hp0, hp1⟩ := hpb
        cases hE : isE c
        · have HT : Hid ((zs.take (k + 1)).all (fun c => !isE c) = true) := hal.out (by simp [hE])
          have c1 : (c == 101) = false := by simp [isE] at hE; simp; omega
          have c2 : (c == 69) = false := by simp [isE] at hE; simp; omega
          clear hal hcut hall
          go_wp2
          go_roundw
          case rel => exact ⟨k + 1, by omega, by go_num, HT.out, trivial⟩
          case measure => simp [intOf]; omega
        · obtain ⟨u1, u2, u3⟩ := hcut.out hE
          have HV : Hid (unsS zs = (mantS (zs.take k) && expS (zs.drop (k + 1)))) := by rw [Hid, HX.out, u1, if_pos rfl, u2, u3]
          have x1 : (strOfNums zs).extract 0 k = strOfNums (zs.take k) := by rw [ext_eq]; simp
          have x2 : (strOfNums zs).extract (k + 1) zs.length = strOfNums (zs.drop (k + 1)) := by
            rw [ext_eq, List.take_of_length_le (by rw [List.length_drop]; omega)]
          have hbe : Bys (zs.drop (k + 1)) := fun z hz => hb z (List.mem_of_mem_drop hz)
          have hle : (zs.drop (k + 1)).length ≤ 1048576 := by rw [List.length_drop]; omega
          have HMk := hide (HK.out k)
          clear hal hcut u1 u2 u3 hall
          generalize zs.drop (k + 1) = ex at x2 HV hbe hle
          generalize mantS (zs.take k) = mb at HV HMk
          generalize strOfNums (zs.take k) = mz at x1 HMk
          have hE2 : c = 101 ∨ c = 69 := by simpa [isE] using hE
          have hse : (strOfNums ex).size = ex.length := strOfNums_size ex
          have hSt : ∀ t : List Int, ex.drop 1 = t → (strOfNums ex).extract 1 ex.length = strOfNums t := fun t ht => by
            rw [ext_eq, List.take_of_length_le (by rw [List.length_drop]; omega), ht]
          clear hE
          rcases hE2 with rfl | rfl
          all_goals
            rcases signC ex with ⟨t, hq, hst⟩ | ⟨t, hq, hn43, hst⟩ | ⟨hn43, hn45, hst⟩
            · have hz : ex ≠ [] := by rw [hq]; simp
              have e0 : (strOfNums ex).toList.isEmpty = false := by rw [str_nil, decide_eq_false hz]
              have hix0 := str_at0 hbe hz w
              rw [show ex[0]?.getD 0 = 43 by rw [hq]; rfl] at hix0
              have xs := hSt t (by rw [hq]; rfl)
              have h1l : 1 ≤ ex.length := by rw [hq]; simp
              have hbt : Bys t := fun z hz => hbe z (by rw [hq]; simp [hz])
              have hlt2 : t.length ≤ 1048576 := by rw [hq] at hle; simp at hle; omega
              have HD := hide (allDigits_any t w hbt hlt2)
              have e1 := str_nil t
              have HW : Hid (unsS zs = (mb && (decide (t ≠ []) && allDig t))) := by rw [Hid, HV.out]; unfold expS; rw [hst]
              clear hz hq hst hSt hbe hle hbt
              by_cases hz : t = []
              · rw [decide_eq_true hz] at e1
                have HZ : Hid (unsS zs = false) := by rw [Hid, HW.out, hz]; cases mb <;> rfl
                clear hz
                cases mb
                all_goals
                  go_wp2_with fail
                  refine (HMk.out).mono ?_
                  rintro e w' ⟨rfl, rfl⟩
                  go_wp2
                  go_ret
                  exact ⟨by rw [HZ.out]; rfl, rfl⟩
              · rw [decide_eq_false hz] at e1
                have HZ : Hid (unsS zs = (mb && allDig t)) := by rw [Hid, HW.out, decide_eq_true hz]; simp
                clear hz HW
                cases mb
                · clear HD
                  go_wp2_with fail
                  refine (HMk.out).mono ?_
                  rintro e w' ⟨rfl, rfl⟩
                  go_wp2
                  go_ret
                  exact ⟨by rw [HZ.out]; rfl, rfl⟩
                · generalize allDig t = ad at HD HZ
                  go_wp2_with fail
                  refine (HMk.out).mono ?_
                  rintro e w' ⟨rfl, rfl⟩
                  go_wp2_with fail
                  refine (HD.out).mono ?_
                  rintro e w' ⟨rfl, rfl⟩
                  go_wp2
                  go_ret
                  exact ⟨by rw [HZ.out]; rfl, rfl⟩
            · have hz : ex ≠ [] := by rw [hq]; simp
              have e0 : (strOfNums ex).toList.isEmpty = false := by rw [str_nil, decide_eq_false hz]
              have hix0 := str_at0 hbe hz w
              rw [show ex[0]?.getD 0 = 45 by rw [hq]; rfl] at hix0
              have xs := hSt t (by rw [hq]; rfl)
              have h1l : 1 ≤ ex.length := by rw [hq]; simp
              have hbt : Bys t := fun z hz => hbe z (by rw [hq]; simp [hz])
              have hlt2 : t.length ≤ 1048576 := by rw [hq] at hle; simp at hle; omega
              have HD := hide (allDigits_any t w hbt hlt2)
              have e1 := str_nil t
              have HW : Hid (unsS zs = (mb && (decide (t ≠ []) && allDig t))) := by rw [Hid, HV.out]; unfold expS; rw [hst]
              clear hz hq hst hSt hbe hle hbt hn43
              by_cases hz : t = []
              · rw [decide_eq_true hz] at e1
                have HZ : Hid (unsS zs = false) := by rw [Hid, HW.out, hz]; cases mb <;> rfl
                clear hz
                cases mb
                all_goals
                  go_wp2_with fail
                  refine (HMk.out).mono ?_
                  rintro e w' ⟨rfl, rfl⟩
                  go_wp2
                  go_ret
                  exact ⟨by rw [HZ.out]; rfl, rfl⟩
              · rw [decide_eq_false hz] at e1
                have HZ : Hid (unsS zs = (mb && allDig t)) := by rw [Hid, HW.out, decide_eq_true hz]; simp
                clear hz HW
                cases mb
                · clear HD
                  go_wp2_with fail
                  refine (HMk.out).mono ?_
                  rintro e w' ⟨rfl, rfl⟩
                  go_wp2
                  go_ret
                  exact ⟨by rw [HZ.out]; rfl, rfl⟩
                · generalize allDig t = ad at HD HZ
                  go_wp2_with fail
                  refine (HMk.out).mono ?_
                  rintro e w' ⟨rfl, rfl⟩
                  go_wp2_with fail
                  refine (HD.out).mono ?_
                  rintro e w' ⟨rfl, rfl⟩
                  go_wp2
                  go_ret
                  exact ⟨by rw [HZ.out]; rfl, rfl⟩
            · have hlt2 := hle
              have HD := hide (allDigits_any ex w hbe hlt2)
              have HW : Hid (unsS zs = (mb && (decide (ex ≠ []) && allDig ex))) := by rw [Hid, HV.out]; unfold expS; rw [hst]
              have e1 := str_nil ex
              by_cases hz : ex = []
              · rw [decide_eq_true hz] at e1
                have HZ : Hid (unsS zs = false) := by rw [Hid, HW.out, hz]; cases mb <;> rfl
                clear hz hst hSt hn43 hn45
                cases mb
                all_goals
                  go_wp2_with fail
                  refine (HMk.out).mono ?_
                  rintro e w' ⟨rfl, rfl⟩
                  go_wp2
                  go_ret
                  exact ⟨by rw [HZ.out]; rfl, rfl⟩
              · rw [decide_eq_false hz] at e1
                have hix0 := str_at0 hbe hz w
                have hpb := hbe.get 0
                have s1 : (ex[0]?.getD 0 == 43) = false := by
                  cases ex with
                  | nil => exact absurd rfl hz
                  | cons a r => simp; exact fun h => hn43 ⟨r, by rw [h]; rfl⟩
                have s2 : (ex[0]?.getD 0 == 45) = false := by
                  cases ex with
                  | nil => exact absurd rfl hz
                  | cons a r => simp; exact fun h => hn45 ⟨r, by rw [h]; rfl⟩
                have HZ : Hid (unsS zs = (mb && allDig ex)) := by rw [Hid, HW.out, decide_eq_true hz]; simp
                clear hz hst hSt hn43 hn45 HW
                generalize ex[0]?.getD 0 = c0 at hix0 hpb s1 s2
                obtain ⟨hq0, hq1⟩ := hpb
                cases mb
                · clear HD
                  go_wp2_with fail
                  refine (HMk.out).mono ?_
                  rintro e w' ⟨rfl, rfl⟩
                  go_wp2
                  go_ret
                  exact ⟨by rw [HZ.out]; rfl, rfl⟩
                · generalize allDig ex = ad at HD HZ
                  go_wp2_with fail
                  refine (HMk.out).mono ?_
                  rintro e w' ⟨rfl, rfl⟩
                  go_wp2_with fail
                  refine (HD.out).mono ?_
                  rintro e w' ⟨rfl, rfl⟩
                  go_wp2
                  go_ret
                  exact ⟨by rw [HZ.out]; rfl, rfl⟩
      · have hfin : zs.all (fun c => !isE c) = true := by rwa [List.take_of_length_le (by omega)] at hall
        have HV : Hid (unsS zs = mantS zs) := by rw [Hid, HX.out, any_false hfin]; simp
        clear hall hfin
        go_wp2_with fail
        refine HM.out.mono ?_
        rintro e w' ⟨rfl, rfl⟩
        go_wp2
        go_ret
        exact ⟨by rw [HV.out]; rfl, rfl⟩

set_option maxHeartbeats 1000000 in
theorem specIsNumber_any (v : Value) (zs : List Int) (w : World) (hv : RdB w.heap.size w v zs) (hb : Bys zs) (hl : zs.length ≤ 1048576) :
    Calls Tryz.prog 63 #[v] w fun e w' => e = .returned (.bool (numS zs)) ∧ w = w' := by
  have hcv := conv_rd hv
  have hsz : (strOfNums zs).size = zs.length := strOfNums_size zs
  have e1 := str_nil zs
  have hSt : ∀ t : List Int, zs.drop 1 = t → (strOfNums zs).extract 1 zs.length = strOfNums t := fun t ht => by
    rw [ext_eq, List.take_of_length_le (by rw [List.length_drop]; omega), ht]
  obtain ⟨a, cap, rfl, _⟩ := hv
  rcases signC zs with ⟨t, hq, hst⟩ | ⟨t, hq, hn43, hst⟩ | ⟨hn43, hn45, hst⟩
  · have hz : zs ≠ [] := by rw [hq]; simp
    rw [decide_eq_false hz] at e1
    have hix0 := str_at0 hb hz w
    rw [show zs[0]?.getD 0 = 43 by rw [hq]; rfl] at hix0
    have xs := hSt t (by rw [hq]; rfl)
    have h1l : 1 ≤ zs.length := by rw [hq]; simp
    have HV : Hid (numS zs = unsS t) := by rw [Hid]; unfold numS; rw [hst]
    have HUn := hide (unsigned_any t w (fun z hz => hb z (by rw [hq]; simp [hz])) (by rw [hq] at hl; simp at hl; omega))
    clear hz hq hst hSt
    go_enter Tryz.func63, Tryz.ntmps63
    go_wp2_with fail
    refine HUn.out.mono ?_
    rintro e w' ⟨rfl, rfl⟩
    go_wp2
    go_ret
    exact ⟨by rw [HV.out]; rfl, rfl⟩
  · have hz : zs ≠ [] := by rw [hq]; simp
    rw [decide_eq_false hz] at e1
    have hix0 := str_at0 hb hz w
    rw [show zs[0]?.getD 0 = 45 by rw [hq]; rfl] at hix0
    have xs := hSt t (by rw [hq]; rfl)
    have h1l : 1 ≤ zs.length := by rw [hq]; simp
    have HV : Hid (numS zs = unsS t) := by rw [Hid]; unfold numS; rw [hst]
    have HUn := hide (unsigned_any t w (fun z hz => hb z (by rw [hq]; simp [hz])) (by rw [hq] at hl; simp at hl; omega))
    clear hz hq hst hSt hn43
    go_enter Tryz.func63, Tryz.ntmps63
    go_wp2_with fail
    refine HUn.out.mono ?_
    rintro e w' ⟨rfl, rfl⟩
    go_wp2
    go_ret
    exact ⟨by rw [HV.out]; rfl, rfl⟩
  · have HV : Hid (numS zs = unsS zs) := by rw [Hid]; unfold numS; rw [hst]
    have HUn := hide (unsigned_any zs w hb hl)
    by_cases hz : zs = []
    · rw [decide_eq_true hz] at e1
      clear hz hst hSt hn43 hn45
      go_enter Tryz.func63, Tryz.ntmps63
      go_wp2_with fail
      refine HUn.out.mono ?_
      rintro e w' ⟨rfl, rfl⟩
      go_wp2
      go_ret
      exact ⟨by rw [HV.out]; rfl, rfl⟩
    · rw [decide_eq_false hz] at e1
      have hix0 := str_at0 hb hz w
      have hpb := hb.get 0
      have s1 : (zs[0]?.getD 0 == 43) = false := by
        cases zs with
        | nil => exact absurd rfl hz
        | cons a r => simp; exact fun h => hn43 ⟨r, by rw [h]; rfl⟩
      have s2 : (zs[0]?.getD 0 == 45) = false := by
        cases zs with
        | nil => exact absurd rfl hz
        | cons a r => simp; exact fun h => hn45 ⟨r, by rw [h]; rfl⟩
      clear hz hst hSt hn43 hn45
      generalize zs[0]?.getD 0 = c0 at hix0 hpb s1 s2
      obtain ⟨hq0, hq1⟩ := hpb
      go_enter Tryz.func63, Tryz.ntmps63
      go_wp2_with fail
      refine HUn.out.mono ?_
      rintro e w' ⟨rfl, rfl⟩
      go_wp2
      go_ret
      exact ⟨by rw [HV.out]; rfl, rfl⟩

end Go.Proofs.YtalkhnhhaiigiaaGreatDoor

