import Derived.Test.YtalkhnhhaiigiaaGreatDoorMAD
import Derived.Test.YtalkhnhhaiigiaaGreatDoorMAE
namespace Go.Proofs.YtalkhnhhaiigiaaGreatDoor
open Go.RowKit
attribute [-go_sem] run_index_string

theorem ext_eq (zs : List Int) (lo hi : Nat) : (strOfNums zs).extract lo hi = strOfNums ((zs.drop lo).take (hi - lo)) := by
  apply ByteArray.ext
  simp only [strOfNums, ByteArray.data_extract]
  apply Array.ext'
  simp [List.map_take, List.map_drop]

/-- Where the first point stands, or -1. -/
def dotAt (zs : List Int) : Int := if zs.any (· == 46) then ((zs.takeWhile (· != 46)).length : Int) else -1
theorem dot_nil : dotAt [] = -1 := rfl
theorem dot_yes {zs a b : List Int} (h : zs = a ++ 46 :: b) (ha : ∀ y ∈ a, (y != 46) = true) : dotAt zs = a.length := by
  subst h
  unfold dotAt
  rw [if_pos (by simp), (span_at (b := b) ha (by decide)).1]
theorem dot_no {zs : List Int} (ha : ∀ y ∈ zs, (y != 46) = true) : dotAt zs = -1 := by
  unfold dotAt
  rw [if_neg]
  intro h3
  rw [List.any_eq_true] at h3
  obtain ⟨y, hy, h4⟩ := h3
  have := ha y hy
  simp at this h4
  exact this h4
theorem dot_cut (zs : List Int) : (∀ y ∈ zs, (y != 46) = true) ∨ ∃ a b, zs = a ++ 46 :: b ∧ ∀ y ∈ a, (y != 46) = true := by
  rcases cut_first (fun c => c != 46) zs with h | ⟨a, x, b, h, ha, hx⟩
  · exact .inl h
  · have hx' : x = 46 := by simpa using hx
    subst hx'
    exact .inr ⟨a, b, h, ha⟩
theorem dot_snoc (zs : List Int) (c : Int) : dotAt (zs ++ [c]) = if 0 ≤ dotAt zs then dotAt zs else if c = 46 then (zs.length : Int) else -1 := by
  rcases dot_cut zs with h | ⟨a, b, rfl, ha⟩
  · rw [dot_no h, if_neg (by omega)]
    by_cases hc : c = 46
    · subst hc
      rw [if_pos rfl, dot_yes rfl h]
    · rw [if_neg hc]
      refine dot_no (fun y hy => ?_)
      rcases List.mem_append.1 hy with hy | hy
      · exact h y hy
      · simp at hy; subst hy; simpa using hc
  · rw [dot_yes rfl ha, if_pos (by omega), dot_yes (a := a) (b := b ++ [c]) (by simp) ha]
theorem dot_ge (zs : List Int) : -1 ≤ dotAt zs ∧ dotAt zs ≤ zs.length := by
  rcases dot_cut zs with h | ⟨a, b, rfl, ha⟩
  · rw [dot_no h]; omega
  · rw [dot_yes rfl ha]; simp; omega
theorem dot_none {zs : List Int} (h : dotAt zs < 0) : zs.takeWhile (· != 46) = zs ∧ (zs.dropWhile (· != 46)).tail = [] ∧ dotAt zs = -1 := by
  unfold dotAt at h ⊢
  split at h
  · omega
  · rename_i hn
    have hall : ∀ y ∈ zs, (y != 46) = true := by
      intro y hy
      simp only [List.any_eq_true, not_exists, not_and] at hn
      have := hn y hy
      simpa using this
    have := span_no hall
    exact ⟨this.1, by rw [this.2]; rfl, if_neg hn⟩
theorem dot_some {zs : List Int} (h : ¬ dotAt zs < 0) : ∃ p : Nat, dotAt zs = p ∧ p < zs.length ∧ zs.takeWhile (· != 46) = zs.take p ∧ (zs.dropWhile (· != 46)).tail = zs.drop (p + 1) := by
  rcases cut_first (fun c => c != 46) zs with h2 | ⟨a, x, b, rfl, ha, hx⟩
  · exfalso
    apply h
    unfold dotAt
    rw [if_neg]
    · omega
    · intro h3
      rw [List.any_eq_true] at h3
      obtain ⟨y, hy, h4⟩ := h3
      have := h2 y hy
      simp at this h4
      exact this h4
  · have hs := span_at (b := b) ha hx
    have hx' : x = 46 := by simpa using hx
    refine ⟨a.length, ?_, by simp, by rw [hs.1, List.take_left], by rw [hs.2, List.tail_cons, ← List.drop_drop, List.drop_left]; rfl⟩
    unfold dotAt
    rw [if_pos (by simp [hx']), hs.1]

theorem str_nil (ws : List Int) : (strOfNums ws).toList.isEmpty = decide (ws = []) := by
  rw [strOfNums_list]
  cases ws <;> simp
theorem str_48 {ws : List Int} (hb : Bys ws) : ((strOfNums ws).toList == [48]) = decide (ws = [48]) := by
  have h := eqBytes hb (ys := [48]) (fun z hz => by simp at hz; omega)
  rw [show (strOfNums [48]).toList = [48] from by rw [strOfNums_list]; rfl] at h
  exact h
theorem str_48' {ws : List Int} (hb : Bys ws) : ((strOfNums ws).toList = [48]) = (ws = [48]) := by
  have := str_48 hb
  by_cases h : ws = [48]
  · rw [decide_eq_true h] at this; simpa [h] using this
  · rw [decide_eq_false h] at this; simpa [h] using this
theorem str_at0 {zs : List Int} (hb : Bys zs) (hk : zs ≠ []) (W : World) :
    (Instr.index 9 (.string (strOfNums zs)) (.int .i64 0)).run Tryz.prog W = .ok (.int .u8 (zs[0]?.getD 0)) W := by
  simpa using str_at hb (k := 0) (List.length_pos_iff.2 hk) W
/-- What mantS asks of the two parts. -/
def wpS (pt : Bool) (ws ps : List Int) : Bool := if !allDig ws || !allDig ps then false else if ws = [] then pt && decide (ps ≠ []) else (decide (ws = [48]) || decide (ws[0]?.getD 0 ≠ 48))
theorem mant_none {zs : List Int} (h : dotAt zs < 0) : mantS zs = wpS false zs [] := by
  obtain ⟨t1, t2, _⟩ := dot_none h
  unfold mantS wpS
  simp only [t1, t2]
  by_cases hz : zs = []
  · simp [hz]
  · simp [hz]
theorem mant_some {zs : List Int} {p : Nat} (hp : p < zs.length) (t1 : zs.takeWhile (· != 46) = zs.take p) (t2 : (zs.dropWhile (· != 46)).tail = zs.drop (p + 1)) : mantS zs = wpS true (zs.take p) (zs.drop (p + 1)) := by
  unfold mantS wpS
  simp only [t1, t2]
  rw [show decide ((zs.take p).length < zs.length) = true by simp; omega]

set_option maxHeartbeats 2000000 in
set_option maxRecDepth 100000 in
theorem mantissa_any (zs : List Int) (w : World) (hb : Bys zs) (hl : zs.length ≤ 1048576) :
    Calls Tryz.prog 115 #[.string (strOfNums zs)] w fun e w' => e = .returned (.bool (mantS zs)) ∧ w = w' := by
  have hnot : ∀ (x : Bool) (w : World), (Op.unary .not (.bool x)).run Tryz.prog w = .ok (.bool (!x)) w := fun _ _ => rfl
  have hsz : (strOfNums zs).size = zs.length := strOfNums_size zs
  go_enter Tryz.func115, Tryz.ntmps115
  go_wp2
  go_loopw [3, 4] (fun p i wr => ∃ k : Nat, k ≤ zs.length ∧ i = .int .i64 k ∧ p = .int .i64 (dotAt (zs.take k)) ∧ w = wr)
    (fun _ i _ => zs.length - (intOf i).toNat)
  case atStart => exact ⟨0, Nat.zero_le _, rfl, rfl, rfl⟩
  case round =>
    obtain ⟨k, hk, rfl, rfl, rfl⟩ := hrel
    by_cases hlt : k < zs.length
    · have hst := dot_snoc (zs.take k) (zs[k]?.getD 0)
      rw [← take_snoc zs k hlt, List.length_take_of_le hk] at hst
      have hix := str_at hb hlt w
      have hpb := hb.get k
      generalize zs[k]?.getD 0 = c at hix hst hpb
      obtain ⟨hp0, hp1⟩ := hpb
      have HS := hide hst
      clear hst
      have hdg := dot_ge (zs.take k)
      generalize dotAt (zs.take k) = d at HS hdg
      by_cases h46 : c = 46
      · have e1 : (c == 46) = true := by simp [h46]
        by_cases hd : d < 0
        · have HT : Hid (dotAt (zs.take (k + 1)) = (k : Int)) := by rw [Hid, HS.out, if_neg (by omega), if_pos h46]
          clear h46
          go_wp2
          go_roundw
          case rel => exact ⟨k + 1, by omega, by go_num, by rw [HT.out], trivial⟩
          case measure => simp [intOf]; omega
        · have HT : Hid (dotAt (zs.take (k + 1)) = d) := by rw [Hid, HS.out, if_pos (by omega)]
          clear h46
          go_wp2
          go_roundw
          case rel => exact ⟨k + 1, by omega, by go_num, by rw [HT.out], trivial⟩
          case measure => simp [intOf]; omega
      · have e1 : (c == 46) = false := by simp [h46]
        have HT : Hid (Value.int .i64 d = .int .i64 (dotAt (zs.take (k + 1)))) := by
          rw [Hid, HS.out]
          by_cases hd : 0 ≤ d
          · rw [if_pos hd]
          · rw [if_neg hd, if_neg h46, show d = -1 by omega]
        go_wp2
        go_roundw
        case rel => exact ⟨k + 1, by omega, by go_num, HT.out, trivial⟩
        case measure => simp [intOf]; omega
    · have hkn : zs.take k = zs := List.take_of_length_le (by omega)
      rw [hkn]
      clear hkn
      have HM0 := hide (fun h => mant_none (zs := zs) h)
      by_cases hd : dotAt zs < 0
      · have HM : Hid (mantS zs = wpS false zs []) := HM0.out hd
        have hd1 := (dot_none hd).2.2
        have HA := hide (allDigits_any zs w hb hl)
        have HB := hide (allDigits_any [] w (fun z hz => by simp at hz) (by simp))
        rw [hd1]
        clear hd hd1
        cases ha : allDig zs
        · have HV : Hid (mantS zs = false) := by rw [Hid, HM.out]; unfold wpS; simp [ha]
          rw [ha] at HA
          go_wp2_with fail
          refine (HA.out).mono ?_
          rintro e w' ⟨rfl, rfl⟩
          go_wp2
          go_ret
          exact ⟨by rw [HV.out]; rfl, rfl⟩
        · cases hc : allDig []
          · have HV : Hid (mantS zs = false) := by rw [Hid, HM.out]; unfold wpS; simp [ha, hc]
            rw [ha] at HA
            rw [hc] at HB
            go_wp2_with fail
            refine (HA.out).mono ?_
            rintro e w' ⟨rfl, rfl⟩
            go_wp2_with fail
            refine (HB.out).mono ?_
            rintro e w' ⟨rfl, rfl⟩
            go_wp2
            go_ret
            exact ⟨by rw [HV.out]; rfl, rfl⟩
          · have HX : Hid (mantS zs = if zs = [] then false && decide (([] : List Int) ≠ []) else (decide (zs = [48]) || decide ((zs)[0]?.getD 0 ≠ 48))) := by rw [Hid, HM.out]; unfold wpS; simp [ha, hc]
            rw [ha] at HA
            rw [hc] at HB
            by_cases hz : zs = []
            · have e0 : (strOfNums (zs)).toList.isEmpty = true := by rw [str_nil, decide_eq_true hz]
              have HV : Hid (mantS zs = false) := by rw [Hid, HX.out, if_pos hz]; rfl
              clear hz
              go_wp2_with fail
              refine (HA.out).mono ?_
              rintro e w' ⟨rfl, rfl⟩
              go_wp2_with fail
              refine (HB.out).mono ?_
              rintro e w' ⟨rfl, rfl⟩
              go_wp2
              go_ret
              exact ⟨by rw [HV.out]; rfl, rfl⟩
            · have e0 : (strOfNums (zs)).toList.isEmpty = false := by rw [str_nil, decide_eq_false hz]
              have hix := str_at0 hb hz w
              have hp0 := (Bys.get hb 0).1
              have e1 := str_48 hb
              have e2 := str_48' hb
              by_cases h48 : zs = [48]
              · rw [decide_eq_true h48] at e1
                have e3 : (strOfNums (zs)).toList = [48] := by rw [e2]; exact h48
                have HV : Hid (mantS zs = true) := by rw [Hid, HX.out, if_neg hz, decide_eq_true h48]; rfl
                clear hz h48 e2
                go_wp2_with fail
                refine (HA.out).mono ?_
                rintro e w' ⟨rfl, rfl⟩
                go_wp2_with fail
                refine (HB.out).mono ?_
                rintro e w' ⟨rfl, rfl⟩
                go_wp2
                go_ret
                exact ⟨by rw [HV.out]; rfl, rfl⟩
              · rw [decide_eq_false h48] at e1
                have e3 : ¬ (strOfNums (zs)).toList = [48] := by rw [e2]; exact h48
                have HV : Hid (mantS zs = decide ((zs)[0]?.getD 0 ≠ 48)) := by rw [Hid, HX.out, if_neg hz, decide_eq_false h48]; rfl
                clear hz h48 e2 HX
                generalize (zs)[0]?.getD 0 = c0 at hix HV hp0
                have HC : Hid ((c0 != 48) = decide (c0 ≠ 48)) := by rw [Hid, Bool.eq_iff_iff]; simp
                go_wp2_with fail
                refine (HA.out).mono ?_
                rintro e w' ⟨rfl, rfl⟩
                go_wp2_with fail
                refine (HB.out).mono ?_
                rintro e w' ⟨rfl, rfl⟩
                go_wp2
                go_ret
                exact ⟨by rw [HV.out, ← HC.out]; rfl, rfl⟩
      · obtain ⟨p, hp, hpl, t1, t2⟩ := dot_some hd
        have HM : Hid (mantS zs = wpS true (zs.take p) (zs.drop (p + 1))) := mant_some hpl t1 t2
        rw [hp]
        clear hd t1 t2 hp
        have hbw : Bys (zs.take p) := fun z hz => hb z (List.mem_of_mem_take hz)
        have hbp : Bys (zs.drop (p + 1)) := fun z hz => hb z (List.mem_of_mem_drop hz)
        have x1 : (strOfNums zs).extract 0 p = strOfNums (zs.take p) := by rw [ext_eq]; simp
        have x2 : (strOfNums zs).extract (p + 1) zs.length = strOfNums (zs.drop (p + 1)) := by
          rw [ext_eq, List.take_of_length_le (by rw [List.length_drop]; omega)]
        have HA := hide (allDigits_any (zs.take p) w hbw (by rw [List.length_take]; omega))
        have HB := hide (allDigits_any (zs.drop (p + 1)) w hbp (by rw [List.length_drop]; omega))
        cases ha : allDig (zs.take p)
        · have HV : Hid (mantS zs = false) := by rw [Hid, HM.out]; unfold wpS; simp [ha]
          rw [ha] at HA
          go_wp2_with fail
          refine (HA.out).mono ?_
          rintro e w' ⟨rfl, rfl⟩
          go_wp2
          go_ret
          exact ⟨by rw [HV.out]; rfl, rfl⟩
        · cases hc : allDig (zs.drop (p + 1))
          · have HV : Hid (mantS zs = false) := by rw [Hid, HM.out]; unfold wpS; simp [ha, hc]
            rw [ha] at HA
            rw [hc] at HB
            go_wp2_with fail
            refine (HA.out).mono ?_
            rintro e w' ⟨rfl, rfl⟩
            go_wp2_with fail
            refine (HB.out).mono ?_
            rintro e w' ⟨rfl, rfl⟩
            go_wp2
            go_ret
            exact ⟨by rw [HV.out]; rfl, rfl⟩
          · have HX : Hid (mantS zs = if (zs.take p) = [] then true && decide (zs.drop (p + 1) ≠ []) else (decide (zs.take p = [48]) || decide ((zs.take p)[0]?.getD 0 ≠ 48))) := by rw [Hid, HM.out]; unfold wpS; simp [ha, hc]
            rw [ha] at HA
            rw [hc] at HB
            by_cases hz : (zs.take p) = []
            · have e0 : (strOfNums (zs.take p)).toList.isEmpty = true := by rw [str_nil, decide_eq_true hz]
              have HV : Hid (mantS zs = !(strOfNums (zs.drop (p + 1))).toList.isEmpty) := by rw [Hid, HX.out, if_pos hz, str_nil]; simp only [ne_eq, decide_not, Bool.true_and]
              clear hz
              go_wp2_with fail
              refine (HA.out).mono ?_
              rintro e w' ⟨rfl, rfl⟩
              go_wp2_with fail
              refine (HB.out).mono ?_
              rintro e w' ⟨rfl, rfl⟩
              go_wp2
              go_ret
              exact ⟨by rw [HV.out]; rfl, rfl⟩
            · have e0 : (strOfNums (zs.take p)).toList.isEmpty = false := by rw [str_nil, decide_eq_false hz]
              have hix := str_at0 hbw hz w
              have hp0 := (Bys.get hbw 0).1
              have e1 := str_48 hbw
              have e2 := str_48' hbw
              by_cases h48 : zs.take p = [48]
              · rw [decide_eq_true h48] at e1
                have e3 : (strOfNums (zs.take p)).toList = [48] := by rw [e2]; exact h48
                have HV : Hid (mantS zs = true) := by rw [Hid, HX.out, if_neg hz, decide_eq_true h48]; rfl
                clear hz h48 e2
                go_wp2_with fail
                refine (HA.out).mono ?_
                rintro e w' ⟨rfl, rfl⟩
                go_wp2_with fail
                refine (HB.out).mono ?_
                rintro e w' ⟨rfl, rfl⟩
                go_wp2
                go_ret
                exact ⟨by rw [HV.out]; rfl, rfl⟩
              · rw [decide_eq_false h48] at e1
                have e3 : ¬ (strOfNums (zs.take p)).toList = [48] := by rw [e2]; exact h48
                have HV : Hid (mantS zs = decide ((zs.take p)[0]?.getD 0 ≠ 48)) := by rw [Hid, HX.out, if_neg hz, decide_eq_false h48]; rfl
                clear hz h48 e2 HX
                generalize (zs.take p)[0]?.getD 0 = c0 at hix HV hp0
                have HC : Hid ((c0 != 48) = decide (c0 ≠ 48)) := by rw [Hid, Bool.eq_iff_iff]; simp
                go_wp2_with fail
                refine (HA.out).mono ?_
                rintro e w' ⟨rfl, rfl⟩
                go_wp2_with fail
                refine (HB.out).mono ?_
                rintro e w' ⟨rfl, rfl⟩
                go_wp2
                go_ret
                exact ⟨by rw [HV.out, ← HC.out]; rfl, rfl⟩

end Go.Proofs.YtalkhnhhaiigiaaGreatDoor

namespace Go.Proofs.YtalkhnhhaiigiaaGreatDoor
open Go.RowKit

/-- A function value that asks P of a point. -/
structure Asks (cf : Nat) (P : Int → Bool) : Prop where
  call : ∀ (p : Int) (W : World), Calls Tryz.prog cf #[.int .i32 p] W fun e w' => e = .returned (.bool (P p)) ∧ W = w'
  enter : ∀ (args : Array Value) (W : World), (callFunc cf args).run Tryz.prog W = .ok (.enter cf args) W

theorem Tab.row {w w' : World} {sb : Nat} (h : Tab w) (hsb : 0 < sb) (hg : w.grownBy w' (some sb)) : Tab w' :=
  have e : some 0 ≠ some sb := by simp; omega
  ⟨hg.cell h.c0 e, hg.cell h.c1 e, hg.cell h.c2 e, hg.cell h.c3 e, hg.cell h.c4 e⟩
def atOf (sb : Nat) (w : World) : Nat := match w.cell? ⟨sb, 1, none⟩ with
  | some v => (intOf v).toNat
  | none => 0
theorem Sc.atOf {sb : Nat} {w : World} {tv : Value} {n : Nat} (h : Sc sb w tv n) : atOf sb w = n := by
  unfold Go.Proofs.YtalkhnhhaiigiaaGreatDoor.atOf
  rw [h.c1]
  simp [intOf]

set_option maxHeartbeats 2000000 in
set_option maxRecDepth 100000 in
theorem skip_any (cf : Nat) (P : Int → Bool) (hP : Asks cf P) (sb n : Nat) (tv : Value) (zs : List Int) (w : World) (hsb : 0 < sb) (hT : Tab w) (h : Sc sb w tv n) (ht : Tx sb w tv zs) (hn : n ≤ zs.length) :
    Calls Tryz.prog 132 #[.pointer (some ⟨sb, 0, none⟩), .func (.func cf) #[] #[]] w fun e w' => e = .returned (.bool (decide (n < skN P zs (zs.length + 1) n))) ∧ Sc sb w' tv (skN P zs (zs.length + 1) n) ∧ skN P zs (zs.length + 1) n ≤ zs.length ∧ w.grownBy w' (some sb) := by
  have hlen := ht.len
  have h1 := h.c1
  have HC := hide hP.call
  have hE' := hP.enter
  have HP0 := hide (peek_any sb n tv zs w hT h ht hn)
  have HS := hide h
  have HTx := hide ht
  have HT := hide hT
  clear h ht hP hT
  go_enter Tryz.func132, Tryz.ntmps132
  go_wp2_with (go_at_call 151; refine HP0.out.mono ?_; rintro e w1 ⟨rfl, g1⟩)
  go_loopw [6] (fun p wr => ∃ (k f : Nat), n ≤ k ∧ k ≤ zs.length ∧ p = .int .i32 (nxP zs k) ∧ Sc sb wr tv k ∧ Tx sb wr tv zs ∧ Tab wr ∧ w.grownBy wr (some sb) ∧ zs.length - k < f ∧ skN P zs f k = skN P zs (zs.length + 1) n)
    (fun _ wr => zs.length - atOf sb wr)
  case atStart => exact ⟨n, zs.length + 1, Nat.le_refl _, hn, rfl, HS.out.keep g1, HTx.out.keep g1, HT.out.keep g1, grown_row g1, by omega, rfl⟩
  case round =>
    obtain ⟨k, f, hnk, hk, rfl, hs, ht, hT, hg, hf, hsk⟩ := hrel
    have c1 := hs.c1
    have hat := hide hs.atOf
    obtain ⟨f', rfl⟩ : ∃ f', f = f' + 1 := ⟨f - 1, by omega⟩
    by_cases hgo : nxP zs k ≠ -1 ∧ P (nxP zs k) = true
    · have hpos := nxS_pos hgo.1
      have hle := nxS_le zs k hk
      have HSK := hide ((skN_go (f := f') hgo.1 hgo.2).symm.trans hsk)
      have e1 : (nxP zs k != -1) = true := by simpa using hgo.1
      have HN := hide (next_any sb k tv zs wr hT hs ht hk)
      have HPk := hide (fun W h => peek_any sb (k + nxS zs k) tv zs W h)
      have HQ := hide hgo.2
      have hq := HC.out (nxP zs k) wr
      rw [hgo.2] at hq
      have HTk := hide hT
      have HTxk := hide ht
      have HG := hide hg
      clear hs ht hT hg hsk hgo h1
      generalize nxP zs k = p at e1 hq HN
      generalize nxS zs k = m at HN HSK HPk hpos hle
      go_wp2_with fail
      refine hq.mono ?_
      rintro e w2 ⟨rfl, rfl⟩
      clear hq
      go_wp2_with fail
      refine HN.out.mono ?_
      rintro e w2 ⟨rfl, hs2, g2⟩
      have ht2 := HTxk.out.beside (Nat.le_refl _) g2
      have hT2 := HTk.out.row hsb g2
      go_wp2_with fail
      refine (HPk.out _ hT2 hs2 ht2 hle).mono ?_
      rintro e w3 ⟨rfl, g3⟩
      go_wp2
      go_roundw
      case rel => exact ⟨k + m, f', by omega, hle, rfl, hs2.keep g3, ht2.keep g3, hT2.keep g3, grown_trans (grown_trans HG.out g2) (grown_row g3), by omega, HSK.out⟩
      case measure => rw [(hs2.keep g3).atOf, hat.out]; omega
    · have HSK : Hid (skN P zs (zs.length + 1) n = k) := by
        rw [Hid, ← hsk, skN, if_neg hgo]
      have HS2 := hide hs
      have HG := hide hg
      have hfin : ∀ w', wr.grownBy w' none → Sc sb w' tv (skN P zs (zs.length + 1) n) ∧ skN P zs (zs.length + 1) n ≤ zs.length ∧ w.grownBy w' (some sb) := fun w' g => by
        rw [HSK.out]
        exact ⟨HS2.out.keep g, hk, grown_trans HG.out (grown_row g)⟩
      have HFIN := hide hfin
      have HD : Hid (decide (n < skN P zs (zs.length + 1) n) = decide (n < k)) := by rw [Hid, HSK.out]
      by_cases hm : nxP zs k = -1
      · have e1 : (nxP zs k != -1) = false := by rw [hm]; rfl
        clear hs ht hT hg hsk hgo h1 hfin hm
        generalize nxP zs k = p at e1
        go_wp2
        go_ret
        exact ⟨by rw [HD.out]; rfl, HFIN.out _ (World.grownBy.refl _ _)⟩
      · have e1 : (nxP zs k != -1) = true := by simpa using hm
        have hq := HC.out (nxP zs k) wr
        have hpf : P (nxP zs k) = false := by
          cases hh : P (nxP zs k)
          · rfl
          · exact absurd ⟨hm, hh⟩ hgo
        rw [hpf] at hq
        clear hs ht hT hg hsk hgo h1 hfin hm hpf
        generalize nxP zs k = p at e1 hq
        go_wp2_with fail
        refine hq.mono ?_
        rintro e w2 ⟨rfl, rfl⟩
        clear hq
        go_wp2
        go_ret
        exact ⟨by rw [HD.out]; rfl, HFIN.out _ (World.grownBy.refl _ _)⟩

end Go.Proofs.YtalkhnhhaiigiaaGreatDoor

namespace Go.Proofs.YtalkhnhhaiigiaaGreatDoor
open Go.RowKit

set_option maxHeartbeats 400000 in
theorem isDigit_any (p : Int) (w : World) : Calls Tryz.prog 146 #[.int .i32 p] w fun e w' => e = .returned (.bool (isDig p)) ∧ w = w' := by
  by_cases h0 : 48 ≤ p
  · by_cases h1 : p ≤ 57
    · have HI : Hid (isDig p = true) := by simp [Hid, isDig, h0, h1]
      go_enter Tryz.func146, Tryz.ntmps146
      go_wp2
      go_ret
      exact ⟨by rw [HI.out]; rfl, rfl⟩
    · have HI : Hid (isDig p = false) := by simp [Hid, isDig]; omega
      go_enter Tryz.func146, Tryz.ntmps146
      go_wp2
      go_ret
      exact ⟨by rw [HI.out]; rfl, rfl⟩
  · have HI : Hid (isDig p = false) := by simp [Hid, isDig]; omega
    go_enter Tryz.func146, Tryz.ntmps146
    go_wp2
    go_ret
    exact ⟨by rw [HI.out]; rfl, rfl⟩

end Go.Proofs.YtalkhnhhaiigiaaGreatDoor

namespace Go.Proofs.YtalkhnhhaiigiaaGreatDoor
open Go.RowKit

/-- The scanner at block sb stands before s; nothing but its block has turned since w0. -/
def St (sb : Nat) (w0 w : World) (s : List Int) : Prop := ∃ tv zs n, n ≤ zs.length ∧ zs.drop n = s ∧ Sc sb w tv n ∧ Tx sb w tv zs ∧ Tab w ∧ 0 < sb ∧ w0.grownBy w (some sb)

section
variable {sb : Nat} {w0 w : World}

theorem accept_yes (wl r : List Int) (hwb : Bys wl) (hwl : wl.length ≤ 100) (h : St sb w0 w (wl ++ r)) :
    Calls Tryz.prog 131 #[.pointer (some ⟨sb, 0, none⟩), .string (strOfNums wl)] w fun e w' => e = .returned (.bool true) ∧ St sb w0 w' r := by
  obtain ⟨tv, zs, n, hn, hs, hS, hX, hT, h0, hg⟩ := h
  refine (accept_any wl hwb hwl sb n tv zs w hS hX hn).mono ?_
  rintro e w' ⟨rfl, k, g⟩
  have hp : wl <+: zs.drop n := by rw [hs]; exact List.prefix_append _ _
  rw [if_pos hp] at k
  have hle : wl.length ≤ zs.length - n := by have := hp.length_le; rwa [List.length_drop] at this
  refine ⟨by rw [decide_eq_true hp], tv, zs, n + wl.length, by omega, ?_, k, hX.beside (Nat.le_refl _) g, hT.row h0 g, h0, grown_trans hg g⟩
  rw [← List.drop_drop, hs, List.drop_left]
theorem accept_no (wl s : List Int) (hwb : Bys wl) (hwl : wl.length ≤ 100) (hp : ¬ wl <+: s) (h : St sb w0 w s) :
    Calls Tryz.prog 131 #[.pointer (some ⟨sb, 0, none⟩), .string (strOfNums wl)] w fun e w' => e = .returned (.bool false) ∧ St sb w0 w' s := by
  obtain ⟨tv, zs, n, hn, hs, hS, hX, hT, h0, hg⟩ := h
  refine (accept_any wl hwb hwl sb n tv zs w hS hX hn).mono ?_
  rintro e w' ⟨rfl, k, g⟩
  rw [hs, if_neg hp] at k
  exact ⟨by rw [hs, decide_eq_false hp], tv, zs, n, hn, hs, k, hX.beside (Nat.le_refl _) g, hT.row h0 g, h0, grown_trans hg g⟩

def headIs (P : Int → Bool) : List Int → Bool
  | [] => false
  | c :: _ => P c
theorem headIs_dig (s : List Int) : headIs isDig s = headDig s := by cases s <;> rfl
theorem headIs_hex (s : List Int) : headIs isHex s = headHex s := by cases s <;> rfl
theorem skip_st (cf : Nat) (P : Int → Bool) (hP : Asks cf P) (hA : Asc P) (s : List Int) (h : St sb w0 w s) :
    Calls Tryz.prog 132 #[.pointer (some ⟨sb, 0, none⟩), .func (.func cf) #[] #[]] w fun e w' => e = .returned (.bool (headIs P s)) ∧ St sb w0 w' (s.dropWhile P) := by
  obtain ⟨tv, zs, n, hn, hs, hS, hX, hT, h0, hg⟩ := h
  refine (skip_any cf P hP sb n tv zs w h0 hT hS hX hn).mono ?_
  rintro e w' ⟨rfl, k, hle, g⟩
  have ha := sk_ascii hA hX.by_ (zs.length + 1) n hn (by omega)
  refine ⟨?_, tv, zs, _, hle, by rw [ha.1, hs], k, hX.beside (Nat.le_refl _) g, hT.row h0 g, h0, grown_trans hg g⟩
  congr 2
  rw [Bool.eq_iff_iff, decide_eq_true_eq, ha.2.2.2]
  by_cases hl : n < zs.length
  · rw [← hs, List.drop_eq_getElem_cons hl]
    simp [hl, headIs]
  · rw [← hs, List.drop_of_length_le (by omega)]
    simp [hl, headIs]
theorem ended_st (s : List Int) (h : St sb w0 w s) :
    Calls Tryz.prog 121 #[.pointer (some ⟨sb, 0, none⟩)] w fun e w' => e = .returned (.bool (decide (s = []))) ∧ St sb w0 w' s := by
  obtain ⟨tv, zs, n, hn, hs, hS, hX, hT, h0, hg⟩ := h
  refine (ended_any sb n tv zs w hS hX).mono ?_
  rintro e w' ⟨rfl, g⟩
  refine ⟨?_, tv, zs, n, hn, hs, hS.keep g, hX.keep g, hT.keep g, h0, grown_trans hg (grown_row g)⟩
  congr 2
  rw [Bool.eq_iff_iff, decide_eq_true_eq, beq_iff_eq, ← hs, List.drop_eq_nil_iff]
  omega
end

theorem asks_digit : Asks 146 isDig := ⟨fun p W => isDigit_any p W, fun args W => by kernel_rfl⟩
theorem asc_dig : Asc isDig := fun p h => by simp [isDig] at h; omega

/-- The ways of a decimal. -/
def partI (wb : Bool) (s : List Int) : Bool × List Int := match s with
  | [] => (wb, [])
  | c :: r => if c = 46 then (wb || headDig r, r.dropWhile isDig) else (wb, c :: r)
theorem not_pre {c : Int} {s : List Int} (h : ∀ r, s ≠ c :: r) : ¬ [c] <+: s := by
  rintro ⟨t, ht⟩
  exact h t ht.symm
theorem pre_no {c : Int} {s : List Int} (h : ¬ [c] <+: s) : ∀ r, s ≠ c :: r := fun r e => h ⟨r, e.symm⟩

theorem wholeC (s : List Int) : (∃ r, s = [48] ++ r ∧ mantI s = partI true r) ∨ (∃ s1, ¬ [48] <+: s ∧ s.dropWhile isDig = s1 ∧ mantI s = partI (headIs isDig s) s1) := by
  cases s with
  | nil => exact .inr ⟨[], by simp, rfl, rfl⟩
  | cons c r =>
    by_cases hc : c = 48
    · subst hc
      left
      exact ⟨r, rfl, by simp only [mantI]; rfl⟩
    · right
      refine ⟨_, not_pre (fun t e => hc (by simp at e; exact e.1)), rfl, ?_⟩
      simp only [mantI, if_neg hc]
      rfl
theorem partC (wb : Bool) (s : List Int) : (∃ r s2, s = [46] ++ r ∧ r.dropWhile isDig = s2 ∧ partI wb s = (wb || headIs isDig r, s2)) ∨ (¬ [46] <+: s ∧ partI wb s = (wb, s)) := by
  cases s with
  | nil => exact .inr ⟨by simp, rfl⟩
  | cons c r =>
    by_cases hc : c = 46
    · subst hc
      exact .inl ⟨r, _, rfl, rfl, by simp only [partI, if_pos, headIs_dig]⟩
    · exact .inr ⟨not_pre (fun t e => hc (by simp at e; exact e.1)), by simp only [partI, if_neg hc]⟩
theorem signC (r : List Int) : (∃ t, r = [43] ++ t ∧ strip r = t) ∨ (∃ t, r = [45] ++ t ∧ ¬ [43] <+: r ∧ strip r = t) ∨ (¬ [43] <+: r ∧ ¬ [45] <+: r ∧ strip r = r) := by
  cases r with
  | nil => exact .inr (.inr ⟨by simp, by simp, rfl⟩)
  | cons c r =>
    by_cases h1 : c = 43
    · subst h1; exact .inl ⟨r, rfl, by simp [strip, isSign]⟩
    · by_cases h2 : c = 45
      · subst h2; exact .inr (.inl ⟨r, rfl, not_pre (fun t e => by simp at e), by simp [strip, isSign]⟩)
      · exact .inr (.inr ⟨not_pre (fun t e => h1 (by simp at e; exact e.1)), not_pre (fun t e => h2 (by simp at e; exact e.1)), by simp [strip, isSign, h1, h2]⟩)
theorem expC (s : List Int) : (∃ r, s = [101] ++ r ∧ decOf (true, s) = (headIs isDig (strip r), (strip r).dropWhile isDig)) ∨ (∃ r, s = [69] ++ r ∧ ¬ [101] <+: s ∧ decOf (true, s) = (headIs isDig (strip r), (strip r).dropWhile isDig)) ∨ (¬ [101] <+: s ∧ ¬ [69] <+: s ∧ decOf (true, s) = (true, s)) := by
  cases s with
  | nil => exact .inr (.inr ⟨by simp, by simp, rfl⟩)
  | cons c r =>
    by_cases h1 : c = 101
    · subst h1; exact .inl ⟨r, rfl, by simp [decOf, isE, headIs_dig]⟩
    · by_cases h2 : c = 69
      · subst h2; exact .inr (.inl ⟨r, rfl, not_pre (fun t e => by simp at e), by simp [decOf, isE, headIs_dig]⟩)
      · exact .inr (.inr ⟨not_pre (fun t e => h1 (by simp at e; exact e.1)), not_pre (fun t e => h2 (by simp at e; exact e.1)), by simp [decOf, isE, h1, h2]⟩)

end Go.Proofs.YtalkhnhhaiigiaaGreatDoor

