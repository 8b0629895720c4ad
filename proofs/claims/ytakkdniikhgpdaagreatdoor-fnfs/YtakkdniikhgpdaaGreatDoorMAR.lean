import Derived.Test.YtakkdniikhgpdaaGreatDoorMAQ
namespace Go.Proofs.YtakkdniikhgpdaaGreatDoor
open Go.RowKit
attribute [-go_sem] run_index_string

theorem nd_zero {p : Int} (h : okPt p = false) : need p = 0 := by simp [need, h]
theorem own_six (w : World) (a b c d e f : Int) : OwB w.heap.size (w.alloc (.cells #[.int .u8 a, .int .u8 b, .int .u8 c, .int .u8 d, .int .u8 e, .int .u8 f] 5)) (.slice (some ⟨w.heap.size, 0, none⟩) 6 6) [a, b, c, d, e, f] :=
  ⟨rfl, .inr ⟨w.heap.size, 6, _, rfl, Nat.le_refl _, heap_alloc_new w _, Nat.le_refl _, by unfold maxLen; omega, rfl, rfl⟩⟩

set_option maxHeartbeats 2000000 in
set_option maxRecDepth 100000 in
theorem hex4_any (p : Int) (w : World) (hp0 : 0 ≤ p) (hp1 : p < 65536) :
    Calls Tryz.prog 84 #[.int .i64 p] w fun e w' => ∃ v', e = .returned v' ∧ OwB w.heap.size w' v' (hex4 p) ∧ Below w.heap.size w w' := by
  have hxs := fun q => hex_i64 q
  unfold hexS at hxs
  have x1 := fun W => hxs (p / 4096) W
  have x2 := fun W => hxs (p / 256) W
  have x3 := fun W => hxs (p / 16) W
  have x4 := fun W => hxs p W
  clear hxs
  go_enter Tryz.func84, Tryz.ntmps84
  go_wp2_with fail
  go_region
  all_goals
    go_wp2
    go_ret
    exact ⟨_, rfl, own_six w _ _ _ _ _ _, ⟨rfl, rfl, rfl, (below_box w _).size, (below_box w _).block⟩⟩

/-- A row of one's own over an append of another. -/
theorem own_row {B : Nat} {w w1 : World} {v v' : Value} {ys xs : List Int} (hB : B ≤ w.heap.size) (hv : OwB B w v ys) (hown' : w1.ownsRow B 5 1 v' (ys.length + xs.length) (ys.map (Value.int .u8) ++ xs.map (Value.int .u8))) (hgrow : w.grownBy w1 v.ownBlock) :
    OwB B w1 v' (ys ++ xs) ∧ Below B w w1 := by
  refine ⟨?_, below_own8 hB hv hgrow⟩
  unfold OwB Ow
  rw [List.length_append, List.map_append]
  exact hown'

set_option maxHeartbeats 4000000 in
set_option maxRecDepth 100000 in
theorem specQuote_any (v : Value) (zs : List Int) (w : World) (hv : RdI w.heap.size w v zs) (hn : zs.length ≤ 1048576) :
    Calls Tryz.prog 83 #[v] w fun e w' => ∃ v', e = .returned (.tuple #[v', .int .i64 (quR zs).2]) ∧ OwB w.heap.size w' v' (quR zs).1 ∧ w.grownBy w' none := by
  obtain ⟨i0, hi, hz0, hz1, hz2⟩ := info_parts info5
  have HF := hide (specFromUnits_any v zs w hv (by omega))
  have hbd := fu_bd zs
  have hfl := fuR_len zs
  have HQ : Hid (quR zs = if (fuR zs).2 = 0 then (34 :: qAll (fuR zs).1 ++ [34], 0) else ([], (fuR zs).2)) := rfl
  obtain ⟨a, cap, rfl, _⟩ := hv
  generalize fuR zs = f at HF hbd hfl HQ
  obtain ⟨ps, c⟩ := f
  simp only at HF hbd hfl HQ
  by_cases hc : c = 0
  · subst hc
    have HB := hide (hbd rfl)
    have HR := hide (HQ.out.trans (if_pos rfl))
    clear hbd HQ
    go_enter Tryz.func83, Tryz.ntmps83
    go_wp2_with fail
    refine HF.out.mono ?_
    rintro e w1 ⟨pv, rfl, o1, g1⟩
    obtain ⟨a1, cap1, hpv, hr1⟩ := o1.rd
    subst hpv
    have HG1 := hide g1
    have hB1 := g1.size
    clear HF o1
    go_wp2
    go_loopw [6, 7] (fun v i wr => ∃ k : Nat, k ≤ ps.length ∧ i = .int .i64 k ∧ OwB w1.heap.size wr v (34 :: qAll (ps.take k)) ∧ Below w1.heap.size w1 wr)
      (fun _ i _ => ps.length - (intOf i).toNat)
    case atStart => exact ⟨0, Nat.zero_le _, rfl, own_one w1 34, below_box w1 _⟩
    case round =>
      obtain ⟨k, hk, rfl, hown, hnx⟩ := hrel
      have hlen := qAll_len (ps.take k)
      rw [List.length_take_of_le hk] at hlen
      have hl2 : (34 :: qAll (ps.take k)).length = (qAll (ps.take k)).length + 1 := by simp
      have hBr := hnx.size
      by_cases hlt : k < ps.length
      · obtain ⟨b, off, rfl, hb, hc⟩ := hr1 (fun h => by simp [h] at hlt)
        have hcx : wr.cell? ⟨b, off + k, none⟩ = some (.int .i64 (ps[k]?.getD 0)) := (hnx.cell (by exact hb)).trans (hc k hlt)
        have hst := qAll_step ps k hlt
        have hpb := HB.out (ps[k]?.getD 0) (by simp [hlt])
        generalize ps[k]?.getD 0 = p at hcx hst hpb
        have HE : Hid (34 :: qAll (ps.take (k + 1)) = (34 :: qAll (ps.take k)) ++ qOne p) := by rw [Hid, hst]; rfl
        obtain ⟨hp0, hp1⟩ := hpb
        clear hst hc hr1
        generalize hys : 34 :: qAll (ps.take k) = ys at hown HE hl2
        have hyl : ys.length ≤ 6291457 := by omega
        clear hys hl2 hlen
        by_cases h8 : p = 8
        · subst h8
          go_wp2_with (at_builtin; refine Lib.wpList_append_own_string _ rfl _ _ 22 9 rfl w1.heap.size 5 i0 Tryz.underlying22 Tryz.underlying9 hi hz0 hz1 hz2 _ _ _ rfl hown { data := #[92, 98] } rfl (by unfold maxLen; simp [ByteArray.size]; omega) (by simp [ByteArray.size]; omega) hBr ?_; intro v2 w2 hown2 hgrow2 _)
          have o2 : OwB w1.heap.size w2 v2 (ys ++ qOne 8) := own_str _ rfl _ (by simp [ByteArray.size]; rfl) hown2
          have b2 := below_own8 hBr hown hgrow2
          rw [← HE.out] at o2
          clear hown2 hgrow2 hown
          go_wp2
          go_roundw
          case rel => exact ⟨k + 1, by omega, by go_num, o2, hnx.trans b2⟩
          case measure => simp [intOf]; omega
        by_cases h12 : p = 12
        · subst h12
          go_wp2_with (at_builtin; refine Lib.wpList_append_own_string _ rfl _ _ 22 9 rfl w1.heap.size 5 i0 Tryz.underlying22 Tryz.underlying9 hi hz0 hz1 hz2 _ _ _ rfl hown { data := #[92, 102] } rfl (by unfold maxLen; simp [ByteArray.size]; omega) (by simp [ByteArray.size]; omega) hBr ?_; intro v2 w2 hown2 hgrow2 _)
          have o2 : OwB w1.heap.size w2 v2 (ys ++ qOne 12) := own_str _ rfl _ (by simp [ByteArray.size]; rfl) hown2
          have b2 := below_own8 hBr hown hgrow2
          rw [← HE.out] at o2
          clear hown2 hgrow2 hown
          go_wp2
          go_roundw
          case rel => exact ⟨k + 1, by omega, by go_num, o2, hnx.trans b2⟩
          case measure => simp [intOf]; omega
        by_cases h10 : p = 10
        · subst h10
          go_wp2_with (at_builtin; refine Lib.wpList_append_own_string _ rfl _ _ 22 9 rfl w1.heap.size 5 i0 Tryz.underlying22 Tryz.underlying9 hi hz0 hz1 hz2 _ _ _ rfl hown { data := #[92, 110] } rfl (by unfold maxLen; simp [ByteArray.size]; omega) (by simp [ByteArray.size]; omega) hBr ?_; intro v2 w2 hown2 hgrow2 _)
          have o2 : OwB w1.heap.size w2 v2 (ys ++ qOne 10) := own_str _ rfl _ (by simp [ByteArray.size]; rfl) hown2
          have b2 := below_own8 hBr hown hgrow2
          rw [← HE.out] at o2
          clear hown2 hgrow2 hown
          go_wp2
          go_roundw
          case rel => exact ⟨k + 1, by omega, by go_num, o2, hnx.trans b2⟩
          case measure => simp [intOf]; omega
        by_cases h13 : p = 13
        · subst h13
          go_wp2_with (at_builtin; refine Lib.wpList_append_own_string _ rfl _ _ 22 9 rfl w1.heap.size 5 i0 Tryz.underlying22 Tryz.underlying9 hi hz0 hz1 hz2 _ _ _ rfl hown { data := #[92, 114] } rfl (by unfold maxLen; simp [ByteArray.size]; omega) (by simp [ByteArray.size]; omega) hBr ?_; intro v2 w2 hown2 hgrow2 _)
          have o2 : OwB w1.heap.size w2 v2 (ys ++ qOne 13) := own_str _ rfl _ (by simp [ByteArray.size]; rfl) hown2
          have b2 := below_own8 hBr hown hgrow2
          rw [← HE.out] at o2
          clear hown2 hgrow2 hown
          go_wp2
          go_roundw
          case rel => exact ⟨k + 1, by omega, by go_num, o2, hnx.trans b2⟩
          case measure => simp [intOf]; omega
        by_cases h9 : p = 9
        · subst h9
          go_wp2_with (at_builtin; refine Lib.wpList_append_own_string _ rfl _ _ 22 9 rfl w1.heap.size 5 i0 Tryz.underlying22 Tryz.underlying9 hi hz0 hz1 hz2 _ _ _ rfl hown { data := #[92, 116] } rfl (by unfold maxLen; simp [ByteArray.size]; omega) (by simp [ByteArray.size]; omega) hBr ?_; intro v2 w2 hown2 hgrow2 _)
          have o2 : OwB w1.heap.size w2 v2 (ys ++ qOne 9) := own_str _ rfl _ (by simp [ByteArray.size]; rfl) hown2
          have b2 := below_own8 hBr hown hgrow2
          rw [← HE.out] at o2
          clear hown2 hgrow2 hown
          go_wp2
          go_roundw
          case rel => exact ⟨k + 1, by omega, by go_num, o2, hnx.trans b2⟩
          case measure => simp [intOf]; omega
        by_cases h34 : p = 34
        · subst h34
          go_wp2_with (at_builtin; refine Lib.wpList_append_own_string _ rfl _ _ 22 9 rfl w1.heap.size 5 i0 Tryz.underlying22 Tryz.underlying9 hi hz0 hz1 hz2 _ _ _ rfl hown { data := #[92, 34] } rfl (by unfold maxLen; simp [ByteArray.size]; omega) (by simp [ByteArray.size]; omega) hBr ?_; intro v2 w2 hown2 hgrow2 _)
          have o2 : OwB w1.heap.size w2 v2 (ys ++ qOne 34) := own_str _ rfl _ (by simp [ByteArray.size]; rfl) hown2
          have b2 := below_own8 hBr hown hgrow2
          rw [← HE.out] at o2
          clear hown2 hgrow2 hown
          go_wp2
          go_roundw
          case rel => exact ⟨k + 1, by omega, by go_num, o2, hnx.trans b2⟩
          case measure => simp [intOf]; omega
        by_cases h92 : p = 92
        · subst h92
          go_wp2_with (at_builtin; refine Lib.wpList_append_own_string _ rfl _ _ 22 9 rfl w1.heap.size 5 i0 Tryz.underlying22 Tryz.underlying9 hi hz0 hz1 hz2 _ _ _ rfl hown { data := #[92, 92] } rfl (by unfold maxLen; simp [ByteArray.size]; omega) (by simp [ByteArray.size]; omega) hBr ?_; intro v2 w2 hown2 hgrow2 _)
          have o2 : OwB w1.heap.size w2 v2 (ys ++ qOne 92) := own_str _ rfl _ (by simp [ByteArray.size]; rfl) hown2
          have b2 := below_own8 hBr hown hgrow2
          rw [← HE.out] at o2
          clear hown2 hgrow2 hown
          go_wp2
          go_roundw
          case rel => exact ⟨k + 1, by omega, by go_num, o2, hnx.trans b2⟩
          case measure => simp [intOf]; omega
        have g8 : (p == 8) = false := by simpa using h8
        have g12 : (p == 12) = false := by simpa using h12
        have g10 : (p == 10) = false := by simpa using h10
        have g13 : (p == 13) = false := by simpa using h13
        have g9 : (p == 9) = false := by simpa using h9
        have g34 : (p == 34) = false := by simpa using h34
        have g92 : (p == 92) = false := by simpa using h92
        have hs := short_no h8 h12 h10 h13 h9 h34 h92
        clear h8 h12 h10 h13 h9 h34 h92
        have HND := hide (l1need_any p)
        by_cases h32 : p < 32
        · have HQ : Hid (qOne p = hex4 p) := qOne_hex hs (by simp [byHex, h32])
          have HX := hide (hex4_any p wr hp0 (by omega))
          clear hs HND
          go_wp2_with fail
          refine HX.out.mono ?_
          rintro e w2 ⟨t1, rfl, o1, b1⟩
          have hown1 : OwB w1.heap.size w2 u6 ys := Ow.later hown (grown_of_below b1)
          have hnx1 := hnx.trans (b1.mono hBr)
          have hex : ∃ g cap, ∃ t', t' = Value.slice (some ⟨g, 0, none⟩) (hex4 p).length cap ∧ t' = t1 := by
            rcases o1.2 with ⟨_, h⟩ | ⟨g, cap, cur, h, _⟩
            · exfalso; have e := (rfl : (hex4 p).length = 6); first | omega | (simp [hex4] at h)
            · exact ⟨g, cap, _, rfl, h.symm⟩
          obtain ⟨g, cap1, t', ht', hu4⟩ := hex
          rw [← hu4] at o1
          rw [← hu4, ht']
          rw [ht'] at o1
          have hcs := World.ownsRow.cells o1 (g := g) rfl
          have hB2 := hnx1.size
          have hll : (hex4 p).length ≤ 6 := Nat.le_of_eq rfl
          clear hu4 ht' hown hnx b1
          go_wp2_with (at_builtin; refine wpList_append_own _ rfl _ _ 22 rfl w1.heap.size 5 i0 (.int .u8 0) 1 1 Tryz.underlying22 hi hz0 hz1 hz2 rfl (by decide) _ _ _ rfl hown1 ⟨g, 0, none⟩ (hex4 p).length cap1 ((hex4 p).map (Value.int .u8)) rfl (by simp) hcs (ints_oneCell _ _) (by unfold maxLen; omega) (by omega) hB2 ?_; intro v' w3 hown' hgrow _)
          have R := own_row hB2 hown1 hown' hgrow
          rw [← HQ.out, ← HE.out] at R
          clear hown' hgrow hown1 hcs o1
          go_wp2
          go_roundw
          case rel => exact ⟨k + 1, by omega, by go_num, R.1, hnx1.trans R.2⟩
          case measure => simp [intOf]; omega
        by_cases h127 : p = 127
        · have HQ : Hid (qOne p = hex4 p) := qOne_hex hs (by simp [byHex, h127])
          have e127 : (p == 127) = true := by simp [h127]
          have HX := hide (hex4_any p wr hp0 (by omega))
          clear hs HND h127
          go_wp2_with fail
          refine HX.out.mono ?_
          rintro e w2 ⟨t1, rfl, o1, b1⟩
          have hown1 : OwB w1.heap.size w2 u6 ys := Ow.later hown (grown_of_below b1)
          have hnx1 := hnx.trans (b1.mono hBr)
          have hex : ∃ g cap, ∃ t', t' = Value.slice (some ⟨g, 0, none⟩) (hex4 p).length cap ∧ t' = t1 := by
            rcases o1.2 with ⟨_, h⟩ | ⟨g, cap, cur, h, _⟩
            · exfalso; have e := (rfl : (hex4 p).length = 6); first | omega | (simp [hex4] at h)
            · exact ⟨g, cap, _, rfl, h.symm⟩
          obtain ⟨g, cap1, t', ht', hu4⟩ := hex
          rw [← hu4] at o1
          rw [← hu4, ht']
          rw [ht'] at o1
          have hcs := World.ownsRow.cells o1 (g := g) rfl
          have hB2 := hnx1.size
          have hll : (hex4 p).length ≤ 6 := Nat.le_of_eq rfl
          clear hu4 ht' hown hnx b1
          go_wp2_with (at_builtin; refine wpList_append_own _ rfl _ _ 22 rfl w1.heap.size 5 i0 (.int .u8 0) 1 1 Tryz.underlying22 hi hz0 hz1 hz2 rfl (by decide) _ _ _ rfl hown1 ⟨g, 0, none⟩ (hex4 p).length cap1 ((hex4 p).map (Value.int .u8)) rfl (by simp) hcs (ints_oneCell _ _) (by unfold maxLen; omega) (by omega) hB2 ?_; intro v' w3 hown' hgrow _)
          have R := own_row hB2 hown1 hown' hgrow
          rw [← HQ.out, ← HE.out] at R
          clear hown' hgrow hown1 hcs o1
          go_wp2
          go_roundw
          case rel => exact ⟨k + 1, by omega, by go_num, R.1, hnx1.trans R.2⟩
          case measure => simp [intOf]; omega
        have e127 : (p == 127) = false := by simpa using h127
        by_cases h8232 : p = 8232
        · have HQ : Hid (qOne p = hex4 p) := qOne_hex hs (by simp [byHex, h8232])
          have e8232 : (p == 8232) = true := by simp [h8232]
          have HX := hide (hex4_any p wr hp0 (by omega))
          clear hs HND h8232
          go_wp2_with fail
          refine HX.out.mono ?_
          rintro e w2 ⟨t1, rfl, o1, b1⟩
          have hown1 : OwB w1.heap.size w2 u6 ys := Ow.later hown (grown_of_below b1)
          have hnx1 := hnx.trans (b1.mono hBr)
          have hex : ∃ g cap, ∃ t', t' = Value.slice (some ⟨g, 0, none⟩) (hex4 p).length cap ∧ t' = t1 := by
            rcases o1.2 with ⟨_, h⟩ | ⟨g, cap, cur, h, _⟩
            · exfalso; have e := (rfl : (hex4 p).length = 6); first | omega | (simp [hex4] at h)
            · exact ⟨g, cap, _, rfl, h.symm⟩
          obtain ⟨g, cap1, t', ht', hu4⟩ := hex
          rw [← hu4] at o1
          rw [← hu4, ht']
          rw [ht'] at o1
          have hcs := World.ownsRow.cells o1 (g := g) rfl
          have hB2 := hnx1.size
          have hll : (hex4 p).length ≤ 6 := Nat.le_of_eq rfl
          clear hu4 ht' hown hnx b1
          go_wp2_with (at_builtin; refine wpList_append_own _ rfl _ _ 22 rfl w1.heap.size 5 i0 (.int .u8 0) 1 1 Tryz.underlying22 hi hz0 hz1 hz2 rfl (by decide) _ _ _ rfl hown1 ⟨g, 0, none⟩ (hex4 p).length cap1 ((hex4 p).map (Value.int .u8)) rfl (by simp) hcs (ints_oneCell _ _) (by unfold maxLen; omega) (by omega) hB2 ?_; intro v' w3 hown' hgrow _)
          have R := own_row hB2 hown1 hown' hgrow
          rw [← HQ.out, ← HE.out] at R
          clear hown' hgrow hown1 hcs o1
          go_wp2
          go_roundw
          case rel => exact ⟨k + 1, by omega, by go_num, R.1, hnx1.trans R.2⟩
          case measure => simp [intOf]; omega
        have e8232 : (p == 8232) = false := by simpa using h8232
        by_cases h8233 : p = 8233
        · have HQ : Hid (qOne p = hex4 p) := qOne_hex hs (by simp [byHex, h8233])
          have e8233 : (p == 8233) = true := by simp [h8233]
          have HX := hide (hex4_any p wr hp0 (by omega))
          clear hs HND h8233
          go_wp2_with fail
          refine HX.out.mono ?_
          rintro e w2 ⟨t1, rfl, o1, b1⟩
          have hown1 : OwB w1.heap.size w2 u6 ys := Ow.later hown (grown_of_below b1)
          have hnx1 := hnx.trans (b1.mono hBr)
          have hex : ∃ g cap, ∃ t', t' = Value.slice (some ⟨g, 0, none⟩) (hex4 p).length cap ∧ t' = t1 := by
            rcases o1.2 with ⟨_, h⟩ | ⟨g, cap, cur, h, _⟩
            · exfalso; have e := (rfl : (hex4 p).length = 6); first | omega | (simp [hex4] at h)
            · exact ⟨g, cap, _, rfl, h.symm⟩
          obtain ⟨g, cap1, t', ht', hu4⟩ := hex
          rw [← hu4] at o1
          rw [← hu4, ht']
          rw [ht'] at o1
          have hcs := World.ownsRow.cells o1 (g := g) rfl
          have hB2 := hnx1.size
          have hll : (hex4 p).length ≤ 6 := Nat.le_of_eq rfl
          clear hu4 ht' hown hnx b1
          go_wp2_with (at_builtin; refine wpList_append_own _ rfl _ _ 22 rfl w1.heap.size 5 i0 (.int .u8 0) 1 1 Tryz.underlying22 hi hz0 hz1 hz2 rfl (by decide) _ _ _ rfl hown1 ⟨g, 0, none⟩ (hex4 p).length cap1 ((hex4 p).map (Value.int .u8)) rfl (by simp) hcs (ints_oneCell _ _) (by unfold maxLen; omega) (by omega) hB2 ?_; intro v' w3 hown' hgrow _)
          have R := own_row hB2 hown1 hown' hgrow
          rw [← HQ.out, ← HE.out] at R
          clear hown' hgrow hown1 hcs o1
          go_wp2
          go_roundw
          case rel => exact ⟨k + 1, by omega, by go_num, R.1, hnx1.trans R.2⟩
          case measure => simp [intOf]; omega
        have e8233 : (p == 8233) = false := by simpa using h8233
        cases ho : okPt p
        · have HQ : Hid (qOne p = hex4 p) := qOne_hex hs (by simp [byHex, ho])
          have hlt2 : p < 65536 := by simp [okPt] at ho; omega
          have HX := hide (hex4_any p wr hp0 hlt2)
          have hne : need p = 0 := nd_zero ho
          rw [hne] at HND
          clear hs h127 h8232 h8233
          go_wp2_with fail
          refine (HND.out _).mono ?_
          rintro e w9 ⟨rfl, rfl⟩
          go_wp2_with fail
          refine HX.out.mono ?_
          rintro e w2 ⟨t1, rfl, o1, b1⟩
          have hown1 : OwB w1.heap.size w2 u6 ys := Ow.later hown (grown_of_below b1)
          have hnx1 := hnx.trans (b1.mono hBr)
          have hex : ∃ g cap, ∃ t', t' = Value.slice (some ⟨g, 0, none⟩) (hex4 p).length cap ∧ t' = t1 := by
            rcases o1.2 with ⟨_, h⟩ | ⟨g, cap, cur, h, _⟩
            · exfalso; have e := (rfl : (hex4 p).length = 6); first | omega | (simp [hex4] at h)
            · exact ⟨g, cap, _, rfl, h.symm⟩
          obtain ⟨g, cap1, t', ht', hu4⟩ := hex
          rw [← hu4] at o1
          rw [← hu4, ht']
          rw [ht'] at o1
          have hcs := World.ownsRow.cells o1 (g := g) rfl
          have hB2 := hnx1.size
          have hll : (hex4 p).length ≤ 6 := Nat.le_of_eq rfl
          clear hu4 ht' hown hnx b1
          go_wp2_with (at_builtin; refine wpList_append_own _ rfl _ _ 22 rfl w1.heap.size 5 i0 (.int .u8 0) 1 1 Tryz.underlying22 hi hz0 hz1 hz2 rfl (by decide) _ _ _ rfl hown1 ⟨g, 0, none⟩ (hex4 p).length cap1 ((hex4 p).map (Value.int .u8)) rfl (by simp) hcs (ints_oneCell _ _) (by unfold maxLen; omega) (by omega) hB2 ?_; intro v' w3 hown' hgrow _)
          have R := own_row hB2 hown1 hown' hgrow
          rw [← HQ.out, ← HE.out] at R
          clear hown' hgrow hown1 hcs o1
          go_wp2
          go_roundw
          case rel => exact ⟨k + 1, by omega, by go_num, R.1, hnx1.trans R.2⟩
          case measure => simp [intOf]; omega
        · have HQ : Hid (qOne p = enc p) := qOne_enc hs (by simp [byHex, ho, h32, h127, h8232, h8233])
          have HX := hide (l1encode_any p wr ho)
          have hne : (need p == 0) = false := by have := need_ge p ho; simp; omega
          have hel := enc_len p
          clear hs h127 h8232 h8233
          go_wp2_with fail
          refine (HND.out _).mono ?_
          rintro e w9 ⟨rfl, rfl⟩
          go_wp2_with fail
          refine HX.out.mono ?_
          rintro e w2 ⟨t1, rfl, o1, b1⟩
          have hown1 : OwB w1.heap.size w2 u6 ys := Ow.later hown (grown_of_below b1)
          have hnx1 := hnx.trans (b1.mono hBr)
          have hex : ∃ g cap, ∃ t', t' = Value.slice (some ⟨g, 0, none⟩) (enc p).length cap ∧ t' = t1 := by
            rcases o1.2 with ⟨_, h⟩ | ⟨g, cap, cur, h, _⟩
            · exfalso; have e := hel; first | omega | (simp [hex4] at h)
            · exact ⟨g, cap, _, rfl, h.symm⟩
          obtain ⟨g, cap1, t', ht', hu4⟩ := hex
          rw [← hu4] at o1
          rw [← hu4, ht']
          rw [ht'] at o1
          have hcs := World.ownsRow.cells o1 (g := g) rfl
          have hB2 := hnx1.size
          have hll : (enc p).length ≤ 6 := by omega
          clear hu4 ht' hown hnx b1
          go_wp2_with (at_builtin; refine wpList_append_own _ rfl _ _ 22 rfl w1.heap.size 5 i0 (.int .u8 0) 1 1 Tryz.underlying22 hi hz0 hz1 hz2 rfl (by decide) _ _ _ rfl hown1 ⟨g, 0, none⟩ (enc p).length cap1 ((enc p).map (Value.int .u8)) rfl (by simp) hcs (ints_oneCell _ _) (by unfold maxLen; omega) (by omega) hB2 ?_; intro v' w3 hown' hgrow _)
          have R := own_row hB2 hown1 hown' hgrow
          rw [← HQ.out, ← HE.out] at R
          clear hown' hgrow hown1 hcs o1
          go_wp2
          go_roundw
          case rel => exact ⟨k + 1, by omega, by go_num, R.1, hnx1.trans R.2⟩
          case measure => simp [intOf]; omega
      · have hkn : k = ps.length := by omega
        rw [hkn, List.take_length] at hown hlen hl2
        clear hr1 hkn
        go_wp2_with (at_builtin; refine wpList_append_own _ rfl _ _ 22 rfl w1.heap.size 5 i0 (.int .u8 0) 1 1 Tryz.underlying22 hi hz0 hz1 hz2 rfl (by decide) _ _ _ rfl (World.ownsRow.alloc hown _) ⟨wr.heap.size, 0, none⟩ 1 1 [.int .u8 34] rfl rfl (cell_one_new _ _ _) (by intro u hu; simp at hu; subst hu; rfl) (by rw [hl2]; unfold maxLen; omega) (by rw [hl2]; omega) (by simp; omega) ?_; intro v' w2 hown' hgrow _)
        have R := own_app (xs := [34]) _ hBr hown hown' (by simp) hgrow
        clear hown' hgrow hown
        go_wp2
        go_ret2
        refine ⟨_, by rw [HR.out]; rfl, ?_, ?_⟩
        · rw [HR.out]
          exact row_base hB1 R.1
        · exact grown_trans HG1.out (grown_of_below (hnx.trans R.2))
  · have HR := hide (HQ.out.trans (if_neg hc))
    have hce : (c != 0) = true := by simpa using hc
    clear hbd HQ hc
    go_enter Tryz.func83, Tryz.ntmps83
    go_wp2_with fail
    refine HF.out.mono ?_
    rintro e w1 ⟨pv, rfl, o1, g1⟩
    go_wp2
    go_ret2
    exact ⟨_, by rw [HR.out]; rfl, by rw [HR.out]; exact World.ownsRow_nil _ _ _ _, g1⟩

end Go.Proofs.YtakkdniikhgpdaaGreatDoor

