import Derived.Test.YtakkdniikhgpdaaGreatDoorNAE
import Derived.Test.YtakkdniikhgpdaaGreatDoorNAF
import Derived.Test.YtakkdniikhgpdaaGreatDoorNAI
import Derived.Test.YtakkdniikhgpdaaGreatDoorNAJ
namespace Go.Proofs.YtakkdniikhgpdaaGreatDoor
open Go.RowKit
attribute [-go_sem] run_index_string

theorem nd_zero {p : Int} (h : okPt p = false) : need p = 0 := by simp [need, h]
theorem own_six (w : World) (a b c d e f : Int) : OwB w.heap.size (w.alloc (.cells #[.int .u8 a, .int .u8 b, .int .u8 c, .int .u8 d, .int .u8 e, .int .u8 f] 5)) (.slice (some ⟨w.heap.size, 0, none⟩) 6 6) [a, b, c, d, e, f] :=
  ⟨rfl, .inr ⟨w.heap.size, 6, _, rfl, Nat.le_refl _, heap_alloc_new w _, Nat.le_refl _, by unfold maxLen; omega, rfl, rfl⟩⟩

set_option maxHeartbeats 2000000 in
set_option maxRecDepth 100000 in
theorem hex4_any (p : Int) (w : World) (hp0 : 0 ≤ p) (hp1 : p < 65536) :
    Calls Tryz.prog 84 #[.int .i64 p] w fun e w' => ∃ v', e = .returned v' ∧ OwB w.heap.size w' v' (hex4 p) ∧ Below w.heap.size w w' := by
  have hxs := fun q => hex_i64 q
  unfold hexS at hxs
  have x1 := fun W => hxs (p / 4096) W
  have x2 := fun W => hxs (p / 256) W
  have x3 := fun W => hxs (p / 16) W
  have x4 := fun W => hxs p W
  clear hxs
  go_enter Tryz.func84, Tryz.ntmps84
  go_wp2_with fail
  go_region
  all_goals
    go_wp2
    go_ret
    exact ⟨_, rfl, own_six w _ _ _ _ _ _, ⟨rfl, rfl, rfl, (below_box w _).size, (below_box w _).block⟩⟩

/-- A row of one's own over an append of another. -/
theorem own_row {B : Nat} {w w1 : World} {v v' : Value} {ys xs : List Int} (hB : B ≤ w.heap.size) (hv : OwB B w v ys) (hown' : w1.ownsRow B 5 1 v' (ys.length + xs.length) (ys.map (Value.int .u8) ++ xs.map (Value.int .u8))) (hgrow : w.grownBy w1 v.ownBlock) :
    OwB B w1 v' (ys ++ xs) ∧ Below B w w1 := by
  refine ⟨?_, below_own8 hB hv hgrow⟩
  unfold OwB Ow
  rw [List.length_append, List.map_append]
  exact hown'

set_option maxHeartbeats 4000000 in
set_option maxRecDepth 100000 in
theorem specQuote_any (v : Value) (zs : List Int) (w : World) (hv : RdI w.heap.size w v zs) (hn : zs.length ≤ 1048576) :
    Calls Tryz.prog 83 #[v] w fun e w' => ∃ v', e = .returned (.tuple #[v', .int .i64 (quR zs).2]) ∧ OwB w.heap.size w' v' (quR zs).1 ∧ w.grownBy w' none := by
  obtain ⟨i0, hi, hz0, hz1, hz2⟩ := info_parts info5
  have HF := hide (specFromUnits_any v zs w hv (by omega))
  have hbd := fu_bd zs
  have hfl := fuR_len zs
  have HQ : Hid (quR zs = if (fuR zs).2 = 0 then (34 :: qAll (fuR zs).1 ++ [34], 0) else ([], (fuR zs).2)) := rfl
  obtain ⟨a, cap, rfl, _⟩ := hv
  generalize fuR zs = f at HF hbd hfl HQ
  obtain ⟨ps, c⟩ := f
  simp only at HF hbd hfl HQ
  by_cases hc : c = 0
  · subst hc
    have HB := hide (hbd rfl)
    have HR := hide (HQ.out.trans (if_pos rfl))
    clear hbd HQ
    go_enter Tryz.func83, Tryz.ntmps83
    go_wp2_with fail
    refine HF.out.mono ?_
    rintro e w1 ⟨pv, rfl, o1, g1⟩
    obtain ⟨a1, cap1, hpv, hr1⟩ := o1.rd
    subst hpv
    have HG1 := hide g1
    have hB1 := g1.size
    clear HF o1
    go_wp2
    go_loopw [6, 7] (fun v i wr => ∃ k : Nat, k ≤ ps.length ∧ i = .int .i64 k ∧ OwB w1.heap.size wr v (34 :: qAll (ps.take k)) ∧ Below w1.heap.size w1 wr)
      (fun _ i _ => ps.length - (intOf i).toNat)
    case atStart => exact ⟨0, Nat.zero_le _, rfl, own_one w1 34, below_box w1 _⟩
    case round =>
      obtain ⟨k, hk, rfl, hown, hnx⟩ := hrel
      have hlen := qAll_len (ps.take k)
      rw [List.length_take_of_le hk] at hlen
      have hl2 : (34 :: qAll (ps.take k)).length = (qAll (ps.take k)).length + 1 := by simp
      have hBr := hnx.size
      by_cases hlt : k < ps.length
      · obtain ⟨b, off, rfl, hb, hc⟩ := hr1 (fun h => by simp [h] at hlt)
        have hcx : wr.cell? ⟨b, off + k, none⟩ = some (.int .i64 (ps[k]?.getD 0)) := (hnx.cell (by exact hb)).trans (hc k hlt)
        have hst := qAll_step ps k hlt
        have hpb := HB.out (ps[k]?.getD 0) (by simp [hlt])
        generalize ps[k]?.getD 0 = p at hcx hst hpb
        have HE : Hid (34 :: qAll (ps.take (k + 1)) = (34 :: qAll (ps.take k)) ++ qOne p) := by rw [Hid, hst]; rfl
        obtain ⟨hp0, hp1⟩ := hpb
        clear hst hc hr1
        generalize hys : 34 :: qAll (ps.take k) = ys at hown HE hl2
        have hyl : ys.length ≤ 6291457 := by omega
        clear hys hl2 hlen
        by_cases h8 : p = 8
        · subst h8
          go_wp2_with (at_builtin; refine Lib.wpList_append_own_string _ rfl _ _ 22 9 rfl w1.heap.size 5 i0 Tryz.underlying22 Tryz.underlying9 hi hz0 hz1 hz2 _ _ _ rfl hown { data := #[92, 98] } rfl (by unfold maxLen; simp [ByteArray.size]; omega) (by simp [ByteArray.size]; omega) hBr ?_; intro v2 w2 hown2 hgrow2 _)
          have o2 : OwB w1.heap.size w2 v2 (ys ++ qOne 8) := own_str _ rfl _ (by simp [ByteArray.size]; rfl) hown2
          have b2 := below_own8 hBr hown hgrow2
          rw [← HE.out] at o2
          clear hown2 hgrow2 hown
          go_wp2
          go_roundw
          case rel => exact ⟨k + 1, by omega, by go_num, o2, hnx.trans b2⟩
          case measure => simp [intOf]; omega
        by_cases h12 : p = 12
        · subst h12
          go_wp2_with (at_builtin; refine Lib.wpList_append_own_string _ rfl _ _ 22 9 rfl w1.heap.size 5 i0 Tryz.underlying22 Tryz.underlying9 hi hz0 hz1 hz2 _ _ _ rfl hown { data := #[92, 102] } rfl (by unfold maxLen; simp [ByteArray.size]; omega) (by simp [ByteArray.size]; omega) hBr ?_; intro v2 w2 hown2 hgrow2 _)
          have o2 : OwB w1.heap.size w2 v2 (ys ++ qOne 12) := own_str _ rfl _ (by simp [ByteArray.size]; rfl) hown2
          have b2 := below_own8 hBr hown hgrow2
          rw [← HE.out] at o2
          clear hown2 hgrow2 hown
          go_wp2
          go_roundw
          case rel => exact ⟨k + 1, by omega, by go_num, o2, hnx.trans b2⟩
          case measure => simp [intOf]; omega
        by_cases h10 : p = 10
        · subst h10
          go_wp2_with (at_builtin; refine Lib.wpList_append_own_string _ rfl _ _ 22 9 rfl w1.heap.size 5 i0 Tryz.underlying22 Tryz.underlying9 hi hz0 hz1 hz2 _ _ _ rfl hown { data := #[92, 110] } rfl (by unfold maxLen; simp [ByteArray.size]; omega) (by simp [ByteArray.size]; omega) hBr ?_; intro v2 w2 hown2 hgrow2 _)
          have o2 : OwB w1.heap.size w2 v2 (ys ++ qOne 10) := own_str _ rfl _ (by simp [ByteArray.size]; rfl) hown2
          have b2 := below_own8 hBr hown hgrow2
          rw [← HE.out] at o2
          clear hown2 hgrow2 hown
          go_wp2
          go_roundw
          case rel => exact ⟨k + 1, by omega, by go_num, o2, hnx.trans b2⟩
          case measure => simp [intOf]; omega
        by_cases h13 : p = 13
        · subst h13
          go_wp2_with (at_builtin; refine Lib.wpList_append_own_string _ rfl _ _ 22 9 rfl w1.heap.size 5 i0 Tryz.underlying22 Tryz.underlying9 hi hz0 hz1 hz2 _ _ _ rfl hown { data := #[92, 114] } rfl (by unfold maxLen; simp [ByteArray.size]; omega) (by simp [ByteArray.size]; omega) hBr ?_; intro v2 w2 hown2 hgrow2 _)
          have o2 : OwB w1.heap.size w2 v2 (ys ++ qOne 13) := own_str _ rfl _ (by simp [ByteArray.size]; rfl) hown2
          have b2 := below_own8 hBr hown hgrow2
          rw [← HE.out] at o2
          clear hown2 hgrow2 hown
          go_wp2
          go_roundw
          case rel => exact ⟨k + 1, by omega, by go_num, o2, hnx.trans b2⟩
          case measure => simp [intOf]; omega
        by_cases h9 : p = 9
        · subst h9
          go_wp2_with (at_builtin; refine Lib.wpList_append_own_string _ rfl _ _ 22 9 rfl w1.heap.size 5 i0 Tryz.underlying22 Tryz.underlying9 hi hz0 hz1 hz2 _ _ _ rfl hown { data := #[92, 116] } rfl (by unfold maxLen; simp [ByteArray.size]; omega) (by simp [ByteArray.size]; omega) hBr ?_; intro v2 w2 hown2 hgrow2 _)
          have o2 : OwB w1.heap.size w2 v2 (ys ++ qOne 9) := own_str _ rfl _ (by simp [ByteArray.size]; rfl) hown2
          have b2 := below_own8 hBr hown hgrow2
          rw [← HE.out] at o2
          clear hown2 hgrow2 hown
          go_wp2
          go_roundw
          case rel => exact ⟨k + 1, by omega, by go_num, o2, hnx.trans b2⟩
          case measure => simp [intOf]; omega
        by_cases h34 : p = 34
        · subst h34
          go_wp2_with (at_builtin; refine Lib.wpList_append_own_string _ rfl _ _ 22 9 rfl w1.heap.size 5 i0 Tryz.underlying22 Tryz.underlying9 hi hz0 hz1 hz2 _ _ _ rfl hown { data := #[92, 34] } rfl (by unfold maxLen; simp [ByteArray.size]; omega) (by simp [ByteArray.size]; omega) hBr ?_; intro v2 w2 hown2 hgrow2 _)
          have o2 : OwB w1.heap.size w2 v2 (ys ++ qOne 34) := own_str _ rfl _ (by simp [ByteArray.size]; rfl) hown2
          have b2 := below_own8 hBr hown hgrow2
          rw [← HE.out] at o2
          clear hown2 hgrow2 hown
          go_wp2
          go_roundw
          case rel => exact ⟨k + 1, by omega, by go_num, o2, hnx.trans b2⟩
          case measure => simp [intOf]; omega
        by_cases h92 : p = 92
        · subst h92
          go_wp2_with (at_builtin; refine Lib.wpList_append_own_string _ rfl _ _ 22 9 rfl w1.heap.size 5 i0 Tryz.underlying22 Tryz.underlying9 hi hz0 hz1 hz2 _ _ _ rfl hown { data := #[92, 92] } rfl (by unfold maxLen; simp [ByteArray.size]; omega) (by simp [ByteArray.size]; omega) hBr ?_; intro v2 w2 hown2 hgrow2 _)
          have o2 : OwB w1.heap.size w2 v2 (ys ++ qOne 92) := own_str _ rfl _ (by simp [ByteArray.size]; rfl) hown2
          have b2 := below_own8 hBr hown hgrow2
          rw [← HE.out] at o2
          clear hown2 hgrow2 hown
          go_wp2
          go_roundw
          case rel => exact ⟨k + 1, by omega, by go_num, o2, hnx.trans b2⟩
          case measure => simp [intOf]; omega
        have g8 : (p == 8) = false := by simpa using h8
        have g12 : (p == 12) = false := by simpa using h12
        have g10 : (p == 10) = false := by simpa using h10
        have g13 : (p == 13) = false := by simpa using h13
        have g9 : (p == 9) = false := by simpa using h9
        have g34 : (p == 34) = false := by simpa using h34
        have g92 : (p == 92) = false := by simpa using h92
        have hs := short_no h8 h12 h10 h13 h9 h34 h92
        clear h8 h12 h10 h13 h9 h34 h92
        have HND := hide (l1need_any p)
        by_cases h32 : p < 32
        · have HQ : Hid (qOne p = hex4 p) := qOne_hex hs (by simp [byHex, h32])
          have HX := hide (hex4_any p wr hp0 (by omega))
          clear hs HND
          go_wp2_with fail
          refine HX.out.mono ?_
          rintro e w2 ⟨t1, rfl, o1, b1⟩
          have hown1 : OwB w1.heap.size w2 u6 ys := Ow.later hown (grown_of_below b1)
          have hnx1 := hnx.trans (b1.mono hBr)
          have hex : ∃ g cap, ∃ t', t' = Value.slice (some ⟨g, 0, none⟩) (hex4 p).length cap ∧ t' = t1 := by
            rcases o1.2 with ⟨_, h⟩ | ⟨g, cap, cur, h, _⟩
            · exfalso; have e := (rfl : (hex4 p).length = 6); first | omega | (simp [hex4] at h)
            · exact ⟨g, cap, _, rfl, h.symm⟩
          obtain ⟨g, cap1, t', ht', hu4⟩ := hex
          rw [← hu4] at o1
          rw [← hu4, ht']
          rw [ht'] at o1
          have hcs := World.ownsRow.cells o1 (g := g) rfl
          have hB2 := hnx1.size
          have hll : (hex4 p).length ≤ 6 := Nat.le_of_eq rfl
          clear hu4 ht' hown hnx b1
          go_wp2_with (at_builtin; refine wpList_append_own _ rfl _ _ 22 rfl w1.heap.size 5 i0 (.int .u8 0) 1 1 Tryz.underlying22 hi hz0 hz1 hz2 rfl (by decide) _ _ _ rfl hown1 ⟨g, 0, none⟩ (hex4 p).length cap1 ((hex4 p).map (Value.int .u8)) rfl (by simp) hcs (ints_oneCell _ _) (by unfold maxLen; omega) (by omega) hB2 ?_; intro v' w3 hown' hgrow _)
          have R := own_row hB2 hown1 hown' hgrow
          rw [← HQ.out, ← HE.out] at R
          clear hown' hgrow hown1 hcs o1
          go_wp2
          go_roundw
          case rel => exact ⟨k + 1, by omega, by go_num, R.1, hnx1.trans R.2⟩
          case measure => simp [intOf]; omega
        by_cases h127 : p = 127
        · have HQ : Hid (qOne p = hex4 p) := qOne_hex hs (by simp [byHex, h127])
          have e127 : (p == 127) = true := by simp [h127]
          have HX := hide (hex4_any p wr hp0 (by omega))
          clear hs HND h127
          go_wp2_with fail
          refine HX.out.mono ?_
          rintro e w2 ⟨t1, rfl, o1, b1⟩
          have hown1 : OwB w1.heap.size w2 u6 ys := Ow.later hown (grown_of_below b1)
          have hnx1 := hnx.trans (b1.mono hBr)
          have hex : ∃ g cap, ∃ t', t' = Value.slice (some ⟨g, 0, none⟩) (hex4 p).length cap ∧ t' = t1 := by
            rcases o1.2 with ⟨_, h⟩ | ⟨g, cap, cur, h, _⟩
            · exfalso; have e := (rfl : (hex4 p).length = 6); first | omega | (simp [hex4] at h)
            · exact ⟨g, cap, _, rfl, h.symm⟩
          obtain ⟨g, cap1, t', ht', hu4⟩ := hex
          rw [← hu4] at o1
          rw [← hu4, ht']
          rw [ht'] at o1
          have hcs := World.ownsRow.cells o1 (g := g) rfl
          have hB2 := hnx1.size
          have hll : (hex4 p).length ≤ 6 := Nat.le_of_eq rfl
          clear hu4 ht' hown hnx b1
          go_wp2_with (at_builtin; refine wpList_append_own _ rfl _ _ 22 rfl w1.heap.size 5 i0 (.int .u8 0) 1 1 Tryz.underlying22 hi hz0 hz1 hz2 rfl (by decide) _ _ _ rfl hown1 ⟨g, 0, none⟩ (hex4 p).length cap1 ((hex4 p).map (Value.int .u8)) rfl (by simp) hcs (ints_oneCell _ _) (by unfold maxLen; omega) (by omega) hB2 ?_; intro v' w3 hown' hgrow _)
          have R := own_row hB2 hown1 hown' hgrow
          rw [← HQ.out, ← HE.out] at R
          clear hown' hgrow hown1 hcs o1
          go_wp2
          go_roundw
          case rel => exact ⟨k + 1, by omega, by go_num, R.1, hnx1.trans R.2⟩
          case measure => simp [intOf]; omega
        have e127 : (p == 127) = false := by simpa using h127
        by_cases h8232 : p = 8232
        · have HQ : Hid (qOne p = hex4 p) := qOne_hex hs (by simp [byHex, h8232])
          have e8232 : (p == 8232) = true := by simp [h8232]
          have HX := hide (hex4_any p wr hp0 (by omega))
          clear hs HND h8232
          go_wp2_with fail
          refine HX.out.mono ?_
          rintro e w2 ⟨t1, rfl, o1, b1⟩
          have hown1 : OwB w1.heap.size w2 u6 ys := Ow.later hown (grown_of_below b1)
          have hnx1 := hnx.trans (b1.mono hBr)
          have hex : ∃ g cap, ∃ t', t' = Value.slice (some ⟨g, 0, none⟩) (hex4 p).length cap ∧ t' = t1 := by
            rcases o1.2 with ⟨_, h⟩ | ⟨g, cap, cur, h, _⟩
            · exfalso; have e := (rfl : (hex4 p).length = 6); first | omega | (simp [hex4] at h)
            · exact ⟨g, cap, _, rfl, h.symm⟩
          obtain ⟨g, cap1, t', ht', hu4⟩ := hex
          rw [← hu4] at o1
          rw [← hu4, ht']
          rw [ht'] at o1
          have hcs := World.ownsRow.cells o1 (g := g) rfl
          have hB2 := hnx1.size
          have hll : (hex4 p).length ≤ 6 := Nat.le_of_eq rfl
          clear hu4 ht' hown hnx b1
          go_wp2_with (at_builtin; refine wpList_append_own _ rfl _ _ 22 rfl w1.heap.size 5 i0 (.int .u8 0) 1 1 Tryz.underlying22 hi hz0 hz1 hz2 rfl (by decide) _ _ _ rfl hown1 ⟨g, 0, none⟩ (hex4 p).length cap1 ((hex4 p).map (Value.int .u8)) rfl (by simp) hcs (ints_oneCell _ _) (by unfold maxLen; omega) (by omega) hB2 ?_; intro v' w3 hown' hgrow _)
          have R := own_row hB2 hown1 hown' hgrow
          rw [← HQ.out, ← HE.out] at R
          clear hown' hgrow hown1 hcs o1
          go_wp2
          go_roundw
          case rel => exact ⟨k + 1, by omega, by go_num, R.1, hnx1.trans R.2⟩
          case measure => simp [intOf]; omega
        have e8232 : (p == 8232) = false := by simpa using h8232
        by_cases h8233 : p = 8233
        · have HQ : Hid (qOne p = hex4 p) := qOne_hex hs (by simp [byHex, h8233])
          have e8233 : (p == 8233) = true := by simp [h8233]
          have HX := hide (hex4_any p wr hp0 (by omega))
          clear hs HND h8233
          go_wp2_with fail
          refine HX.out.mono ?_
          rintro e w2 ⟨t1, rfl, o1, b1⟩
          have hown1 : OwB w1.heap.size w2 u6 ys := Ow.later hown (grown_of_below b1)
          have hnx1 := hnx.trans (b1.mono hBr)
          have hex : ∃ g cap, ∃ t', t' = Value.slice (some ⟨g, 0, none⟩) (hex4 p).length cap ∧ t' = t1 := by
            rcases o1.2 with ⟨_, h⟩ | ⟨g, cap, cur, h, _⟩
            · exfalso; have e := (rfl : (hex4 p).length = 6); first | omega | (simp [hex4] at h)
            · exact ⟨g, cap, _, rfl, h.symm⟩
          obtain ⟨g, cap1, t', ht', hu4⟩ := hex
          rw [← hu4] at o1
          rw [← hu4, ht']
          rw [ht'] at o1
          have hcs := World.ownsRow.cells o1 (g := g) rfl
          have hB2 := hnx1.size
          have hll : (hex4 p).length ≤ 6 := Nat.le_of_eq rfl
          clear hu4 ht' hown hnx b1
          go_wp2_with (at_builtin; refine wpList_append_own _ rfl _ _ 22 rfl w1.heap.size 5 i0 (.int .u8 0) 1 1 Tryz.underlying22 hi hz0 hz1 hz2 rfl (by decide) _ _ _ rfl hown1 ⟨g, 0, none⟩ (hex4 p).length cap1 ((hex4 p).map (Value.int .u8)) rfl (by simp) hcs (ints_oneCell _ _) (by unfold maxLen; omega) (by omega) hB2 ?_; intro v' w3 hown' hgrow _)
          have R := own_row hB2 hown1 hown' hgrow
          rw [← HQ.out, ← HE.out] at R
          clear hown' hgrow hown1 hcs o1
          go_wp2
          go_roundw
          case rel => exact ⟨k + 1, by omega, by go_num, R.1, hnx1.trans R.2⟩
          case measure => simp [intOf]; omega
        have e8233 : (p == 8233) = false := by simpa using h8233
        cases ho : okPt p
        · have HQ : Hid (qOne p = hex4 p) := qOne_hex hs (by simp [byHex, ho])
          have hlt2 : p < 65536 := by simp [okPt] at ho; omega
          have HX := hide (hex4_any p wr hp0 hlt2)
          have hne : need p = 0 := nd_zero ho
          rw [hne] at HND
          clear hs h127 h8232 h8233
          go_wp2_with fail
          refine (HND.out _).mono ?_
          rintro e w9 ⟨rfl, rfl⟩
          go_wp2_with fail
          refine HX.out.mono ?_
          rintro e w2 ⟨t1, rfl, o1, b1⟩
          have hown1 : OwB w1.heap.size w2 u6 ys := Ow.later hown (grown_of_below b1)
          have hnx1 := hnx.trans (b1.mono hBr)
          have hex : ∃ g cap, ∃ t', t' = Value.slice (some ⟨g, 0, none⟩) (hex4 p).length cap ∧ t' = t1 := by
            rcases o1.2 with ⟨_, h⟩ | ⟨g, cap, cur, h, _⟩
            · exfalso; have e := (rfl : (hex4 p).length = 6); first | omega | (simp [hex4] at h)
            · exact ⟨g, cap, _, rfl, h.symm⟩
          obtain ⟨g, cap1, t', ht', hu4⟩ := hex
          rw [← hu4] at o1
          rw [← hu4, ht']
          rw [ht'] at o1
          have hcs := World.ownsRow.cells o1 (g := g) rfl
          have hB2 := hnx1.size
          have hll : (hex4 p).length ≤ 6 := Nat.le_of_eq rfl
          clear hu4 ht' hown hnx b1
          go_wp2_with (at_builtin; refine wpList_append_own _ rfl _ _ 22 rfl w1.heap.size 5 i0 (.int .u8 0) 1 1 Tryz.underlying22 hi hz0 hz1 hz2 rfl (by decide) _ _ _ rfl hown1 ⟨g, 0, none⟩ (hex4 p).length cap1 ((hex4 p).map (Value.int .u8)) rfl (by simp) hcs (ints_oneCell _ _) (by unfold maxLen; omega) (by omega) hB2 ?_; intro v' w3 hown' hgrow _)
          have R := own_row hB2 hown1 hown' hgrow
          rw [← HQ.out, ← HE.out] at R
          clear hown' hgrow hown1 hcs o1
          go_wp2
          go_roundw
          case rel => exact ⟨k + 1, by omega, by go_num, R.1, hnx1.trans R.2⟩
          case measure => simp [intOf]; omega
        · have HQ : Hid (qOne p = enc p) := qOne_enc hs (by simp [byHex, ho, h32, h127, h8232, h8233])
          have HX := hide (l1encode_any p wr ho)
          have hne : (need p == 0) = false := by have := need_ge p ho; simp; omega
          have hel := enc_len p
          clear hs h127 h8232 h8233
          go_wp2_with fail
          refine (HND.out _).mono ?_
          rintro e w9 ⟨rfl, rfl⟩
          go_wp2_with fail
          refine HX.out.mono ?_
          rintro e w2 ⟨t1, rfl, o1, b1⟩
          have hown1 : OwB w1.heap.size w2 u6 ys := Ow.later hown (grown_of_below b1)
          have hnx1 := hnx.trans (b1.mono hBr)
          have hex : ∃ g cap, ∃ t', t' = Value.slice (some ⟨g, 0, none⟩) (enc p).length cap ∧ t' = t1 := by
            rcases o1.2 with ⟨_, h⟩ | ⟨g, cap, cur, h, _⟩
            · exfalso; have e := hel; first | omega | (simp [hex4] at h)
            · exact ⟨g, cap, _, rfl, h.symm⟩
          obtain ⟨g, cap1, t', ht', hu4⟩ := hex
          rw [← hu4] at o1
          rw [← hu4, ht']
          rw [ht'] at o1
          have hcs := World.ownsRow.cells o1 (g := g) rfl
          have hB2 := hnx1.size
          have hll : (enc p).length ≤ 6 := by omega
          clear hu4 ht' hown hnx b1
          go_wp2_with (at_builtin; refine wpList_append_own _ rfl _ _ 22 rfl w1.heap.size 5 i0 (.int .u8 0) 1 1 Tryz.underlying22 hi hz0 hz1 hz2 rfl (by decide) _ _ _ rfl hown1 ⟨g, 0, none⟩ (enc p).length cap1 ((enc p).map (Value.int .u8)) rfl (by simp) hcs (ints_oneCell _ _) (by unfold maxLen; omega) (by omega) hB2 ?_; intro v' w3 hown' hgrow _)
          have R := own_row hB2 hown1 hown' hgrow
          rw [← HQ.out, ← HE.out] at R
          clear hown' hgrow hown1 hcs o1
          go_wp2
          go_roundw
          case rel => exact ⟨k + 1, by omega, by go_num, R.1, hnx1.trans R.2⟩
          case measure => simp [intOf]; omega
      · have hkn : k = ps.length := by omega
        rw [hkn, List.take_length] at hown hlen hl2
        clear hr1 hkn
        go_wp2_with (at_builtin; refine wpList_append_own _ rfl _ _ 22 rfl w1.heap.size 5 i0 (.int .u8 0) 1 1 Tryz.underlying22 hi hz0 hz1 hz2 rfl (by decide) _ _ _ rfl (World.ownsRow.alloc hown _) ⟨wr.heap.size, 0, none⟩ 1 1 [.int .u8 34] rfl rfl (cell_one_new _ _ _) (by intro u hu; simp at hu; subst hu; rfl) (by rw [hl2]; unfold maxLen; omega) (by rw [hl2]; omega) (by simp; omega) ?_; intro v' w2 hown' hgrow _)
        have R := own_app (xs := [34]) _ hBr hown hown' (by simp) hgrow
        clear hown' hgrow hown
        go_wp2
        go_ret2
        refine ⟨_, by rw [HR.out]; rfl, ?_, ?_⟩
        · rw [HR.out]
          exact row_base hB1 R.1
        · exact grown_trans HG1.out (grown_of_below (hnx.trans R.2))
  · have HR := hide (HQ.out.trans (if_neg hc))
    have hce : (c != 0) = true := by simpa using hc
    clear hbd HQ hc
    go_enter Tryz.func83, Tryz.ntmps83
    go_wp2_with fail
    refine HF.out.mono ?_
    rintro e w1 ⟨pv, rfl, o1, g1⟩
    go_wp2
    go_ret2
    exact ⟨_, by rw [HR.out]; rfl, by rw [HR.out]; exact World.ownsRow_nil _ _ _ _, g1⟩

end Go.Proofs.YtakkdniikhgpdaaGreatDoor

namespace Go.Proofs.YtakkdniikhgpdaaGreatDoor
open Go.RowKit
attribute [-go_sem] Builtin.append_

set_option maxHeartbeats 4000000 in
set_option maxRecDepth 100000 in
theorem l4ascii_any (v : Value) (zs : List Int) (w : World) (hv : RdI w.heap.size w v zs) (hz : ∀ z ∈ zs, 0 ≤ z ∧ z < 128) (hn : zs.length ≤ 1048576) :
    Calls Tryz.prog 80 #[v] w fun e w' => ∃ v', e = .returned v' ∧ Bw w.heap.size w' v' zs ∧ w.grownBy w' none := by
  have HV := hide hv
  obtain ⟨a, cap, hv0, _⟩ := id hv
  subst hv0
  clear hv
  go_enter Tryz.func80, Tryz.ntmps80
  go_wp2
  go_loopw [3, 4] (fun o i W => ∃ (k : Nat), k ≤ zs.length ∧ i = .int .i64 k ∧ Bw w.heap.size W o (zs.take k) ∧ w.grownBy W none)
    (fun _ i _ => zs.length - (intOf i).toNat)
  case atStart => exact ⟨0, Nat.zero_le _, rfl, Bw.nil _ _, World.grownBy.refl _ _⟩
  case round =>
    obtain ⟨k, hk, rfl, ho, hg⟩ := hrel
    have hlk : (zs.take k).length = k := by simp; omega
    obtain ⟨oa, oc, hov, _, _⟩ := ho.sl
    rw [hlk] at hov
    by_cases hlt : k < zs.length
    · obtain ⟨a', cap', e, hr⟩ := HV.out.keep hg
      simp only [Value.slice.injEq, true_and] at e
      obtain ⟨rfl, rfl⟩ := e
      obtain ⟨b, off, rfl, hbb, hc⟩ := hr (fun e => by rw [e] at hlt; simp at hlt)
      have hck := hc k hlt
      have hpz : 0 ≤ zs[k]?.getD 0 ∧ zs[k]?.getD 0 < 128 := by rw [List.getElem?_eq_getElem hlt]; exact hz _ (List.getElem_mem hlt)
      have HT := hide (take_snoc zs k hlt)
      have HO := hide ho
      subst hov
      clear hr hc ho
      generalize zs[k]?.getD 0 = p at *
      obtain ⟨v2, w2, run2, o2, g2, a2, c2, hv2⟩ := bw_one w.heap.size wr (.slice oa k oc) (zs.take k) p HO.out hg.size (by omega)
      rw [hlk] at hv2
      have HO2 : Hid (Bw w.heap.size w2 v2 (zs.take (k + 1))) := by unfold Hid; rw [HT.out]; exact o2
      have HG2 := hide (grown_new hg g2 (fun j e => (HO.out.lt j e).1))
      subst hv2
      clear o2 g2 HT
      go_wp2
      go_roundw
      case rel => exact ⟨k + 1, by omega, by go_num, HO2.out, HG2.out⟩
      case measure => simp [intOf]; omega
    · have hkn : k = zs.length := by omega
      subst hkn
      rw [List.take_length] at ho
      subst hov
      go_wp2
      go_ret
      exact ⟨_, rfl, ho, hg⟩

set_option maxHeartbeats 4000000 in
set_option maxRecDepth 100000 in
theorem l6key_any (v : Value) (us : List Int) (w : World) (hv : RdI w.heap.size w v us) (hn : us.length ≤ 1048576) :
    Calls Tryz.prog 88 #[v] w fun e w' => ∃ v', e = .returned v' ∧ Bw w.heap.size w' v' (keyB us) ∧ w.grownBy w' none := by
  have HI := hide (specIsName_any v us w hv (by omega))
  have HQ := hide (specQuote_any v us w hv hn)
  have HA := hide (fun h : nmR us = true => l4ascii_any v us w hv (fun z hz => (q_char z (nm_chars us h z hz)).2) hn)
  obtain ⟨a, cap, hv0, _⟩ := id hv
  subst hv0
  clear hv
  go_enter Tryz.func88, Tryz.ntmps88
  go_wp2_with fail
  refine HI.out.mono ?_
  rintro e w1 ⟨rfl, rfl⟩
  cases hb : nmR us with
  | true =>
    have HK := hide (show keyB us = us by unfold keyB; rw [hb]; rfl)
    have HA' := hide (HA.out hb)
    clear HA HQ HI
    go_wp2_with fail
    refine HA'.out.mono ?_
    rintro e w2 ⟨v2, rfl, o2, g2⟩
    obtain ⟨a2, c2, hv2, _, _⟩ := o2.sl
    subst hv2
    clear HA'
    go_wp2
    go_ret
    exact ⟨_, rfl, by rw [HK.out]; exact o2, g2⟩
  | false =>
    have HK := hide (show keyB us = (quR us).1 by unfold keyB; rw [hb]; rfl)
    clear HA HI
    go_wp2_with fail
    refine HQ.out.mono ?_
    rintro e w2 ⟨v2, rfl, o2, g2⟩
    obtain ⟨a2, c2, hv2, _, _⟩ := o2.sl
    subst hv2
    clear HQ
    go_wp2
    go_ret
    exact ⟨_, rfl, by rw [HK.out]; exact .inl o2, g2⟩
end Go.Proofs.YtakkdniikhgpdaaGreatDoor

namespace Go.Proofs.YtakkdniikhgpdaaGreatDoor
open Go.RowKit

theorem loop_more {σ : Type} {f g : σ → Option σ} (h : ∀ s s', f s = some s' → g s = some s') : ∀ (k : Nat) (s s' : σ), loopN f k s = some s' → loopN g k s = some s'
  | 0, s, s', h0 => h0
  | k + 1, s, s', h0 => by
    simp only [loopN, Option.bind_eq_some_iff] at h0 ⊢
    obtain ⟨x, h1, h2⟩ := h0
    exact ⟨x, h s x h1, loop_more h k x s' h2⟩
theorem walk_more {σ : Type} (chk : Nod → σ → Option σ) : ∀ (d d' : Nat) (m : Bool) (s s' : List Nod × σ), d ≤ d' → walkL chk d m s = some s' → walkL chk d' m s = some s'
  | 0, _, _, _, _, _, h => by simp [walkL] at h
  | d + 1, 0, _, _, _, hd, _ => by omega
  | d + 1, d' + 1, m, ([], _), s', _, h => by simp [walkL] at h
  | d + 1, d' + 1, m, (n :: R, s), s', hd, h => by
    by_cases hm : n.mem ≠ m
    · simp [walkL, hm] at h
    · simp only [walkL, if_neg hm] at h ⊢
      rw [Option.bind_eq_some_iff] at h ⊢
      obtain ⟨x, h1, h2⟩ := h
      refine ⟨x, h1, ?_⟩
      by_cases h5 : 5 ≤ n.k ∧ d = 0
      · rw [if_pos h5] at h2; cases h2
      · rw [if_neg h5] at h2
        rw [if_neg (by omega)]
        exact loop_more (fun a b hab => walk_more chk d d' _ a b (by omega) hab) _ _ _ h2

set_option maxHeartbeats 2000000 in
set_option maxRecDepth 100000 in
theorem l5next_any (t : Tre) (hn : t.nodes.length ≤ 1048576) (hc : ∀ p ∈ t.nodes, p.k < 5 → p.cnt = 0) (hb : ∀ p ∈ t.nodes, -9223372036854775808 ≤ p.cnt ∧ p.cnt ≤ 9223372036854775807) (d i : Nat) (m : Bool) (R2 : List Nod) (hd : d ≤ 202) (hi : i < t.nodes.length) (hw : walkL triv d m (t.nodes.drop i, ()) = some (R2, ()))
    (nv tv : Value) (w : World) (hv : RdT' w.heap.size w nv tv t) :
    Calls Tryz.prog 81 #[.agg #[nv, tv], .int .i64 i] w fun e w' => e = .returned (.int .i64 ((t.nodes.length - R2.length : Nat) : Int)) ∧ w.grownBy w' none := by
  have hm : t.nodes[i].mem = m := by
    cases d with
    | zero => simp [walkL] at hw
    | succ d =>
      rw [List.drop_eq_getElem_cons hi] at hw
      by_cases h : t.nodes[i].mem ≠ m
      · simp [walkL, h] at hw
      · simpa using h
  have hR : R2.length ≤ t.nodes.length := by
    obtain ⟨P, hP⟩ := (walk_splits triv d m).2 _ _ hw
    have := congrArg List.length hP
    simp at this; omega
  have he : placeOf t.nodes.length (endL t.nodes.length 202 m (t.nodes.drop i)) = ((t.nodes.length - R2.length : Nat) : Int) := by
    have h1 := end_walk t.nodes.length 202 m (t.nodes.drop i) (by simp)
    rw [walk_more triv d 202 m _ _ hd hw] at h1
    cases hx : endL t.nodes.length 202 m (t.nodes.drop i) with
    | none => rw [hx] at h1; simp at h1
    | some R => rw [hx] at h1; simp at h1; subst h1; simp only [placeOf]; omega
  obtain ⟨hvn, hvt⟩ := id hv
  obtain ⟨na, ncap, hn0, _⟩ := id hvn
  obtain ⟨ta, tcap, ht0, _⟩ := id hvt
  obtain ⟨b, off, cap', lv, kv, xv, uv, tlv, hva, hb0, hp⟩ := hvn.at i hi
  have HC : Hid (∀ W : World, w.grownBy W none → _) := fun W (g : w.grownBy W none) => l5end_any t hn hc hb 201 (by omega) i m nv tv W (by omega) ⟨(hvn.keep g).wide g.size, (hvt.keep g).wide g.size⟩
  have z2 := hp.mem
  rw [hm] at z2
  have HE := hide he
  subst hva
  subst ht0
  cases hn0
  clear hvn hvt hv hw he hp hm hc hb
  have z2' := (World.grownBy_alloc w (Obj.cells #[.slice (some ⟨b, off, none⟩) t.nodes.length ncap, .slice ta t.tail.length tcap] 100) none).cell z2 (by simp)
  go_enter Tryz.func81, Tryz.ntmps81
  obtain ⟨WA, hWA⟩ : ∃ WA, WA = w.alloc (Obj.cells #[.slice (some ⟨b, off, none⟩) t.nodes.length ncap, .slice ta t.tail.length tcap] 100) := ⟨_, rfl⟩
  obtain ⟨I, hI⟩ : ∃ I : World → Prop, I = (fun W : World => W.cell? ⟨w.heap.size, 0, none⟩ = some (.slice (some ⟨b, off, none⟩) t.nodes.length ncap) ∧ W.cell? ⟨w.heap.size, 1, none⟩ = some (.slice ta t.tail.length tcap) ∧ W.cell? ⟨b, off + i * 8 + 2, none⟩ = some (.bool m)) := ⟨_, rfl⟩
  have HI0 : I WA.drew := by rw [hI, hWA]; exact ⟨by simp [go_sem], by simp [go_sem], z2'⟩
  have gA : w.grownBy WA.drew none := by rw [hWA]; exact grown_trans (World.grownBy_alloc _ _ _) ⟨rfl, rfl, rfl, Nat.le_refl _, fun _ _ _ => rfl⟩
  have HCC := hide (HC.out _ gA)
  go_wp2
  rw [← hWA]
  refine region_anyI I (fun _ => false) (by kernel_rfl) ?_
  show anyI _ _ _ _ _ _ 10 (Array.replicate 10 false) _ _
  refine anyI_take (i := 0) (.agg #[.slice (some ⟨b, off, none⟩) t.nodes.length ncap, .slice ta t.tail.length tcap]) rfl (by kernel_rfl) (by kernel_rfl) (by kernel_rfl) (by kernel_rfl) (fun _ _ _ h => h) HI0 (yldI rfl (fun W hW => by rw [hI] at hW; obtain ⟨h1, h2, h3⟩ := hW; go_simp)) ?_
  refine anyI_take (i := 1) (.int .i64 i) rfl (by kernel_rfl) (by kernel_rfl) (by kernel_rfl) (by kernel_rfl) (fun _ _ _ h => h) HI0 (yldI rfl (fun W hW => by go_simp)) ?_
  refine anyI_take (i := 2) (.pointer (some ⟨w.heap.size, 0, none⟩)) rfl (by kernel_rfl) (by kernel_rfl) (by kernel_rfl) (by kernel_rfl) (fun _ _ _ h => h) HI0 (yldI rfl (fun W hW => by go_simp)) ?_
  refine anyI_take (i := 3) (.slice (some ⟨b, off, none⟩) t.nodes.length ncap) rfl (by kernel_rfl) (by kernel_rfl) (by kernel_rfl) (by kernel_rfl) (fun _ _ _ h => h) HI0 (yldI rfl (fun W hW => by rw [hI] at hW; obtain ⟨h1, h2, h3⟩ := hW; go_simp)) ?_
  refine anyI_take (i := 4) (.int .i64 i) rfl (by kernel_rfl) (by kernel_rfl) (by kernel_rfl) (by kernel_rfl) (fun _ _ _ h => h) HI0 (yldI rfl (fun W hW => by go_simp)) ?_
  refine anyI_take (i := 5) (.pointer (some ⟨b, off + i * 8, none⟩)) rfl (by kernel_rfl) (by kernel_rfl) (by kernel_rfl) (by kernel_rfl) (fun _ _ _ h => h) HI0 (yldI rfl (fun W hW => by go_simp)) ?_
  refine anyI_take (i := 6) (.pointer (some ⟨b, off + i * 8 + 2, none⟩)) rfl (by kernel_rfl) (by kernel_rfl) (by kernel_rfl) (by kernel_rfl) (fun _ _ _ h => h) HI0 (yldI rfl (fun W hW => by go_simp)) ?_
  refine anyI_take (i := 7) (.bool m) rfl (by kernel_rfl) (by kernel_rfl) (by kernel_rfl) (by kernel_rfl) (fun _ _ _ h => h) HI0 (yldI rfl (fun W hW => by rw [hI] at hW; obtain ⟨h1, h2, h3⟩ := hW; go_simp)) ?_
  generalize hG : Act.put _ _ _ = A0
  simp [Act.put] at hG
  subst hG
  refine anyI_one (i := 8) (by kernel_rfl) (wpOp_call rfl rfl (by go_simp) HCC.out ?_)
  rintro e w1 ⟨rfl, g1⟩
  have HI1 : I w1 := by rw [hI] at HI0 ⊢; exact ⟨g1.cell HI0.1 (by simp), g1.cell HI0.2.1 (by simp), g1.cell HI0.2.2 (by simp)⟩
  refine ⟨_, rfl, .inr HI1, ?_⟩
  have hE := HE.out
  rw [show 201 + 1 = 202 by rfl, hE]
  have G := hide (grown_trans gA g1)
  clear HC HCC g1 hE z2 z2'
  refine anyI_one (i := 9) (by kernel_rfl) (wpOp_val (w' := w1) (v := .int .i64 ((t.nodes.length - R2.length : Nat) : Int)) rfl rfl (by go_simp) ⟨.inr HI1, ?_⟩)
  refine anyI_done (by kernel_rfl) ?_ _
  subst hI
  go_wp2
  go_ret
  exact ⟨rfl, G.out⟩
end Go.Proofs.YtakkdniikhgpdaaGreatDoor

