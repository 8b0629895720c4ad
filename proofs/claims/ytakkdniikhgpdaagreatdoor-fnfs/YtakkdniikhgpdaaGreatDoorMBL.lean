import Derived.Test.YtakkdniikhgpdaaGreatDoorMBJ
import Derived.Test.YtakkdniikhgpdaaGreatDoorMBK
namespace Go.Proofs.YtakkdniikhgpdaaGreatDoor
open Go.RowKit

set_option maxHeartbeats 2000000 in
set_option maxRecDepth 100000 in
theorem drawOdd8 (a : Option Addr) (cap : Nat) (zs : List Int) (w : World) (hv : RdB w.heap.size w (.slice a zs.length cap) zs) (hby : Bys zs) (hm : zs.length ≤ 1048576) (hlc : zs.length ≤ cap) (hcm : cap ≤ 9223372036854775807)
    (k2 : (nx (zs.take 500) 0).1 % 6 = 2) (hj : (nx (zs.take 500) 0).1 / 6 % 12 = 8) :
    Calls Tryz.prog 19 #[.slice a zs.length cap] w fun e w' => ∃ v', e = .returned v' ∧ OwB w.heap.size w' v' (ddt zs) ∧ w.grownBy w' none := by
  obtain ⟨i0, hi0, hz0, hz1, hz2⟩ := info_parts info5
  have HO := fun o => open_rdr hv o
  have hb5 := take_bys hby 500
  have hl5 : (zs.take 500).length ≤ 4194304 := by rw [List.length_take]; omega
  have HDF : Hid (ddt zs = ddtV (zs.take 500) (nx (zs.take 500) 0).1 (encR (dps (zs.take 500) false 12 (nx (zs.take 500) 0).2).1).1 (dps (zs.take 500) false 12 (nx (zs.take 500) 0).2).2) := rfl
  have hkb := nx_bd hb5 0
  have hjl := nx_le (zs := zs.take 500) (Nat.zero_le _)
  have hnx := fun F v W hF hv => next_any F v (zs.take 500) 0 W hF hv hb5 hl5 (Nat.zero_le _)
  have hdu := fun F v W hF hv => drawPoints_any F v (zs.take 500) (nx (zs.take 500) 0).2 false W hF hv hb5 hl5 hjl
  have hul' := dps_len (sur := false) hb5 hjl
  have hil : (dps (zs.take 500) false 12 (nx (zs.take 500) 0).2).2 ≤ (zs.take 500).length := (dpsN_le (sur := false) (nx_le hjl) _).1
  generalize (nx (zs.take 500) 0).1 = k at hkb HDF hnx k2 hj
  generalize (nx (zs.take 500) 0).2 = j at HDF hnx hdu hul' hil
  generalize zs.take 500 = rs at HO hb5 hl5 HDF hnx hdu hul' hil
  generalize (dps rs false 12 j).1 = us at HDF hdu hul'
  generalize (dps rs false 12 j).2 = i2 at HDF hdu hil
  obtain ⟨hk0, hk1⟩ := hkb
  clear hjl hv
  go_enter Tryz.func19, Tryz.ntmps19
  go_wp2_with fail
  refine (l1open_any a cap zs w hm hlc hcm).mono ?_
  rintro e w1 ⟨rfl, hw1⟩
  have f1 : Rdr w.heap.size w1 (.slice a (min 500 zs.length) cap) 0 := by rw [← hw1]; exact heap_alloc_new w _
  have r1 : RdB w.heap.size w1 (.slice a (min 500 zs.length) cap) rs := by rw [← hw1]; exact HO _
  have g1 : w.grownBy w1 none := by rw [← hw1]; exact World.grownBy_alloc _ _ _
  have hs1 : w.heap.size < w1.heap.size := f1.lt
  clear hw1 HO
  go_wp2_with fail
  refine (hnx _ _ w1 f1 r1).mono ?_
  rintro e w2 ⟨rfl, f2, g2⟩
  have r2 := r1.beside g2 (fun _ e => by cases e; exact Nat.le_refl _)
  have t2 := grown_new g1 g2 (fun _ e => by cases e; exact Nat.le_refl _)
  clear f1 r1 g1 g2 hnx
  go_wp2_with fail
  refine (hdu _ _ w2 f2 r2).mono ?_
  rintro e w3 ⟨u3, rfl, o3, f3, g3⟩
  have r3 := r2.beside g3 (fun _ e => by cases e; exact Nat.le_refl _)
  have t3 := grown_new t2 g3 (fun _ e => by cases e; exact Nat.le_refl _)
  have hf3 := f3.lt
  clear f2 r2 t2 g3 hdu
  go_wp2_with fail
  refine (specEncodeText_any u3 us w3 o3.rd (by omega)).mono ?_
  rintro e w4 ⟨u4, rfl, o4, g4⟩
  have r4 := r3.keep g4
  have t4 := grown_trans t3 g4
  have f4 := f3.kept g4 (by simp)
  have hel := encR_len us
  have hbb := encR_bys us
  have s3 := t3.size
  generalize (encR us).1 = b at o4 HDF hel hbb
  clear f3 r3 t3 g4 o3
  have q0 : (k % 3 == 0) = false := by simp; omega
  have q1 : (k % 3 == 1) = false := by simp; omega
  have q2 : (k % 6 == 2) = true := by simp [k2]
  have o4' : OwB w.heap.size w4 u4 b := row_base (by omega) o4
  have HE : Hid (ddt zs = b ++ ([244, 143, 191, 191] : List Int)) := by
    unfold Hid; rw [HDF.out]; unfold ddtV; rw [if_neg (by omega), if_neg (by omega), if_pos k2, hj]; rfl
  have HCO : Hid (∀ j u, ((([244, 143, 191, 191] : List Int)).map (Value.int .u8))[j]? = some u → (al w4 (oddObjs w4.heap.size)).cell? ((⟨w4.heap.size + 8, 0, none⟩ : Addr).add j) = some u) := odd_cells w4 8 (by omega)
  have s4 := t4.size
  clear k2 HDF o4 f4 r4 hbb
  go_wp2_with (at_builtin; refine wpList_append_own _ rfl (.tmp 69) (.tmp 75) 22 rfl w.heap.size 5 i0 (.int .u8 0) 1 1 Tryz.underlying22 hi0 hz0 hz1 hz2 rfl (by decide) u4 b.length (b.map (Value.int .u8)) rfl (by repeat (first | exact o4' | refine World.ownsRow.alloc ?_ _)) _ 4 4 (([244, 143, 191, 191] : List Int).map (Value.int .u8)) rfl rfl (by exact HCO.out) (ints_oneCell _ _) (by unfold maxLen; omega) (by omega) (by simp; omega) ?_; intro v' w5 hown' hgrow _)
  have R1 : OwB w.heap.size w5 v' (b ++ ([244, 143, 191, 191] : List Int)) := by
    unfold OwB Ow; rw [List.length_append, List.map_append]; exact hown'
  have R2 := grown_new (b := al w4 (oddObjs w4.heap.size)) (grown_trans t4 (al_grown w4 _)) hgrow (fun j hj => (World.ownsRow.lt o4' j hj).1)
  clear hown' hgrow o4'
  go_wp2
  go_ret
  exact ⟨_, rfl, by rw [HE.out]; exact R1, R2⟩

set_option maxHeartbeats 2000000 in
set_option maxRecDepth 100000 in
theorem drawOdd9 (a : Option Addr) (cap : Nat) (zs : List Int) (w : World) (hv : RdB w.heap.size w (.slice a zs.length cap) zs) (hby : Bys zs) (hm : zs.length ≤ 1048576) (hlc : zs.length ≤ cap) (hcm : cap ≤ 9223372036854775807)
    (k2 : (nx (zs.take 500) 0).1 % 6 = 2) (hj : (nx (zs.take 500) 0).1 / 6 % 12 = 9) :
    Calls Tryz.prog 19 #[.slice a zs.length cap] w fun e w' => ∃ v', e = .returned v' ∧ OwB w.heap.size w' v' (ddt zs) ∧ w.grownBy w' none := by
  obtain ⟨i0, hi0, hz0, hz1, hz2⟩ := info_parts info5
  have HO := fun o => open_rdr hv o
  have hb5 := take_bys hby 500
  have hl5 : (zs.take 500).length ≤ 4194304 := by rw [List.length_take]; omega
  have HDF : Hid (ddt zs = ddtV (zs.take 500) (nx (zs.take 500) 0).1 (encR (dps (zs.take 500) false 12 (nx (zs.take 500) 0).2).1).1 (dps (zs.take 500) false 12 (nx (zs.take 500) 0).2).2) := rfl
  have hkb := nx_bd hb5 0
  have hjl := nx_le (zs := zs.take 500) (Nat.zero_le _)
  have hnx := fun F v W hF hv => next_any F v (zs.take 500) 0 W hF hv hb5 hl5 (Nat.zero_le _)
  have hdu := fun F v W hF hv => drawPoints_any F v (zs.take 500) (nx (zs.take 500) 0).2 false W hF hv hb5 hl5 hjl
  have hul' := dps_len (sur := false) hb5 hjl
  have hil : (dps (zs.take 500) false 12 (nx (zs.take 500) 0).2).2 ≤ (zs.take 500).length := (dpsN_le (sur := false) (nx_le hjl) _).1
  generalize (nx (zs.take 500) 0).1 = k at hkb HDF hnx k2 hj
  generalize (nx (zs.take 500) 0).2 = j at HDF hnx hdu hul' hil
  generalize zs.take 500 = rs at HO hb5 hl5 HDF hnx hdu hul' hil
  generalize (dps rs false 12 j).1 = us at HDF hdu hul'
  generalize (dps rs false 12 j).2 = i2 at HDF hdu hil
  obtain ⟨hk0, hk1⟩ := hkb
  clear hjl hv
  go_enter Tryz.func19, Tryz.ntmps19
  go_wp2_with fail
  refine (l1open_any a cap zs w hm hlc hcm).mono ?_
  rintro e w1 ⟨rfl, hw1⟩
  have f1 : Rdr w.heap.size w1 (.slice a (min 500 zs.length) cap) 0 := by rw [← hw1]; exact heap_alloc_new w _
  have r1 : RdB w.heap.size w1 (.slice a (min 500 zs.length) cap) rs := by rw [← hw1]; exact HO _
  have g1 : w.grownBy w1 none := by rw [← hw1]; exact World.grownBy_alloc _ _ _
  have hs1 : w.heap.size < w1.heap.size := f1.lt
  clear hw1 HO
  go_wp2_with fail
  refine (hnx _ _ w1 f1 r1).mono ?_
  rintro e w2 ⟨rfl, f2, g2⟩
  have r2 := r1.beside g2 (fun _ e => by cases e; exact Nat.le_refl _)
  have t2 := grown_new g1 g2 (fun _ e => by cases e; exact Nat.le_refl _)
  clear f1 r1 g1 g2 hnx
  go_wp2_with fail
  refine (hdu _ _ w2 f2 r2).mono ?_
  rintro e w3 ⟨u3, rfl, o3, f3, g3⟩
  have r3 := r2.beside g3 (fun _ e => by cases e; exact Nat.le_refl _)
  have t3 := grown_new t2 g3 (fun _ e => by cases e; exact Nat.le_refl _)
  have hf3 := f3.lt
  clear f2 r2 t2 g3 hdu
  go_wp2_with fail
  refine (specEncodeText_any u3 us w3 o3.rd (by omega)).mono ?_
  rintro e w4 ⟨u4, rfl, o4, g4⟩
  have r4 := r3.keep g4
  have t4 := grown_trans t3 g4
  have f4 := f3.kept g4 (by simp)
  have hel := encR_len us
  have hbb := encR_bys us
  have s3 := t3.size
  generalize (encR us).1 = b at o4 HDF hel hbb
  clear f3 r3 t3 g4 o3
  have q0 : (k % 3 == 0) = false := by simp; omega
  have q1 : (k % 3 == 1) = false := by simp; omega
  have q2 : (k % 6 == 2) = true := by simp [k2]
  have o4' : OwB w.heap.size w4 u4 b := row_base (by omega) o4
  have HE : Hid (ddt zs = b ++ ([244, 144, 128, 128] : List Int)) := by
    unfold Hid; rw [HDF.out]; unfold ddtV; rw [if_neg (by omega), if_neg (by omega), if_pos k2, hj]; rfl
  have HCO : Hid (∀ j u, ((([244, 144, 128, 128] : List Int)).map (Value.int .u8))[j]? = some u → (al w4 (oddObjs w4.heap.size)).cell? ((⟨w4.heap.size + 9, 0, none⟩ : Addr).add j) = some u) := odd_cells w4 9 (by omega)
  have s4 := t4.size
  clear k2 HDF o4 f4 r4 hbb
  go_wp2_with (at_builtin; refine wpList_append_own _ rfl (.tmp 69) (.tmp 75) 22 rfl w.heap.size 5 i0 (.int .u8 0) 1 1 Tryz.underlying22 hi0 hz0 hz1 hz2 rfl (by decide) u4 b.length (b.map (Value.int .u8)) rfl (by repeat (first | exact o4' | refine World.ownsRow.alloc ?_ _)) _ 4 4 (([244, 144, 128, 128] : List Int).map (Value.int .u8)) rfl rfl (by exact HCO.out) (ints_oneCell _ _) (by unfold maxLen; omega) (by omega) (by simp; omega) ?_; intro v' w5 hown' hgrow _)
  have R1 : OwB w.heap.size w5 v' (b ++ ([244, 144, 128, 128] : List Int)) := by
    unfold OwB Ow; rw [List.length_append, List.map_append]; exact hown'
  have R2 := grown_new (b := al w4 (oddObjs w4.heap.size)) (grown_trans t4 (al_grown w4 _)) hgrow (fun j hj => (World.ownsRow.lt o4' j hj).1)
  clear hown' hgrow o4'
  go_wp2
  go_ret
  exact ⟨_, rfl, by rw [HE.out]; exact R1, R2⟩

set_option maxHeartbeats 2000000 in
set_option maxRecDepth 100000 in
theorem drawOdd10 (a : Option Addr) (cap : Nat) (zs : List Int) (w : World) (hv : RdB w.heap.size w (.slice a zs.length cap) zs) (hby : Bys zs) (hm : zs.length ≤ 1048576) (hlc : zs.length ≤ cap) (hcm : cap ≤ 9223372036854775807)
    (k2 : (nx (zs.take 500) 0).1 % 6 = 2) (hj : (nx (zs.take 500) 0).1 / 6 % 12 = 10) :
    Calls Tryz.prog 19 #[.slice a zs.length cap] w fun e w' => ∃ v', e = .returned v' ∧ OwB w.heap.size w' v' (ddt zs) ∧ w.grownBy w' none := by
  obtain ⟨i0, hi0, hz0, hz1, hz2⟩ := info_parts info5
  have HO := fun o => open_rdr hv o
  have hb5 := take_bys hby 500
  have hl5 : (zs.take 500).length ≤ 4194304 := by rw [List.length_take]; omega
  have HDF : Hid (ddt zs = ddtV (zs.take 500) (nx (zs.take 500) 0).1 (encR (dps (zs.take 500) false 12 (nx (zs.take 500) 0).2).1).1 (dps (zs.take 500) false 12 (nx (zs.take 500) 0).2).2) := rfl
  have hkb := nx_bd hb5 0
  have hjl := nx_le (zs := zs.take 500) (Nat.zero_le _)
  have hnx := fun F v W hF hv => next_any F v (zs.take 500) 0 W hF hv hb5 hl5 (Nat.zero_le _)
  have hdu := fun F v W hF hv => drawPoints_any F v (zs.take 500) (nx (zs.take 500) 0).2 false W hF hv hb5 hl5 hjl
  have hul' := dps_len (sur := false) hb5 hjl
  have hil : (dps (zs.take 500) false 12 (nx (zs.take 500) 0).2).2 ≤ (zs.take 500).length := (dpsN_le (sur := false) (nx_le hjl) _).1
  generalize (nx (zs.take 500) 0).1 = k at hkb HDF hnx k2 hj
  generalize (nx (zs.take 500) 0).2 = j at HDF hnx hdu hul' hil
  generalize zs.take 500 = rs at HO hb5 hl5 HDF hnx hdu hul' hil
  generalize (dps rs false 12 j).1 = us at HDF hdu hul'
  generalize (dps rs false 12 j).2 = i2 at HDF hdu hil
  obtain ⟨hk0, hk1⟩ := hkb
  clear hjl hv
  go_enter Tryz.func19, Tryz.ntmps19
  go_wp2_with fail
  refine (l1open_any a cap zs w hm hlc hcm).mono ?_
  rintro e w1 ⟨rfl, hw1⟩
  have f1 : Rdr w.heap.size w1 (.slice a (min 500 zs.length) cap) 0 := by rw [← hw1]; exact heap_alloc_new w _
  have r1 : RdB w.heap.size w1 (.slice a (min 500 zs.length) cap) rs := by rw [← hw1]; exact HO _
  have g1 : w.grownBy w1 none := by rw [← hw1]; exact World.grownBy_alloc _ _ _
  have hs1 : w.heap.size < w1.heap.size := f1.lt
  clear hw1 HO
  go_wp2_with fail
  refine (hnx _ _ w1 f1 r1).mono ?_
  rintro e w2 ⟨rfl, f2, g2⟩
  have r2 := r1.beside g2 (fun _ e => by cases e; exact Nat.le_refl _)
  have t2 := grown_new g1 g2 (fun _ e => by cases e; exact Nat.le_refl _)
  clear f1 r1 g1 g2 hnx
  go_wp2_with fail
  refine (hdu _ _ w2 f2 r2).mono ?_
  rintro e w3 ⟨u3, rfl, o3, f3, g3⟩
  have r3 := r2.beside g3 (fun _ e => by cases e; exact Nat.le_refl _)
  have t3 := grown_new t2 g3 (fun _ e => by cases e; exact Nat.le_refl _)
  have hf3 := f3.lt
  clear f2 r2 t2 g3 hdu
  go_wp2_with fail
  refine (specEncodeText_any u3 us w3 o3.rd (by omega)).mono ?_
  rintro e w4 ⟨u4, rfl, o4, g4⟩
  have r4 := r3.keep g4
  have t4 := grown_trans t3 g4
  have f4 := f3.kept g4 (by simp)
  have hel := encR_len us
  have hbb := encR_bys us
  have s3 := t3.size
  generalize (encR us).1 = b at o4 HDF hel hbb
  clear f3 r3 t3 g4 o3
  have q0 : (k % 3 == 0) = false := by simp; omega
  have q1 : (k % 3 == 1) = false := by simp; omega
  have q2 : (k % 6 == 2) = true := by simp [k2]
  have o4' : OwB w.heap.size w4 u4 b := row_base (by omega) o4
  have HE : Hid (ddt zs = b ++ ([245] : List Int)) := by
    unfold Hid; rw [HDF.out]; unfold ddtV; rw [if_neg (by omega), if_neg (by omega), if_pos k2, hj]; rfl
  have HCO : Hid (∀ j u, ((([245] : List Int)).map (Value.int .u8))[j]? = some u → (al w4 (oddObjs w4.heap.size)).cell? ((⟨w4.heap.size + 10, 0, none⟩ : Addr).add j) = some u) := odd_cells w4 10 (by omega)
  have s4 := t4.size
  clear k2 HDF o4 f4 r4 hbb
  go_wp2_with (at_builtin; refine wpList_append_own _ rfl (.tmp 69) (.tmp 75) 22 rfl w.heap.size 5 i0 (.int .u8 0) 1 1 Tryz.underlying22 hi0 hz0 hz1 hz2 rfl (by decide) u4 b.length (b.map (Value.int .u8)) rfl (by repeat (first | exact o4' | refine World.ownsRow.alloc ?_ _)) _ 1 1 (([245] : List Int).map (Value.int .u8)) rfl rfl (by exact HCO.out) (ints_oneCell _ _) (by unfold maxLen; omega) (by omega) (by simp; omega) ?_; intro v' w5 hown' hgrow _)
  have R1 : OwB w.heap.size w5 v' (b ++ ([245] : List Int)) := by
    unfold OwB Ow; rw [List.length_append, List.map_append]; exact hown'
  have R2 := grown_new (b := al w4 (oddObjs w4.heap.size)) (grown_trans t4 (al_grown w4 _)) hgrow (fun j hj => (World.ownsRow.lt o4' j hj).1)
  clear hown' hgrow o4'
  go_wp2
  go_ret
  exact ⟨_, rfl, by rw [HE.out]; exact R1, R2⟩

set_option maxHeartbeats 2000000 in
set_option maxRecDepth 100000 in
theorem drawOdd11 (a : Option Addr) (cap : Nat) (zs : List Int) (w : World) (hv : RdB w.heap.size w (.slice a zs.length cap) zs) (hby : Bys zs) (hm : zs.length ≤ 1048576) (hlc : zs.length ≤ cap) (hcm : cap ≤ 9223372036854775807)
    (k2 : (nx (zs.take 500) 0).1 % 6 = 2) (hj : (nx (zs.take 500) 0).1 / 6 % 12 = 11) :
    Calls Tryz.prog 19 #[.slice a zs.length cap] w fun e w' => ∃ v', e = .returned v' ∧ OwB w.heap.size w' v' (ddt zs) ∧ w.grownBy w' none := by
  obtain ⟨i0, hi0, hz0, hz1, hz2⟩ := info_parts info5
  have HO := fun o => open_rdr hv o
  have hb5 := take_bys hby 500
  have hl5 : (zs.take 500).length ≤ 4194304 := by rw [List.length_take]; omega
  have HDF : Hid (ddt zs = ddtV (zs.take 500) (nx (zs.take 500) 0).1 (encR (dps (zs.take 500) false 12 (nx (zs.take 500) 0).2).1).1 (dps (zs.take 500) false 12 (nx (zs.take 500) 0).2).2) := rfl
  have hkb := nx_bd hb5 0
  have hjl := nx_le (zs := zs.take 500) (Nat.zero_le _)
  have hnx := fun F v W hF hv => next_any F v (zs.take 500) 0 W hF hv hb5 hl5 (Nat.zero_le _)
  have hdu := fun F v W hF hv => drawPoints_any F v (zs.take 500) (nx (zs.take 500) 0).2 false W hF hv hb5 hl5 hjl
  have hul' := dps_len (sur := false) hb5 hjl
  have hil : (dps (zs.take 500) false 12 (nx (zs.take 500) 0).2).2 ≤ (zs.take 500).length := (dpsN_le (sur := false) (nx_le hjl) _).1
  generalize (nx (zs.take 500) 0).1 = k at hkb HDF hnx k2 hj
  generalize (nx (zs.take 500) 0).2 = j at HDF hnx hdu hul' hil
  generalize zs.take 500 = rs at HO hb5 hl5 HDF hnx hdu hul' hil
  generalize (dps rs false 12 j).1 = us at HDF hdu hul'
  generalize (dps rs false 12 j).2 = i2 at HDF hdu hil
  obtain ⟨hk0, hk1⟩ := hkb
  clear hjl hv
  go_enter Tryz.func19, Tryz.ntmps19
  go_wp2_with fail
  refine (l1open_any a cap zs w hm hlc hcm).mono ?_
  rintro e w1 ⟨rfl, hw1⟩
  have f1 : Rdr w.heap.size w1 (.slice a (min 500 zs.length) cap) 0 := by rw [← hw1]; exact heap_alloc_new w _
  have r1 : RdB w.heap.size w1 (.slice a (min 500 zs.length) cap) rs := by rw [← hw1]; exact HO _
  have g1 : w.grownBy w1 none := by rw [← hw1]; exact World.grownBy_alloc _ _ _
  have hs1 : w.heap.size < w1.heap.size := f1.lt
  clear hw1 HO
  go_wp2_with fail
  refine (hnx _ _ w1 f1 r1).mono ?_
  rintro e w2 ⟨rfl, f2, g2⟩
  have r2 := r1.beside g2 (fun _ e => by cases e; exact Nat.le_refl _)
  have t2 := grown_new g1 g2 (fun _ e => by cases e; exact Nat.le_refl _)
  clear f1 r1 g1 g2 hnx
  go_wp2_with fail
  refine (hdu _ _ w2 f2 r2).mono ?_
  rintro e w3 ⟨u3, rfl, o3, f3, g3⟩
  have r3 := r2.beside g3 (fun _ e => by cases e; exact Nat.le_refl _)
  have t3 := grown_new t2 g3 (fun _ e => by cases e; exact Nat.le_refl _)
  have hf3 := f3.lt
  clear f2 r2 t2 g3 hdu
  go_wp2_with fail
  refine (specEncodeText_any u3 us w3 o3.rd (by omega)).mono ?_
  rintro e w4 ⟨u4, rfl, o4, g4⟩
  have r4 := r3.keep g4
  have t4 := grown_trans t3 g4
  have f4 := f3.kept g4 (by simp)
  have hel := encR_len us
  have hbb := encR_bys us
  have s3 := t3.size
  generalize (encR us).1 = b at o4 HDF hel hbb
  clear f3 r3 t3 g4 o3
  have q0 : (k % 3 == 0) = false := by simp; omega
  have q1 : (k % 3 == 1) = false := by simp; omega
  have q2 : (k % 6 == 2) = true := by simp [k2]
  have o4' : OwB w.heap.size w4 u4 b := row_base (by omega) o4
  have HE : Hid (ddt zs = b ++ ([128] : List Int)) := by
    unfold Hid; rw [HDF.out]; unfold ddtV; rw [if_neg (by omega), if_neg (by omega), if_pos k2, hj]; rfl
  have HCO : Hid (∀ j u, ((([128] : List Int)).map (Value.int .u8))[j]? = some u → (al w4 (oddObjs w4.heap.size)).cell? ((⟨w4.heap.size + 11, 0, none⟩ : Addr).add j) = some u) := odd_cells w4 11 (by omega)
  have s4 := t4.size
  clear k2 HDF o4 f4 r4 hbb
  go_wp2_with (at_builtin; refine wpList_append_own _ rfl (.tmp 69) (.tmp 75) 22 rfl w.heap.size 5 i0 (.int .u8 0) 1 1 Tryz.underlying22 hi0 hz0 hz1 hz2 rfl (by decide) u4 b.length (b.map (Value.int .u8)) rfl (by repeat (first | exact o4' | refine World.ownsRow.alloc ?_ _)) _ 1 1 (([128] : List Int).map (Value.int .u8)) rfl rfl (by exact HCO.out) (ints_oneCell _ _) (by unfold maxLen; omega) (by omega) (by simp; omega) ?_; intro v' w5 hown' hgrow _)
  have R1 : OwB w.heap.size w5 v' (b ++ ([128] : List Int)) := by
    unfold OwB Ow; rw [List.length_append, List.map_append]; exact hown'
  have R2 := grown_new (b := al w4 (oddObjs w4.heap.size)) (grown_trans t4 (al_grown w4 _)) hgrow (fun j hj => (World.ownsRow.lt o4' j hj).1)
  clear hown' hgrow o4'
  go_wp2
  go_ret
  exact ⟨_, rfl, by rw [HE.out]; exact R1, R2⟩

end Go.Proofs.YtakkdniikhgpdaaGreatDoor

namespace Go.Proofs.YtakkdniikhgpdaaGreatDoor
open Go.RowKit

set_option maxHeartbeats 4000000 in
set_option maxRecDepth 100000 in
theorem drawDecodeText_even (a : Option Addr) (cap : Nat) (zs : List Int) (w : World) (hv : RdB w.heap.size w (.slice a zs.length cap) zs) (hby : Bys zs) (hm : zs.length ≤ 1048576) (hlc : zs.length ≤ cap) (hcm : cap ≤ 9223372036854775807)
    (k2 : ¬ (nx (zs.take 500) 0).1 % 6 = 2) :
    Calls Tryz.prog 19 #[.slice a zs.length cap] w fun e w' => ∃ v', e = .returned v' ∧ OwB w.heap.size w' v' (ddt zs) ∧ w.grownBy w' none := by
  obtain ⟨i0, hi0, hz0, hz1, hz2⟩ := info_parts info5
  have HO := fun o => open_rdr hv o
  have hb5 := take_bys hby 500
  have hl5 : (zs.take 500).length ≤ 4194304 := by rw [List.length_take]; omega
  have HDF : Hid (ddt zs = ddtV (zs.take 500) (nx (zs.take 500) 0).1 (encR (dps (zs.take 500) false 12 (nx (zs.take 500) 0).2).1).1 (dps (zs.take 500) false 12 (nx (zs.take 500) 0).2).2) := rfl
  have hkb := nx_bd hb5 0
  have hjl := nx_le (zs := zs.take 500) (Nat.zero_le _)
  have hnx := fun F v W hF hv => next_any F v (zs.take 500) 0 W hF hv hb5 hl5 (Nat.zero_le _)
  have hdu := fun F v W hF hv => drawPoints_any F v (zs.take 500) (nx (zs.take 500) 0).2 false W hF hv hb5 hl5 hjl
  have hul' := dps_len (sur := false) hb5 hjl
  have hil : (dps (zs.take 500) false 12 (nx (zs.take 500) 0).2).2 ≤ (zs.take 500).length := (dpsN_le (sur := false) (nx_le hjl) _).1
  generalize (nx (zs.take 500) 0).1 = k at hkb HDF hnx k2
  generalize (nx (zs.take 500) 0).2 = j at HDF hnx hdu hul' hil
  generalize zs.take 500 = rs at HO hb5 hl5 HDF hnx hdu hul' hil
  generalize (dps rs false 12 j).1 = us at HDF hdu hul'
  generalize (dps rs false 12 j).2 = i2 at HDF hdu hil
  obtain ⟨hk0, hk1⟩ := hkb
  clear hjl hv
  go_enter Tryz.func19, Tryz.ntmps19
  go_wp2_with fail
  refine (l1open_any a cap zs w hm hlc hcm).mono ?_
  rintro e w1 ⟨rfl, hw1⟩
  have f1 : Rdr w.heap.size w1 (.slice a (min 500 zs.length) cap) 0 := by rw [← hw1]; exact heap_alloc_new w _
  have r1 : RdB w.heap.size w1 (.slice a (min 500 zs.length) cap) rs := by rw [← hw1]; exact HO _
  have g1 : w.grownBy w1 none := by rw [← hw1]; exact World.grownBy_alloc _ _ _
  have hs1 : w.heap.size < w1.heap.size := f1.lt
  clear hw1 HO
  go_wp2_with fail
  refine (hnx _ _ w1 f1 r1).mono ?_
  rintro e w2 ⟨rfl, f2, g2⟩
  have r2 := r1.beside g2 (fun _ e => by cases e; exact Nat.le_refl _)
  have t2 := grown_new g1 g2 (fun _ e => by cases e; exact Nat.le_refl _)
  clear f1 r1 g1 g2 hnx
  go_wp2_with fail
  refine (hdu _ _ w2 f2 r2).mono ?_
  rintro e w3 ⟨u3, rfl, o3, f3, g3⟩
  have r3 := r2.beside g3 (fun _ e => by cases e; exact Nat.le_refl _)
  have t3 := grown_new t2 g3 (fun _ e => by cases e; exact Nat.le_refl _)
  have hf3 := f3.lt
  clear f2 r2 t2 g3 hdu
  go_wp2_with fail
  refine (specEncodeText_any u3 us w3 o3.rd (by omega)).mono ?_
  rintro e w4 ⟨u4, rfl, o4, g4⟩
  have r4 := r3.keep g4
  have t4 := grown_trans t3 g4
  have f4 := f3.kept g4 (by simp)
  have hel := encR_len us
  have hbb := encR_bys us
  have s3 := t3.size
  generalize (encR us).1 = b at o4 HDF hel hbb
  clear f3 r3 t3 g4 o3
  by_cases k0 : k % 3 = 0
  · have q0 : (k % 3 == 0) = true := by simp [k0]
    have q1 : (k % 3 == 1) = false := by simp; omega
    have q2 : (k % 6 == 2) = false := by simp; omega
    by_cases hbn : b = []
    · have HE : Hid (ddt zs = b) := by unfold Hid; rw [HDF.out]; unfold ddtV; rw [if_pos k0, if_pos hbn]
      obtain ⟨a4, cap4, hu4, _⟩ := o4.rd
      have o4' : OwB w.heap.size w4 u4 b := row_base (by omega) o4
      rw [hbn] at hu4
      simp only [List.length_nil] at hu4
      rw [hu4] at o4' ⊢
      clear k0 HDF hu4 o4 hbn
      go_wp2
      go_ret
      exact ⟨_, rfl, by rw [HE.out]; exact o4', t4⟩
    · have hbp : 0 < b.length := List.length_pos_iff.2 hbn
      obtain ⟨g, cap4, hu4, hgB, hnc, hcm4⟩ := row_shape o4 hbp
      have hn1 := next_any w.heap.size _ rs i2 w4 f4 r4 hb5 hl5 hil
      have hi3 := nx_le hil
      have hx := nx_bd hb5 i2
      have hn2 := fun W hF hv => next_any w.heap.size (.slice a (min 500 zs.length) cap) rs (nx rs i2).2 W hF hv hb5 hl5 hi3
      have hz := nx_bd hb5 (nx rs i2).2
      have HE : Hid (ddt zs = b.set ((nx rs i2).1 % (b.length : Int)).toNat (nx rs (nx rs i2).2).1) := by unfold Hid; rw [HDF.out]; unfold ddtV; rw [if_pos k0, if_neg hbn]
      generalize (nx rs (nx rs i2).2).1 = z at hn2 hz HE
      generalize (nx rs i2).1 = x at hn1 hx HE
      obtain ⟨m, hm⟩ : ∃ m : Nat, x % (b.length : Int) = (m : Int) := ⟨(x % (b.length : Int)).toNat, by have := Int.emod_nonneg x (show (b.length : Int) ≠ 0 by omega); omega⟩
      have hml : m < b.length := by have := Int.emod_lt_of_pos x (show (0 : Int) < (b.length : Int) by omega); omega
      rw [hm, Int.toNat_natCast] at HE
      have hbp' : (0 : Int) < (b.length : Int) := by omega
      have hzm : z % 256 = z := by omega
      obtain ⟨hx0, hx1⟩ := hx
      rw [hu4] at o4 ⊢
      clear k0 HDF hu4 hbn hz
      go_wp2_with fail
      refine hn1.mono ?_
      rintro e w5 ⟨rfl, f5, g5⟩
      have r5 := r4.beside g5 (fun _ e => by cases e; exact Nat.le_refl _)
      have o5 := World.ownsRow.kept o4 g5 (.inr fun e => by simp [Value.ownBlock] at e; omega)
      have t5 := grown_new t4 g5 (fun _ e => by cases e; exact Nat.le_refl _)
      have hn2' := hn2 w5 f5 r5
      clear f4 r4 o4 t4 g5 hn1 hn2
      go_wp2_with fail
      refine hn2'.mono ?_
      rintro e w6 ⟨rfl, f6, g6⟩
      have o6 := World.ownsRow.kept o5 g6 (.inr fun e => by simp [Value.ownBlock] at e; omega)
      have t6 := grown_new t5 g6 (fun _ e => by cases e; exact Nat.le_refl _)
      have hoc : w6.cell? ⟨g, m, none⟩ = some (.int .u8 (b[m]?.getD 0)) := by rw [World.ownsRow.cellAt o6 m (by omega)]; simp [hml]
      have hof := World.ownsRow.frozenAt o6 m
      have hst := World.ownsRow.stored o6 m (.int .u8 z)
      rw [set_map] at hst
      have o7 : OwB w.heap.size (w6.setCell ⟨g, m, none⟩ (.int .u8 z)) (.slice (some ⟨g, 0, none⟩) b.length cap4) (b.set m z) := by
        unfold OwB Ow; rw [List.length_set]; exact row_base (by omega) hst.1
      have t7 := grown_new t6 hst.2 (fun _ e => by cases e; omega)
      generalize b[m]?.getD 0 = y at hoc
      clear o5 t5 g6 hn2' o6 t6 hst f5 r5 f6
      go_wp2
      go_ret
      exact ⟨_, rfl, by rw [HE.out]; exact o7, t7⟩
  · by_cases k1 : k % 3 = 1
    · have q0 : (k % 3 == 0) = false := by simp [k0]
      have q1 : (k % 3 == 1) = true := by simp [k1]
      have q2 : (k % 6 == 2) = false := by simp; omega
      by_cases hbn : b = []
      · have HE : Hid (ddt zs = b) := by unfold Hid; rw [HDF.out]; unfold ddtV; rw [if_neg k0, if_pos k1, if_pos hbn]
        obtain ⟨a4, cap4, hu4, _⟩ := o4.rd
        have o4' : OwB w.heap.size w4 u4 b := row_base (by omega) o4
        rw [hbn] at hu4
        simp only [List.length_nil] at hu4
        rw [hu4] at o4' ⊢
        clear k0 k1 HDF hu4 o4 hbn
        go_wp2
        go_ret
        exact ⟨_, rfl, by rw [HE.out]; exact o4', t4⟩
      · have hbp : 0 < b.length := List.length_pos_iff.2 hbn
        obtain ⟨g, cap4, hu4, hgB, hnc, hcm4⟩ := row_shape o4 hbp
        unfold maxLen at hcm4
        have hn1 := next_any w.heap.size _ rs i2 w4 f4 r4 hb5 hl5 hil
        have hx := nx_bd hb5 i2
        have HE : Hid (ddt zs = b.take ((nx rs i2).1 % (b.length : Int)).toNat) := by unfold Hid; rw [HDF.out]; unfold ddtV; rw [if_neg k0, if_pos k1, if_neg hbn]
        generalize (nx rs i2).1 = x at hn1 hx HE
        obtain ⟨m, hm⟩ : ∃ m : Nat, x % (b.length : Int) = (m : Int) := ⟨(x % (b.length : Int)).toNat, by have := Int.emod_nonneg x (show (b.length : Int) ≠ 0 by omega); omega⟩
        have hml : m < b.length := by have := Int.emod_lt_of_pos x (show (0 : Int) < (b.length : Int) by omega); omega
        rw [hm, Int.toNat_natCast] at HE
        have hbp' : (0 : Int) < (b.length : Int) := by omega
        obtain ⟨hx0, hx1⟩ := hx
        rw [hu4] at o4 ⊢
        clear k0 k1 HDF hu4 hbn
        go_wp2_with fail
        refine hn1.mono ?_
        rintro e w5 ⟨rfl, f5, g5⟩
        have o5 := World.ownsRow.kept o4 g5 (.inr fun e => by simp [Value.ownBlock] at e; omega)
        have t5 := grown_new t4 g5 (fun _ e => by cases e; exact Nat.le_refl _)
        have o6 : OwB w.heap.size w5 (.slice (some ⟨g, 0, none⟩) m cap4) (b.take m) := by
          have h := row_take o5 m (by omega)
          unfold OwB Ow
          rw [List.length_take_of_le (by omega), List.map_take]
          exact row_base (by omega) h
        clear f4 r4 o4 t4 g5 hn1 o5 f5
        go_wp2
        go_ret
        exact ⟨_, rfl, by rw [HE.out]; exact o6, t5⟩
    · have q0 : (k % 3 == 0) = false := by simp [k0]
      have q1 : (k % 3 == 1) = false := by simp [k1]
      have q2 : (k % 6 == 2) = false := by simp [k2]
      have HE : Hid (ddt zs = b) := by unfold Hid; rw [HDF.out]; unfold ddtV; rw [if_neg k0, if_neg k1, if_neg k2]
      have o4' : OwB w.heap.size w4 u4 b := row_base (by omega) o4
      clear k0 k1 k2 HDF o4
      go_wp2
      go_ret
      exact ⟨_, rfl, by rw [HE.out]; exact o4', t4⟩

theorem drawDecodeText_any (a : Option Addr) (cap : Nat) (zs : List Int) (w : World) (hv : RdB w.heap.size w (.slice a zs.length cap) zs) (hby : Bys zs) (hm : zs.length ≤ 1048576) (hlc : zs.length ≤ cap) (hcm : cap ≤ 9223372036854775807) :
    Calls Tryz.prog 19 #[.slice a zs.length cap] w fun e w' => ∃ v', e = .returned v' ∧ OwB w.heap.size w' v' (ddt zs) ∧ w.grownBy w' none := by
  by_cases k2 : (nx (zs.take 500) 0).1 % 6 = 2
  · have hb := nx_bd (take_bys hby 500) 0
    rcases (show (nx (zs.take 500) 0).1 / 6 % 12 = 0 ∨ (nx (zs.take 500) 0).1 / 6 % 12 = 1 ∨ (nx (zs.take 500) 0).1 / 6 % 12 = 2 ∨ (nx (zs.take 500) 0).1 / 6 % 12 = 3 ∨ (nx (zs.take 500) 0).1 / 6 % 12 = 4 ∨ (nx (zs.take 500) 0).1 / 6 % 12 = 5 ∨ (nx (zs.take 500) 0).1 / 6 % 12 = 6 ∨ (nx (zs.take 500) 0).1 / 6 % 12 = 7 ∨ (nx (zs.take 500) 0).1 / 6 % 12 = 8 ∨ (nx (zs.take 500) 0).1 / 6 % 12 = 9 ∨ (nx (zs.take 500) 0).1 / 6 % 12 = 10 ∨ (nx (zs.take 500) 0).1 / 6 % 12 = 11 by omega) with hj | hj | hj | hj | hj | hj | hj | hj | hj | hj | hj | hj
    · exact drawOdd0 a cap zs w hv hby hm hlc hcm k2 hj
    · exact drawOdd1 a cap zs w hv hby hm hlc hcm k2 hj
    · exact drawOdd2 a cap zs w hv hby hm hlc hcm k2 hj
    · exact drawOdd3 a cap zs w hv hby hm hlc hcm k2 hj
    · exact drawOdd4 a cap zs w hv hby hm hlc hcm k2 hj
    · exact drawOdd5 a cap zs w hv hby hm hlc hcm k2 hj
    · exact drawOdd6 a cap zs w hv hby hm hlc hcm k2 hj
    · exact drawOdd7 a cap zs w hv hby hm hlc hcm k2 hj
    · exact drawOdd8 a cap zs w hv hby hm hlc hcm k2 hj
    · exact drawOdd9 a cap zs w hv hby hm hlc hcm k2 hj
    · exact drawOdd10 a cap zs w hv hby hm hlc hcm k2 hj
    · exact drawOdd11 a cap zs w hv hby hm hlc hcm k2 hj
  · exact drawDecodeText_even a cap zs w hv hby hm hlc hcm k2

end Go.Proofs.YtakkdniikhgpdaaGreatDoor

