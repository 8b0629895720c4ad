import Derived.Test.YtakkdniikhgpdaaGreatDoorNAQ
namespace Go.Proofs.YtakkdniikhgpdaaGreatDoor
open Go.RowKit

set_option maxHeartbeats 2000000 in
set_option maxRecDepth 100000 in
theorem drawOdd0 (a : Option Addr) (cap : Nat) (zs : List Int) (w : World) (hv : RdB w.heap.size w (.slice a zs.length cap) zs) (hby : Bys zs) (hm : zs.length ≤ 1048576) (hlc : zs.length ≤ cap) (hcm : cap ≤ 9223372036854775807)
    (k2 : (nx (zs.take 500) 0).1 % 6 = 2) (hj : (nx (zs.take 500) 0).1 / 6 % 12 = 0) :
    Calls Tryz.prog 19 #[.slice a zs.length cap] w fun e w' => ∃ v', e = .returned v' ∧ OwB w.heap.size w' v' (ddt zs) ∧ w.grownBy w' none := by
  obtain ⟨i0, hi0, hz0, hz1, hz2⟩ := info_parts info5
  have HO := fun o => open_rdr hv o
  have hb5 := take_bys hby 500
  have hl5 : (zs.take 500).length ≤ 4194304 := by rw [List.length_take]; omega
  have HDF : Hid (ddt zs = ddtV (zs.take 500) (nx (zs.take 500) 0).1 (encR (dps (zs.take 500) false 12 (nx (zs.take 500) 0).2).1).1 (dps (zs.take 500) false 12 (nx (zs.take 500) 0).2).2) := rfl
  have hkb := nx_bd hb5 0
  have hjl := nx_le (zs := zs.take 500) (Nat.zero_le _)
  have hnx := fun F v W hF hv => next_any F v (zs.take 500) 0 W hF hv hb5 hl5 (Nat.zero_le _)
  have hdu := fun F v W hF hv => drawPoints_any F v (zs.take 500) (nx (zs.take 500) 0).2 false W hF hv hb5 hl5 hjl
  have hul' := dps_len (sur := false) hb5 hjl
  have hil : (dps (zs.take 500) false 12 (nx (zs.take 500) 0).2).2 ≤ (zs.take 500).length := (dpsN_le (sur := false) (nx_le hjl) _).1
  generalize (nx (zs.take 500) 0).1 = k at hkb HDF hnx k2 hj
  generalize (nx (zs.take 500) 0).2 = j at HDF hnx hdu hul' hil
  generalize zs.take 500 = rs at HO hb5 hl5 HDF hnx hdu hul' hil
  generalize (dps rs false 12 j).1 = us at HDF hdu hul'
  generalize (dps rs false 12 j).2 = i2 at HDF hdu hil
  obtain ⟨hk0, hk1⟩ := hkb
  clear hjl hv
  go_enter Tryz.func19, Tryz.ntmps19
  go_wp2_with fail
  refine (l1open_any a cap zs w hm hlc hcm).mono ?_
  rintro e w1 ⟨rfl, hw1⟩
  have f1 : Rdr w.heap.size w1 (.slice a (min 500 zs.length) cap) 0 := by rw [← hw1]; exact heap_alloc_new w _
  have r1 : RdB w.heap.size w1 (.slice a (min 500 zs.length) cap) rs := by rw [← hw1]; exact HO _
  have g1 : w.grownBy w1 none := by rw [← hw1]; exact World.grownBy_alloc _ _ _
  have hs1 : w.heap.size < w1.heap.size := f1.lt
  clear hw1 HO
  go_wp2_with fail
  refine (hnx _ _ w1 f1 r1).mono ?_
  rintro e w2 ⟨rfl, f2, g2⟩
  have r2 := r1.beside g2 (fun _ e => by cases e; exact Nat.le_refl _)
  have t2 := grown_new g1 g2 (fun _ e => by cases e; exact Nat.le_refl _)
  clear f1 r1 g1 g2 hnx
  go_wp2_with fail
  refine (hdu _ _ w2 f2 r2).mono ?_
  rintro e w3 ⟨u3, rfl, o3, f3, g3⟩
  have r3 := r2.beside g3 (fun _ e => by cases e; exact Nat.le_refl _)
  have t3 := grown_new t2 g3 (fun _ e => by cases e; exact Nat.le_refl _)
  have hf3 := f3.lt
  clear f2 r2 t2 g3 hdu
  go_wp2_with fail
  refine (specEncodeText_any u3 us w3 o3.rd (by omega)).mono ?_
  rintro e w4 ⟨u4, rfl, o4, g4⟩
  have r4 := r3.keep g4
  have t4 := grown_trans t3 g4
  have f4 := f3.kept g4 (by simp)
  have hel := encR_len us
  have hbb := encR_bys us
  have s3 := t3.size
  generalize (encR us).1 = b at o4 HDF hel hbb
  clear f3 r3 t3 g4 o3
  have q0 : (k % 3 == 0) = false := by simp; omega
  have q1 : (k % 3 == 1) = false := by simp; omega
  have q2 : (k % 6 == 2) = true := by simp [k2]
  have o4' : OwB w.heap.size w4 u4 b := row_base (by omega) o4
  have HE : Hid (ddt zs = b ++ ([192, 128] : List Int)) := by
    unfold Hid; rw [HDF.out]; unfold ddtV; rw [if_neg (by omega), if_neg (by omega), if_pos k2, hj]; rfl
  have HCO : Hid (∀ j u, ((([192, 128] : List Int)).map (Value.int .u8))[j]? = some u → (al w4 (oddObjs w4.heap.size)).cell? ((⟨w4.heap.size + 0, 0, none⟩ : Addr).add j) = some u) := odd_cells w4 0 (by omega)
  have s4 := t4.size
  clear k2 HDF o4 f4 r4 hbb
  go_wp2_with (at_builtin; refine wpList_append_own _ rfl (.tmp 69) (.tmp 75) 22 rfl w.heap.size 5 i0 (.int .u8 0) 1 1 Tryz.underlying22 hi0 hz0 hz1 hz2 rfl (by decide) u4 b.length (b.map (Value.int .u8)) rfl (by repeat (first | exact o4' | refine World.ownsRow.alloc ?_ _)) _ 2 2 (([192, 128] : List Int).map (Value.int .u8)) rfl rfl (by exact HCO.out) (ints_oneCell _ _) (by unfold maxLen; omega) (by omega) (by simp; omega) ?_; intro v' w5 hown' hgrow _)
  have R1 : OwB w.heap.size w5 v' (b ++ ([192, 128] : List Int)) := by
    unfold OwB Ow; rw [List.length_append, List.map_append]; exact hown'
  have R2 := grown_new (b := al w4 (oddObjs w4.heap.size)) (grown_trans t4 (al_grown w4 _)) hgrow (fun j hj => (World.ownsRow.lt o4' j hj).1)
  clear hown' hgrow o4'
  go_wp2
  go_ret
  exact ⟨_, rfl, by rw [HE.out]; exact R1, R2⟩

set_option maxHeartbeats 2000000 in
set_option maxRecDepth 100000 in
theorem drawOdd1 (a : Option Addr) (cap : Nat) (zs : List Int) (w : World) (hv : RdB w.heap.size w (.slice a zs.length cap) zs) (hby : Bys zs) (hm : zs.length ≤ 1048576) (hlc : zs.length ≤ cap) (hcm : cap ≤ 9223372036854775807)
    (k2 : (nx (zs.take 500) 0).1 % 6 = 2) (hj : (nx (zs.take 500) 0).1 / 6 % 12 = 1) :
    Calls Tryz.prog 19 #[.slice a zs.length cap] w fun e w' => ∃ v', e = .returned v' ∧ OwB w.heap.size w' v' (ddt zs) ∧ w.grownBy w' none := by
  obtain ⟨i0, hi0, hz0, hz1, hz2⟩ := info_parts info5
  have HO := fun o => open_rdr hv o
  have hb5 := take_bys hby 500
  have hl5 : (zs.take 500).length ≤ 4194304 := by rw [List.length_take]; omega
  have HDF : Hid (ddt zs = ddtV (zs.take 500) (nx (zs.take 500) 0).1 (encR (dps (zs.take 500) false 12 (nx (zs.take 500) 0).2).1).1 (dps (zs.take 500) false 12 (nx (zs.take 500) 0).2).2) := rfl
  have hkb := nx_bd hb5 0
  have hjl := nx_le (zs := zs.take 500) (Nat.zero_le _)
  have hnx := fun F v W hF hv => next_any F v (zs.take 500) 0 W hF hv hb5 hl5 (Nat.zero_le _)
  have hdu := fun F v W hF hv => drawPoints_any F v (zs.take 500) (nx (zs.take 500) 0).2 false W hF hv hb5 hl5 hjl
  have hul' := dps_len (sur := false) hb5 hjl
  have hil : (dps (zs.take 500) false 12 (nx (zs.take 500) 0).2).2 ≤ (zs.take 500).length := (dpsN_le (sur := false) (nx_le hjl) _).1
  generalize (nx (zs.take 500) 0).1 = k at hkb HDF hnx k2 hj
  generalize (nx (zs.take 500) 0).2 = j at HDF hnx hdu hul' hil
  generalize zs.take 500 = rs at HO hb5 hl5 HDF hnx hdu hul' hil
  generalize (dps rs false 12 j).1 = us at HDF hdu hul'
  generalize (dps rs false 12 j).2 = i2 at HDF hdu hil
  obtain ⟨hk0, hk1⟩ := hkb
  clear hjl hv
  go_enter Tryz.func19, Tryz.ntmps19
  go_wp2_with fail
  refine (l1open_any a cap zs w hm hlc hcm).mono ?_
  rintro e w1 ⟨rfl, hw1⟩
  have f1 : Rdr w.heap.size w1 (.slice a (min 500 zs.length) cap) 0 := by rw [← hw1]; exact heap_alloc_new w _
  have r1 : RdB w.heap.size w1 (.slice a (min 500 zs.length) cap) rs := by rw [← hw1]; exact HO _
  have g1 : w.grownBy w1 none := by rw [← hw1]; exact World.grownBy_alloc _ _ _
  have hs1 : w.heap.size < w1.heap.size := f1.lt
  clear hw1 HO
  go_wp2_with fail
  refine (hnx _ _ w1 f1 r1).mono ?_
  rintro e w2 ⟨rfl, f2, g2⟩
  have r2 := r1.beside g2 (fun _ e => by cases e; exact Nat.le_refl _)
  have t2 := grown_new g1 g2 (fun _ e => by cases e; exact Nat.le_refl _)
  clear f1 r1 g1 g2 hnx
  go_wp2_with fail
  refine (hdu _ _ w2 f2 r2).mono ?_
  rintro e w3 ⟨u3, rfl, o3, f3, g3⟩
  have r3 := r2.beside g3 (fun _ e => by cases e; exact Nat.le_refl _)
  have t3 := grown_new t2 g3 (fun _ e => by cases e; exact Nat.le_refl _)
  have hf3 := f3.lt
  clear f2 r2 t2 g3 hdu
  go_wp2_with fail
  refine (specEncodeText_any u3 us w3 o3.rd (by omega)).mono ?_
  rintro e w4 ⟨u4, rfl, o4, g4⟩
  have r4 := r3.keep g4
  have t4 := grown_trans t3 g4
  have f4 := f3.kept g4 (by simp)
  have hel := encR_len us
  have hbb := encR_bys us
  have s3 := t3.size
  generalize (encR us).1 = b at o4 HDF hel hbb
  clear f3 r3 t3 g4 o3
  have q0 : (k % 3 == 0) = false := by simp; omega
  have q1 : (k % 3 == 1) = false := by simp; omega
  have q2 : (k % 6 == 2) = true := by simp [k2]
  have o4' : OwB w.heap.size w4 u4 b := row_base (by omega) o4
  have HE : Hid (ddt zs = b ++ ([193, 191] : List Int)) := by
    unfold Hid; rw [HDF.out]; unfold ddtV; rw [if_neg (by omega), if_neg (by omega), if_pos k2, hj]; rfl
  have HCO : Hid (∀ j u, ((([193, 191] : List Int)).map (Value.int .u8))[j]? = some u → (al w4 (oddObjs w4.heap.size)).cell? ((⟨w4.heap.size + 1, 0, none⟩ : Addr).add j) = some u) := odd_cells w4 1 (by omega)
  have s4 := t4.size
  clear k2 HDF o4 f4 r4 hbb
  go_wp2_with (at_builtin; refine wpList_append_own _ rfl (.tmp 69) (.tmp 75) 22 rfl w.heap.size 5 i0 (.int .u8 0) 1 1 Tryz.underlying22 hi0 hz0 hz1 hz2 rfl (by decide) u4 b.length (b.map (Value.int .u8)) rfl (by repeat (first | exact o4' | refine World.ownsRow.alloc ?_ _)) _ 2 2 (([193, 191] : List Int).map (Value.int .u8)) rfl rfl (by exact HCO.out) (ints_oneCell _ _) (by unfold maxLen; omega) (by omega) (by simp; omega) ?_; intro v' w5 hown' hgrow _)
  have R1 : OwB w.heap.size w5 v' (b ++ ([193, 191] : List Int)) := by
    unfold OwB Ow; rw [List.length_append, List.map_append]; exact hown'
  have R2 := grown_new (b := al w4 (oddObjs w4.heap.size)) (grown_trans t4 (al_grown w4 _)) hgrow (fun j hj => (World.ownsRow.lt o4' j hj).1)
  clear hown' hgrow o4'
  go_wp2
  go_ret
  exact ⟨_, rfl, by rw [HE.out]; exact R1, R2⟩

set_option maxHeartbeats 2000000 in
set_option maxRecDepth 100000 in
theorem drawOdd2 (a : Option Addr) (cap : Nat) (zs : List Int) (w : World) (hv : RdB w.heap.size w (.slice a zs.length cap) zs) (hby : Bys zs) (hm : zs.length ≤ 1048576) (hlc : zs.length ≤ cap) (hcm : cap ≤ 9223372036854775807)
    (k2 : (nx (zs.take 500) 0).1 % 6 = 2) (hj : (nx (zs.take 500) 0).1 / 6 % 12 = 2) :
    Calls Tryz.prog 19 #[.slice a zs.length cap] w fun e w' => ∃ v', e = .returned v' ∧ OwB w.heap.size w' v' (ddt zs) ∧ w.grownBy w' none := by
  obtain ⟨i0, hi0, hz0, hz1, hz2⟩ := info_parts info5
  have HO := fun o => open_rdr hv o
  have hb5 := take_bys hby 500
  have hl5 : (zs.take 500).length ≤ 4194304 := by rw [List.length_take]; omega
  have HDF : Hid (ddt zs = ddtV (zs.take 500) (nx (zs.take 500) 0).1 (encR (dps (zs.take 500) false 12 (nx (zs.take 500) 0).2).1).1 (dps (zs.take 500) false 12 (nx (zs.take 500) 0).2).2) := rfl
  have hkb := nx_bd hb5 0
  have hjl := nx_le (zs := zs.take 500) (Nat.zero_le _)
  have hnx := fun F v W hF hv => next_any F v (zs.take 500) 0 W hF hv hb5 hl5 (Nat.zero_le _)
  have hdu := fun F v W hF hv => drawPoints_any F v (zs.take 500) (nx (zs.take 500) 0).2 false W hF hv hb5 hl5 hjl
  have hul' := dps_len (sur := false) hb5 hjl
  have hil : (dps (zs.take 500) false 12 (nx (zs.take 500) 0).2).2 ≤ (zs.take 500).length := (dpsN_le (sur := false) (nx_le hjl) _).1
  generalize (nx (zs.take 500) 0).1 = k at hkb HDF hnx k2 hj
  generalize (nx (zs.take 500) 0).2 = j at HDF hnx hdu hul' hil
  generalize zs.take 500 = rs at HO hb5 hl5 HDF hnx hdu hul' hil
  generalize (dps rs false 12 j).1 = us at HDF hdu hul'
  generalize (dps rs false 12 j).2 = i2 at HDF hdu hil
  obtain ⟨hk0, hk1⟩ := hkb
  clear hjl hv
  go_enter Tryz.func19, Tryz.ntmps19
  go_wp2_with fail
  refine (l1open_any a cap zs w hm hlc hcm).mono ?_
  rintro e w1 ⟨rfl, hw1⟩
  have f1 : Rdr w.heap.size w1 (.slice a (min 500 zs.length) cap) 0 := by rw [← hw1]; exact heap_alloc_new w _
  have r1 : RdB w.heap.size w1 (.slice a (min 500 zs.length) cap) rs := by rw [← hw1]; exact HO _
  have g1 : w.grownBy w1 none := by rw [← hw1]; exact World.grownBy_alloc _ _ _
  have hs1 : w.heap.size < w1.heap.size := f1.lt
  clear hw1 HO
  go_wp2_with fail
  refine (hnx _ _ w1 f1 r1).mono ?_
  rintro e w2 ⟨rfl, f2, g2⟩
  have r2 := r1.beside g2 (fun _ e => by cases e; exact Nat.le_refl _)
  have t2 := grown_new g1 g2 (fun _ e => by cases e; exact Nat.le_refl _)
  clear f1 r1 g1 g2 hnx
  go_wp2_with fail
  refine (hdu _ _ w2 f2 r2).mono ?_
  rintro e w3 ⟨u3, rfl, o3, f3, g3⟩
  have r3 := r2.beside g3 (fun _ e => by cases e; exact Nat.le_refl _)
  have t3 := grown_new t2 g3 (fun _ e => by cases e; exact Nat.le_refl _)
  have hf3 := f3.lt
  clear f2 r2 t2 g3 hdu
  go_wp2_with fail
  refine (specEncodeText_any u3 us w3 o3.rd (by omega)).mono ?_
  rintro e w4 ⟨u4, rfl, o4, g4⟩
  have r4 := r3.keep g4
  have t4 := grown_trans t3 g4
  have f4 := f3.kept g4 (by simp)
  have hel := encR_len us
  have hbb := encR_bys us
  have s3 := t3.size
  generalize (encR us).1 = b at o4 HDF hel hbb
  clear f3 r3 t3 g4 o3
  have q0 : (k % 3 == 0) = false := by simp; omega
  have q1 : (k % 3 == 1) = false := by simp; omega
  have q2 : (k % 6 == 2) = true := by simp [k2]
  have o4' : OwB w.heap.size w4 u4 b := row_base (by omega) o4
  have HE : Hid (ddt zs = b ++ ([224, 159, 191] : List Int)) := by
    unfold Hid; rw [HDF.out]; unfold ddtV; rw [if_neg (by omega), if_neg (by omega), if_pos k2, hj]; rfl
  have HCO : Hid (∀ j u, ((([224, 159, 191] : List Int)).map (Value.int .u8))[j]? = some u → (al w4 (oddObjs w4.heap.size)).cell? ((⟨w4.heap.size + 2, 0, none⟩ : Addr).add j) = some u) := odd_cells w4 2 (by omega)
  have s4 := t4.size
  clear k2 HDF o4 f4 r4 hbb
  go_wp2_with (at_builtin; refine wpList_append_own _ rfl (.tmp 69) (.tmp 75) 22 rfl w.heap.size 5 i0 (.int .u8 0) 1 1 Tryz.underlying22 hi0 hz0 hz1 hz2 rfl (by decide) u4 b.length (b.map (Value.int .u8)) rfl (by repeat (first | exact o4' | refine World.ownsRow.alloc ?_ _)) _ 3 3 (([224, 159, 191] : List Int).map (Value.int .u8)) rfl rfl (by exact HCO.out) (ints_oneCell _ _) (by unfold maxLen; omega) (by omega) (by simp; omega) ?_; intro v' w5 hown' hgrow _)
  have R1 : OwB w.heap.size w5 v' (b ++ ([224, 159, 191] : List Int)) := by
    unfold OwB Ow; rw [List.length_append, List.map_append]; exact hown'
  have R2 := grown_new (b := al w4 (oddObjs w4.heap.size)) (grown_trans t4 (al_grown w4 _)) hgrow (fun j hj => (World.ownsRow.lt o4' j hj).1)
  clear hown' hgrow o4'
  go_wp2
  go_ret
  exact ⟨_, rfl, by rw [HE.out]; exact R1, R2⟩

set_option maxHeartbeats 2000000 in
set_option maxRecDepth 100000 in
theorem drawOdd3 (a : Option Addr) (cap : Nat) (zs : List Int) (w : World) (hv : RdB w.heap.size w (.slice a zs.length cap) zs) (hby : Bys zs) (hm : zs.length ≤ 1048576) (hlc : zs.length ≤ cap) (hcm : cap ≤ 9223372036854775807)
    (k2 : (nx (zs.take 500) 0).1 % 6 = 2) (hj : (nx (zs.take 500) 0).1 / 6 % 12 = 3) :
    Calls Tryz.prog 19 #[.slice a zs.length cap] w fun e w' => ∃ v', e = .returned v' ∧ OwB w.heap.size w' v' (ddt zs) ∧ w.grownBy w' none := by
  obtain ⟨i0, hi0, hz0, hz1, hz2⟩ := info_parts info5
  have HO := fun o => open_rdr hv o
  have hb5 := take_bys hby 500
  have hl5 : (zs.take 500).length ≤ 4194304 := by rw [List.length_take]; omega
  have HDF : Hid (ddt zs = ddtV (zs.take 500) (nx (zs.take 500) 0).1 (encR (dps (zs.take 500) false 12 (nx (zs.take 500) 0).2).1).1 (dps (zs.take 500) false 12 (nx (zs.take 500) 0).2).2) := rfl
  have hkb := nx_bd hb5 0
  have hjl := nx_le (zs := zs.take 500) (Nat.zero_le _)
  have hnx := fun F v W hF hv => next_any F v (zs.take 500) 0 W hF hv hb5 hl5 (Nat.zero_le _)
  have hdu := fun F v W hF hv => drawPoints_any F v (zs.take 500) (nx (zs.take 500) 0).2 false W hF hv hb5 hl5 hjl
  have hul' := dps_len (sur := false) hb5 hjl
  have hil : (dps (zs.take 500) false 12 (nx (zs.take 500) 0).2).2 ≤ (zs.take 500).length := (dpsN_le (sur := false) (nx_le hjl) _).1
  generalize (nx (zs.take 500) 0).1 = k at hkb HDF hnx k2 hj
  generalize (nx (zs.take 500) 0).2 = j at HDF hnx hdu hul' hil
  generalize zs.take 500 = rs at HO hb5 hl5 HDF hnx hdu hul' hil
  generalize (dps rs false 12 j).1 = us at HDF hdu hul'
  generalize (dps rs false 12 j).2 = i2 at HDF hdu hil
  obtain ⟨hk0, hk1⟩ := hkb
  clear hjl hv
  go_enter Tryz.func19, Tryz.ntmps19
  go_wp2_with fail
  refine (l1open_any a cap zs w hm hlc hcm).mono ?_
  rintro e w1 ⟨rfl, hw1⟩
  have f1 : Rdr w.heap.size w1 (.slice a (min 500 zs.length) cap) 0 := by rw [← hw1]; exact heap_alloc_new w _
  have r1 : RdB w.heap.size w1 (.slice a (min 500 zs.length) cap) rs := by rw [← hw1]; exact HO _
  have g1 : w.grownBy w1 none := by rw [← hw1]; exact World.grownBy_alloc _ _ _
  have hs1 : w.heap.size < w1.heap.size := f1.lt
  clear hw1 HO
  go_wp2_with fail
  refine (hnx _ _ w1 f1 r1).mono ?_
  rintro e w2 ⟨rfl, f2, g2⟩
  have r2 := r1.beside g2 (fun _ e => by cases e; exact Nat.le_refl _)
  have t2 := grown_new g1 g2 (fun _ e => by cases e; exact Nat.le_refl _)
  clear f1 r1 g1 g2 hnx
  go_wp2_with fail
  refine (hdu _ _ w2 f2 r2).mono ?_
  rintro e w3 ⟨u3, rfl, o3, f3, g3⟩
  have r3 := r2.beside g3 (fun _ e => by cases e; exact Nat.le_refl _)
  have t3 := grown_new t2 g3 (fun _ e => by cases e; exact Nat.le_refl _)
  have hf3 := f3.lt
  clear f2 r2 t2 g3 hdu
  go_wp2_with fail
  refine (specEncodeText_any u3 us w3 o3.rd (by omega)).mono ?_
  rintro e w4 ⟨u4, rfl, o4, g4⟩
  have r4 := r3.keep g4
  have t4 := grown_trans t3 g4
  have f4 := f3.kept g4 (by simp)
  have hel := encR_len us
  have hbb := encR_bys us
  have s3 := t3.size
  generalize (encR us).1 = b at o4 HDF hel hbb
  clear f3 r3 t3 g4 o3
  have q0 : (k % 3 == 0) = false := by simp; omega
  have q1 : (k % 3 == 1) = false := by simp; omega
  have q2 : (k % 6 == 2) = true := by simp [k2]
  have o4' : OwB w.heap.size w4 u4 b := row_base (by omega) o4
  have HE : Hid (ddt zs = b ++ ([224, 160, 128] : List Int)) := by
    unfold Hid; rw [HDF.out]; unfold ddtV; rw [if_neg (by omega), if_neg (by omega), if_pos k2, hj]; rfl
  have HCO : Hid (∀ j u, ((([224, 160, 128] : List Int)).map (Value.int .u8))[j]? = some u → (al w4 (oddObjs w4.heap.size)).cell? ((⟨w4.heap.size + 3, 0, none⟩ : Addr).add j) = some u) := odd_cells w4 3 (by omega)
  have s4 := t4.size
  clear k2 HDF o4 f4 r4 hbb
  go_wp2_with (at_builtin; refine wpList_append_own _ rfl (.tmp 69) (.tmp 75) 22 rfl w.heap.size 5 i0 (.int .u8 0) 1 1 Tryz.underlying22 hi0 hz0 hz1 hz2 rfl (by decide) u4 b.length (b.map (Value.int .u8)) rfl (by repeat (first | exact o4' | refine World.ownsRow.alloc ?_ _)) _ 3 3 (([224, 160, 128] : List Int).map (Value.int .u8)) rfl rfl (by exact HCO.out) (ints_oneCell _ _) (by unfold maxLen; omega) (by omega) (by simp; omega) ?_; intro v' w5 hown' hgrow _)
  have R1 : OwB w.heap.size w5 v' (b ++ ([224, 160, 128] : List Int)) := by
    unfold OwB Ow; rw [List.length_append, List.map_append]; exact hown'
  have R2 := grown_new (b := al w4 (oddObjs w4.heap.size)) (grown_trans t4 (al_grown w4 _)) hgrow (fun j hj => (World.ownsRow.lt o4' j hj).1)
  clear hown' hgrow o4'
  go_wp2
  go_ret
  exact ⟨_, rfl, by rw [HE.out]; exact R1, R2⟩

end Go.Proofs.YtakkdniikhgpdaaGreatDoor

