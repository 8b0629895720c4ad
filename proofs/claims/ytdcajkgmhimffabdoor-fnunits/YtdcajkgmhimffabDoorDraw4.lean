import Derived.Test.YtdcajkgmhimffabDoorDraw3
namespace Go.Proofs.YtdcajkgmhimffabDoor
open Go.RowKit

/-- The reader over a text that came in. -/
theorem open_rdr {a : Option Addr} {cap : Nat} {zs : List Int} {w : World} (hv : RdB w.heap.size w (.slice a zs.length cap) zs) (o : Obj) :
    RdB w.heap.size (w.alloc o) (.slice a (min 500 zs.length) cap) (zs.take 500) := by
  obtain ⟨a', cap', he, hr⟩ := hv
  simp at he
  obtain ⟨rfl, rfl⟩ := he
  refine ⟨a, cap, by rw [List.length_take], fun h0 => ?_⟩
  have hne : zs ≠ [] := fun h => h0 (by rw [h]; rfl)
  obtain ⟨b, off, rfl, hb, hc⟩ := hr hne
  refine ⟨b, off, rfl, hb, fun j hj => ?_⟩
  rw [List.length_take] at hj
  rw [World.cell?_alloc_past _ _ _ hb, hc j (by omega)]
  simp [show j < 500 by omega]
theorem take_bys {zs : List Int} (h : Bys zs) (n : Nat) : Bys (zs.take n) := fun z hz => h z (List.mem_of_mem_take hz)

/-- What is drawn: the first byte k, the rest, a wrong number behind it at two of the bytes. -/
def tailed (k bad : Int) (u : List Int) : List Int := if k = 250 then u ++ [-1] else if k = 251 then u ++ [bad] else u
def dfu (zs : List Int) : List Int := tailed (nx (zs.take 500) 0).1 65536 (dus (zs.take 500) 12 (nx (zs.take 500) 0).2).1
def det (zs : List Int) : List Int := tailed (nx (zs.take 500) 0).1 1114112 (dps (zs.take 500) (decide ((nx (zs.take 500) 0).1 % 4 = 0)) 12 (nx (zs.take 500) 0).2).1
theorem tailed_len (k bad : Int) (u : List Int) : (tailed k bad u).length ≤ u.length + 1 := by
  unfold tailed; split
  · simp
  · split <;> simp
theorem dus_len {zs : List Int} {i : Nat} (hb : Bys zs) (h : i ≤ zs.length) : (dus zs 12 i).1.length ≤ 11 := by
  have := nx_bd hb i
  unfold dus; rw [(dusN_le (nx_le h) _).2]; omega
theorem dps_len {zs : List Int} {sur : Bool} {i : Nat} (hb : Bys zs) (h : i ≤ zs.length) : (dps zs sur 12 i).1.length ≤ 11 := by
  have := nx_bd hb i
  unfold dps; rw [(dpsN_le (sur := sur) (nx_le h) _).2]; omega
theorem dfu_len {zs : List Int} (hb : Bys zs) : (dfu zs).length ≤ 12 := by
  have h1 := tailed_len (nx (zs.take 500) 0).1 65536 (dus (zs.take 500) 12 (nx (zs.take 500) 0).2).1
  have h2 := dus_len (take_bys hb 500) (nx_le (zs := zs.take 500) (i := 0) (Nat.zero_le _))
  unfold dfu; omega
theorem det_len {zs : List Int} (hb : Bys zs) : (det zs).length ≤ 12 := by
  have h1 := tailed_len (nx (zs.take 500) 0).1 1114112 (dps (zs.take 500) (decide ((nx (zs.take 500) 0).1 % 4 = 0)) 12 (nx (zs.take 500) 0).2).1
  have h2 := dps_len (sur := decide ((nx (zs.take 500) 0).1 % 4 = 0)) (take_bys hb 500) (nx_le (zs := zs.take 500) (i := 0) (Nat.zero_le _))
  unfold det; omega

set_option maxHeartbeats 2000000 in
set_option maxRecDepth 100000 in
theorem drawFromUnits_any (a : Option Addr) (cap : Nat) (zs : List Int) (w : World) (hv : RdB w.heap.size w (.slice a zs.length cap) zs) (hby : Bys zs) (hm : zs.length ≤ 1048576) (hlc : zs.length ≤ cap) (hcm : cap ≤ 9223372036854775807) :
    Calls Tryd.prog 4 #[.slice a zs.length cap] w fun e w' => ∃ v', e = .returned v' ∧ OwI w.heap.size w' v' (dfu zs) ∧ w.grownBy w' none := by
  obtain ⟨i0, hi0, hz0, hz1, hz2⟩ := info_parts info3
  have HO := fun o => open_rdr hv o
  have hb5 := take_bys hby 500
  have hl5 : (zs.take 500).length ≤ 4194304 := by rw [List.length_take]; omega
  have HDF : Hid (dfu zs = tailed (nx (zs.take 500) 0).1 65536 (dus (zs.take 500) 12 (nx (zs.take 500) 0).2).1) := rfl
  have hkb := nx_bd hb5 0
  have hjl := nx_le (zs := zs.take 500) (Nat.zero_le _)
  have hnx := fun F v W hF hv => next_any F v (zs.take 500) 0 W hF hv hb5 hl5 (Nat.zero_le _)
  have hdu := fun F v W hF hv => drawUnits_any F v (zs.take 500) (nx (zs.take 500) 0).2 W hF hv hb5 hl5 hjl
  have hul' := dus_len hb5 hjl
  generalize (nx (zs.take 500) 0).1 = k at hkb HDF hnx
  generalize (nx (zs.take 500) 0).2 = j at HDF hnx hdu hul'
  generalize zs.take 500 = rs at HO hb5 hl5 HDF hnx hdu hul'
  generalize (dus rs 12 j).1 = us at HDF hdu hul'
  obtain ⟨hk0, hk1⟩ := hkb
  clear hjl hv
  go_enter Tryd.func4, Tryd.ntmps4
  go_wp2_with fail
  refine (l1open_any a cap zs w hm hlc hcm).mono ?_
  rintro e w1 ⟨rfl, hw1⟩
  have f1 : Rdr w.heap.size w1 (.slice a (min 500 zs.length) cap) 0 := by rw [← hw1]; exact heap_alloc_new w _
  have r1 : RdB w.heap.size w1 (.slice a (min 500 zs.length) cap) rs := by rw [← hw1]; exact HO _
  have g1 : w.grownBy w1 none := by rw [← hw1]; exact World.grownBy_alloc _ _ _
  clear hw1 HO
  go_wp2_with fail
  refine (hnx _ _ w1 f1 r1).mono ?_
  rintro e w2 ⟨rfl, f2, g2⟩
  have r2 := r1.beside g2 (fun _ e => by cases e; exact Nat.le_refl _)
  have t2 := grown_new g1 g2 (fun _ e => by cases e; exact Nat.le_refl _)
  clear f1 r1 g1 g2 hnx
  go_wp2_with fail
  refine (hdu _ _ w2 f2 r2).mono ?_
  rintro e w3 ⟨u3, rfl, o3, f3, g3⟩
  have o3' : OwI w.heap.size w3 u3 us := row_base t2.size o3
  have t3 := grown_new t2 g3 (fun _ e => by cases e; exact Nat.le_refl _)
  have s3 := t3.size
  clear f2 r2 t2 g3 o3 f3 hdu
  by_cases k0 : k = 250
  · have HE : Hid (dfu zs = us ++ [-1]) := by unfold Hid; rw [HDF.out]; unfold tailed; rw [if_pos k0]
    have q0 : (k == 250) = true := by simp [k0]
    have q1 : (k == 251) = false := by simp; omega
    clear k0 HDF
    go_wp2_with (at_builtin; refine wpList_append_own _ rfl _ _ 23 rfl w.heap.size 3 i0 (.int .i64 0) 1 8 Tryd.underlying23 hi0 hz0 hz1 hz2 rfl (by decide) _ _ _ rfl (World.ownsRow.alloc o3' _) ⟨w3.heap.size, 0, none⟩ 1 1 [.int .i64 (-1)] rfl rfl (cell_one_new _ _ _) (by intro u hu; simp at hu; subst hu; rfl) (by unfold maxLen; omega) (by omega) (by simp; omega) ?_; intro v' w4 hown' hgrow _)
    have R := own_app (xs := [-1]) _ s3 o3' hown' (by simp) hgrow
    clear hown' hgrow o3'
    go_wp2
    go_ret
    exact ⟨_, rfl, by rw [HE.out]; exact R.1, grown_of_below ((below_of_grown t3).trans R.2)⟩
  · by_cases k1 : k = 251
    · have HE : Hid (dfu zs = us ++ [65536]) := by unfold Hid; rw [HDF.out]; unfold tailed; rw [if_neg k0, if_pos k1]
      have q0 : (k == 250) = false := by simp [k0]
      have q1 : (k == 251) = true := by simp [k1]
      clear k0 k1 HDF
      go_wp2_with (at_builtin; refine wpList_append_own _ rfl _ _ 23 rfl w.heap.size 3 i0 (.int .i64 0) 1 8 Tryd.underlying23 hi0 hz0 hz1 hz2 rfl (by decide) _ _ _ rfl (World.ownsRow.alloc o3' _) ⟨w3.heap.size, 0, none⟩ 1 1 [.int .i64 65536] rfl rfl (cell_one_new _ _ _) (by intro u hu; simp at hu; subst hu; rfl) (by unfold maxLen; omega) (by omega) (by simp; omega) ?_; intro v' w4 hown' hgrow _)
      have R := own_app (xs := [65536]) _ s3 o3' hown' (by simp) hgrow
      clear hown' hgrow o3'
      go_wp2
      go_ret
      exact ⟨_, rfl, by rw [HE.out]; exact R.1, grown_of_below ((below_of_grown t3).trans R.2)⟩
    · have HE : Hid (dfu zs = us) := by unfold Hid; rw [HDF.out]; unfold tailed; rw [if_neg k0, if_neg k1]
      have q0 : (k == 250) = false := by simp [k0]
      have q1 : (k == 251) = false := by simp [k1]
      clear k0 k1 HDF
      go_wp2
      go_ret
      exact ⟨_, rfl, by rw [HE.out]; exact o3', t3⟩

set_option maxHeartbeats 2000000 in
set_option maxRecDepth 100000 in
theorem drawEncodeText_any (a : Option Addr) (cap : Nat) (zs : List Int) (w : World) (hv : RdB w.heap.size w (.slice a zs.length cap) zs) (hby : Bys zs) (hm : zs.length ≤ 1048576) (hlc : zs.length ≤ cap) (hcm : cap ≤ 9223372036854775807) :
    Calls Tryd.prog 9 #[.slice a zs.length cap] w fun e w' => ∃ v', e = .returned v' ∧ OwI w.heap.size w' v' (det zs) ∧ w.grownBy w' none := by
  obtain ⟨i0, hi0, hz0, hz1, hz2⟩ := info_parts info3
  have HO := fun o => open_rdr hv o
  have hb5 := take_bys hby 500
  have hl5 : (zs.take 500).length ≤ 4194304 := by rw [List.length_take]; omega
  have HDF : Hid (det zs = tailed (nx (zs.take 500) 0).1 1114112 (dps (zs.take 500) (decide ((nx (zs.take 500) 0).1 % 4 = 0)) 12 (nx (zs.take 500) 0).2).1) := rfl
  have hkb := nx_bd hb5 0
  have hjl := nx_le (zs := zs.take 500) (Nat.zero_le _)
  have hnx := fun F v W hF hv => next_any F v (zs.take 500) 0 W hF hv hb5 hl5 (Nat.zero_le _)
  have hdu := fun F v W hF hv => drawPoints_any F v (zs.take 500) (nx (zs.take 500) 0).2 (decide ((nx (zs.take 500) 0).1 % 4 = 0)) W hF hv hb5 hl5 hjl
  have hul' := dps_len (sur := decide ((nx (zs.take 500) 0).1 % 4 = 0)) hb5 hjl
  have hsb : ((nx (zs.take 500) 0).1 % 4 == 0) = decide ((nx (zs.take 500) 0).1 % 4 = 0) := by
    rw [Bool.eq_iff_iff]; simp
  generalize (decide ((nx (zs.take 500) 0).1 % 4 = 0)) = sur at HDF hdu hul' hsb
  generalize (nx (zs.take 500) 0).1 = k at hkb HDF hnx hsb
  generalize (nx (zs.take 500) 0).2 = j at HDF hnx hdu hul'
  generalize zs.take 500 = rs at HO hb5 hl5 HDF hnx hdu hul'
  generalize (dps rs sur 12 j).1 = us at HDF hdu hul'
  obtain ⟨hk0, hk1⟩ := hkb
  clear hjl hv
  go_enter Tryd.func9, Tryd.ntmps9
  go_wp2_with fail
  refine (l1open_any a cap zs w hm hlc hcm).mono ?_
  rintro e w1 ⟨rfl, hw1⟩
  have f1 : Rdr w.heap.size w1 (.slice a (min 500 zs.length) cap) 0 := by rw [← hw1]; exact heap_alloc_new w _
  have r1 : RdB w.heap.size w1 (.slice a (min 500 zs.length) cap) rs := by rw [← hw1]; exact HO _
  have g1 : w.grownBy w1 none := by rw [← hw1]; exact World.grownBy_alloc _ _ _
  clear hw1 HO
  go_wp2_with fail
  refine (hnx _ _ w1 f1 r1).mono ?_
  rintro e w2 ⟨rfl, f2, g2⟩
  have r2 := r1.beside g2 (fun _ e => by cases e; exact Nat.le_refl _)
  have t2 := grown_new g1 g2 (fun _ e => by cases e; exact Nat.le_refl _)
  clear f1 r1 g1 g2 hnx
  go_wp2_with fail
  refine (hdu _ _ w2 f2 r2).mono ?_
  rintro e w3 ⟨u3, rfl, o3, f3, g3⟩
  have o3' : OwI w.heap.size w3 u3 us := row_base t2.size o3
  have t3 := grown_new t2 g3 (fun _ e => by cases e; exact Nat.le_refl _)
  have s3 := t3.size
  clear f2 r2 t2 g3 o3 f3 hdu
  by_cases k0 : k = 250
  · have HE : Hid (det zs = us ++ [-1]) := by unfold Hid; rw [HDF.out]; unfold tailed; rw [if_pos k0]
    have q0 : (k == 250) = true := by simp [k0]
    have q1 : (k == 251) = false := by simp; omega
    clear k0 HDF
    go_wp2_with (at_builtin; refine wpList_append_own _ rfl _ _ 23 rfl w.heap.size 3 i0 (.int .i64 0) 1 8 Tryd.underlying23 hi0 hz0 hz1 hz2 rfl (by decide) _ _ _ rfl (World.ownsRow.alloc o3' _) ⟨w3.heap.size, 0, none⟩ 1 1 [.int .i64 (-1)] rfl rfl (cell_one_new _ _ _) (by intro u hu; simp at hu; subst hu; rfl) (by unfold maxLen; omega) (by omega) (by simp; omega) ?_; intro v' w4 hown' hgrow _)
    have R := own_app (xs := [-1]) _ s3 o3' hown' (by simp) hgrow
    clear hown' hgrow o3'
    go_wp2
    go_ret
    exact ⟨_, rfl, by rw [HE.out]; exact R.1, grown_of_below ((below_of_grown t3).trans R.2)⟩
  · by_cases k1 : k = 251
    · have HE : Hid (det zs = us ++ [1114112]) := by unfold Hid; rw [HDF.out]; unfold tailed; rw [if_neg k0, if_pos k1]
      have q0 : (k == 250) = false := by simp [k0]
      have q1 : (k == 251) = true := by simp [k1]
      clear k0 k1 HDF
      go_wp2_with (at_builtin; refine wpList_append_own _ rfl _ _ 23 rfl w.heap.size 3 i0 (.int .i64 0) 1 8 Tryd.underlying23 hi0 hz0 hz1 hz2 rfl (by decide) _ _ _ rfl (World.ownsRow.alloc o3' _) ⟨w3.heap.size, 0, none⟩ 1 1 [.int .i64 1114112] rfl rfl (cell_one_new _ _ _) (by intro u hu; simp at hu; subst hu; rfl) (by unfold maxLen; omega) (by omega) (by simp; omega) ?_; intro v' w4 hown' hgrow _)
      have R := own_app (xs := [1114112]) _ s3 o3' hown' (by simp) hgrow
      clear hown' hgrow o3'
      go_wp2
      go_ret
      exact ⟨_, rfl, by rw [HE.out]; exact R.1, grown_of_below ((below_of_grown t3).trans R.2)⟩
    · have HE : Hid (det zs = us) := by unfold Hid; rw [HDF.out]; unfold tailed; rw [if_neg k0, if_neg k1]
      have q0 : (k == 250) = false := by simp [k0]
      have q1 : (k == 251) = false := by simp [k1]
      clear k0 k1 HDF
      go_wp2
      go_ret
      exact ⟨_, rfl, by rw [HE.out]; exact o3', t3⟩

end Go.Proofs.YtdcajkgmhimffabDoor
