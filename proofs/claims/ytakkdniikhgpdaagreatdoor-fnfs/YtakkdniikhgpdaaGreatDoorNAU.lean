import Derived.Lib.BytesEntry
import Derived.Lib.Bytealg
import Derived.LaidEql
import Derived.Stop.Asserts
import Derived.RowKitTokens
import Derived.Test.YtakkdniikhgpdaaGreatDoorMAG
import Derived.Test.YtakkdniikhgpdaaGreatDoorNAR
import Derived.Test.YtakkdniikhgpdaaGreatDoorNAS
import Derived.Test.YtakkdniikhgpdaaGreatDoorNAT
namespace Go.Proofs.YtakkdniikhgpdaaGreatDoor
open Go.RowKit

set_option maxHeartbeats 4000000 in
set_option maxRecDepth 100000 in
theorem drawDecodeText_even (a : Option Addr) (cap : Nat) (zs : List Int) (w : World) (hv : RdB w.heap.size w (.slice a zs.length cap) zs) (hby : Bys zs) (hm : zs.length ≤ 1048576) (hlc : zs.length ≤ cap) (hcm : cap ≤ 9223372036854775807)
    (k2 : ¬ (nx (zs.take 500) 0).1 % 6 = 2) :
    Calls Tryz.prog 19 #[.slice a zs.length cap] w fun e w' => ∃ v', e = .returned v' ∧ OwB w.heap.size w' v' (ddt zs) ∧ w.grownBy w' none := by
  obtain ⟨i0, hi0, hz0, hz1, hz2⟩ := info_parts info5
  have HO := fun o => open_rdr hv o
  have hb5 := take_bys hby 500
  have hl5 : (zs.take 500).length ≤ 4194304 := by rw [List.length_take]; omega
  have HDF : Hid (ddt zs = ddtV (zs.take 500) (nx (zs.take 500) 0).1 (encR (dps (zs.take 500) false 12 (nx (zs.take 500) 0).2).1).1 (dps (zs.take 500) false 12 (nx (zs.take 500) 0).2).2) := rfl
  have hkb := nx_bd hb5 0
  have hjl := nx_le (zs := zs.take 500) (Nat.zero_le _)
  have hnx := fun F v W hF hv => next_any F v (zs.take 500) 0 W hF hv hb5 hl5 (Nat.zero_le _)
  have hdu := fun F v W hF hv => drawPoints_any F v (zs.take 500) (nx (zs.take 500) 0).2 false W hF hv hb5 hl5 hjl
  have hul' := dps_len (sur := false) hb5 hjl
  have hil : (dps (zs.take 500) false 12 (nx (zs.take 500) 0).2).2 ≤ (zs.take 500).length := (dpsN_le (sur := false) (nx_le hjl) _).1
  generalize (nx (zs.take 500) 0).1 = k at hkb HDF hnx k2
  generalize (nx (zs.take 500) 0).2 = j at HDF hnx hdu hul' hil
  generalize zs.take 500 = rs at HO hb5 hl5 HDF hnx hdu hul' hil
  generalize (dps rs false 12 j).1 = us at HDF hdu hul'
  generalize (dps rs false 12 j).2 = i2 at HDF hdu hil
  obtain ⟨hk0, hk1⟩ := hkb
  clear hjl hv
  go_enter Tryz.func19, Tryz.ntmps19
  go_wp2_with fail
  refine (l1open_any a cap zs w hm hlc hcm).mono ?_
  rintro e w1 ⟨rfl, hw1⟩
  have f1 : Rdr w.heap.size w1 (.slice a (min 500 zs.length) cap) 0 := by rw [← hw1]; exact heap_alloc_new w _
  have r1 : RdB w.heap.size w1 (.slice a (min 500 zs.length) cap) rs := by rw [← hw1]; exact HO _
  have g1 : w.grownBy w1 none := by rw [← hw1]; exact World.grownBy_alloc _ _ _
  have hs1 : w.heap.size < w1.heap.size := f1.lt
  clear hw1 HO
  go_wp2_with fail
  refine (hnx _ _ w1 f1 r1).mono ?_
  rintro e w2 ⟨rfl, f2, g2⟩
  have r2 := r1.beside g2 (fun _ e => by cases e; exact Nat.le_refl _)
  have t2 := grown_new g1 g2 (fun _ e => by cases e; exact Nat.le_refl _)
  clear f1 r1 g1 g2 hnx
  go_wp2_with fail
  refine (hdu _ _ w2 f2 r2).mono ?_
  rintro e w3 ⟨u3, rfl, o3, f3, g3⟩
  have r3 := r2.beside g3 (fun _ e => by cases e; exact Nat.le_refl _)
  have t3 := grown_new t2 g3 (fun _ e => by cases e; exact Nat.le_refl _)
  have hf3 := f3.lt
  clear f2 r2 t2 g3 hdu
  go_wp2_with fail
  refine (specEncodeText_any u3 us w3 o3.rd (by omega)).mono ?_
  rintro e w4 ⟨u4, rfl, o4, g4⟩
  have r4 := r3.keep g4
  have t4 := grown_trans t3 g4
  have f4 := f3.kept g4 (by simp)
  have hel := encR_len us
  have hbb := encR_bys us
  have s3 := t3.size
  generalize (encR us).1 = b at o4 HDF hel hbb
  clear f3 r3 t3 g4 o3
  by_cases k0 : k % 3 = 0
  · have q0 : (k % 3 == 0) = true := by simp [k0]
    have q1 : (k % 3 == 1) = false := by simp; omega
    have q2 : (k % 6 == 2) = false := by simp; omega
    by_cases hbn : b = []
    · have HE : Hid (ddt zs = b) := by unfold Hid; rw [HDF.out]; unfold ddtV; rw [if_pos k0, if_pos hbn]
      obtain ⟨a4, cap4, hu4, _⟩ := o4.rd
      have o4' : OwB w.heap.size w4 u4 b := row_base (by omega) o4
      rw [hbn] at hu4
      simp only [List.length_nil] at hu4
      rw [hu4] at o4' ⊢
      clear k0 HDF hu4 o4 hbn
      go_wp2
      go_ret
      exact ⟨_, rfl, by rw [HE.out]; exact o4', t4⟩
    · have hbp : 0 < b.length := List.length_pos_iff.2 hbn
      obtain ⟨g, cap4, hu4, hgB, hnc, hcm4⟩ := row_shape o4 hbp
      have hn1 := next_any w.heap.size _ rs i2 w4 f4 r4 hb5 hl5 hil
      have hi3 := nx_le hil
      have hx := nx_bd hb5 i2
      have hn2 := fun W hF hv => next_any w.heap.size (.slice a (min 500 zs.length) cap) rs (nx rs i2).2 W hF hv hb5 hl5 hi3
      have hz := nx_bd hb5 (nx rs i2).2
      have HE : Hid (ddt zs = b.set ((nx rs i2).1 % (b.length : Int)).toNat (nx rs (nx rs i2).2).1) := by unfold Hid; rw [HDF.out]; unfold ddtV; rw [if_pos k0, if_neg hbn]
      generalize (nx rs (nx rs i2).2).1 = z at hn2 hz HE
      generalize (nx rs i2).1 = x at hn1 hx HE
      obtain ⟨m, hm⟩ : ∃ m : Nat, x % (b.length : Int) = (m : Int) := ⟨(x % (b.length : Int)).toNat, by have := Int.emod_nonneg x (show (b.length : Int) ≠ 0 by omega); omega⟩
      have hml : m < b.length := by have := Int.emod_lt_of_pos x (show (0 : Int) < (b.length : Int) by omega); omega
      rw [hm, Int.toNat_natCast] at HE
      have hbp' : (0 : Int) < (b.length : Int) := by omega
      have hzm : z % 256 = z := by omega
      obtain ⟨hx0, hx1⟩ := hx
      rw [hu4] at o4 ⊢
      clear k0 HDF hu4 hbn hz
      go_wp2_with fail
      refine hn1.mono ?_
      rintro e w5 ⟨rfl, f5, g5⟩
      have r5 := r4.beside g5 (fun _ e => by cases e; exact Nat.le_refl _)
      have o5 := World.ownsRow.kept o4 g5 (.inr fun e => by simp [Value.ownBlock] at e; omega)
      have t5 := grown_new t4 g5 (fun _ e => by cases e; exact Nat.le_refl _)
      have hn2' := hn2 w5 f5 r5
      clear f4 r4 o4 t4 g5 hn1 hn2
      go_wp2_with fail
      refine hn2'.mono ?_
      rintro e w6 ⟨rfl, f6, g6⟩
      have o6 := World.ownsRow.kept o5 g6 (.inr fun e => by simp [Value.ownBlock] at e; omega)
      have t6 := grown_new t5 g6 (fun _ e => by cases e; exact Nat.le_refl _)
      have hoc : w6.cell? ⟨g, m, none⟩ = some (.int .u8 (b[m]?.getD 0)) := by rw [World.ownsRow.cellAt o6 m (by omega)]; simp [hml]
      have hof := World.ownsRow.frozenAt o6 m
      have hst := World.ownsRow.stored o6 m (.int .u8 z)
      rw [set_map] at hst
      have o7 : OwB w.heap.size (w6.setCell ⟨g, m, none⟩ (.int .u8 z)) (.slice (some ⟨g, 0, none⟩) b.length cap4) (b.set m z) := by
        unfold OwB Ow; rw [List.length_set]; exact row_base (by omega) hst.1
      have t7 := grown_new t6 hst.2 (fun _ e => by cases e; omega)
      generalize b[m]?.getD 0 = y at hoc
      clear o5 t5 g6 hn2' o6 t6 hst f5 r5 f6
      go_wp2
      go_ret
      exact ⟨_, rfl, by rw [HE.out]; exact o7, t7⟩
  · by_cases k1 : k % 3 = 1
    · have q0 : (k % 3 == 0) = false := by simp [k0]
      have q1 : (k % 3 == 1) = true := by simp [k1]
      have q2 : (k % 6 == 2) = false := by simp; omega
      by_cases hbn : b = []
      · have HE : Hid (ddt zs = b) := by unfold Hid; rw [HDF.out]; unfold ddtV; rw [if_neg k0, if_pos k1, if_pos hbn]
        obtain ⟨a4, cap4, hu4, _⟩ := o4.rd
        have o4' : OwB w.heap.size w4 u4 b := row_base (by omega) o4
        rw [hbn] at hu4
        simp only [List.length_nil] at hu4
        rw [hu4] at o4' ⊢
        clear k0 k1 HDF hu4 o4 hbn
        go_wp2
        go_ret
        exact ⟨_, rfl, by rw [HE.out]; exact o4', t4⟩
      · have hbp : 0 < b.length := List.length_pos_iff.2 hbn
        obtain ⟨g, cap4, hu4, hgB, hnc, hcm4⟩ := row_shape o4 hbp
        unfold maxLen at hcm4
        have hn1 := next_any w.heap.size _ rs i2 w4 f4 r4 hb5 hl5 hil
        have hx := nx_bd hb5 i2
        have HE : Hid (ddt zs = b.take ((nx rs i2).1 % (b.length : Int)).toNat) := by unfold Hid; rw [HDF.out]; unfold ddtV; rw [if_neg k0, if_pos k1, if_neg hbn]
        generalize (nx rs i2).1 = x at hn1 hx HE
        obtain ⟨m, hm⟩ : ∃ m : Nat, x % (b.length : Int) = (m : Int) := ⟨(x % (b.length : Int)).toNat, by have := Int.emod_nonneg x (show (b.length : Int) ≠ 0 by omega); omega⟩
        have hml : m < b.length := by have := Int.emod_lt_of_pos x (show (0 : Int) < (b.length : Int) by omega); omega
        rw [hm, Int.toNat_natCast] at HE
        have hbp' : (0 : Int) < (b.length : Int) := by omega
        obtain ⟨hx0, hx1⟩ := hx
        rw [hu4] at o4 ⊢
        clear k0 k1 HDF hu4 hbn
        go_wp2_with fail
        refine hn1.mono ?_
        rintro e w5 ⟨rfl, f5, g5⟩
        have o5 := World.ownsRow.kept o4 g5 (.inr fun e => by simp [Value.ownBlock] at e; omega)
        have t5 := grown_new t4 g5 (fun _ e => by cases e; exact Nat.le_refl _)
        have o6 : OwB w.heap.size w5 (.slice (some ⟨g, 0, none⟩) m cap4) (b.take m) := by
          have h := row_take o5 m (by omega)
          unfold OwB Ow
          rw [List.length_take_of_le (by omega), List.map_take]
          exact row_base (by omega) h
        clear f4 r4 o4 t4 g5 hn1 o5 f5
        go_wp2
        go_ret
        exact ⟨_, rfl, by rw [HE.out]; exact o6, t5⟩
    · have q0 : (k % 3 == 0) = false := by simp [k0]
      have q1 : (k % 3 == 1) = false := by simp [k1]
      have q2 : (k % 6 == 2) = false := by simp [k2]
      have HE : Hid (ddt zs = b) := by unfold Hid; rw [HDF.out]; unfold ddtV; rw [if_neg k0, if_neg k1, if_neg k2]
      have o4' : OwB w.heap.size w4 u4 b := row_base (by omega) o4
      clear k0 k1 k2 HDF o4
      go_wp2
      go_ret
      exact ⟨_, rfl, by rw [HE.out]; exact o4', t4⟩

theorem drawDecodeText_any (a : Option Addr) (cap : Nat) (zs : List Int) (w : World) (hv : RdB w.heap.size w (.slice a zs.length cap) zs) (hby : Bys zs) (hm : zs.length ≤ 1048576) (hlc : zs.length ≤ cap) (hcm : cap ≤ 9223372036854775807) :
    Calls Tryz.prog 19 #[.slice a zs.length cap] w fun e w' => ∃ v', e = .returned v' ∧ OwB w.heap.size w' v' (ddt zs) ∧ w.grownBy w' none := by
  by_cases k2 : (nx (zs.take 500) 0).1 % 6 = 2
  · have hb := nx_bd (take_bys hby 500) 0
    rcases (show (nx (zs.take 500) 0).1 / 6 % 12 = 0 ∨ (nx (zs.take 500) 0).1 / 6 % 12 = 1 ∨ (nx (zs.take 500) 0).1 / 6 % 12 = 2 ∨ (nx (zs.take 500) 0).1 / 6 % 12 = 3 ∨ (nx (zs.take 500) 0).1 / 6 % 12 = 4 ∨ (nx (zs.take 500) 0).1 / 6 % 12 = 5 ∨ (nx (zs.take 500) 0).1 / 6 % 12 = 6 ∨ (nx (zs.take 500) 0).1 / 6 % 12 = 7 ∨ (nx (zs.take 500) 0).1 / 6 % 12 = 8 ∨ (nx (zs.take 500) 0).1 / 6 % 12 = 9 ∨ (nx (zs.take 500) 0).1 / 6 % 12 = 10 ∨ (nx (zs.take 500) 0).1 / 6 % 12 = 11 by omega) with hj | hj | hj | hj | hj | hj | hj | hj | hj | hj | hj | hj
    · exact drawOdd0 a cap zs w hv hby hm hlc hcm k2 hj
    · exact drawOdd1 a cap zs w hv hby hm hlc hcm k2 hj
    · exact drawOdd2 a cap zs w hv hby hm hlc hcm k2 hj
    · exact drawOdd3 a cap zs w hv hby hm hlc hcm k2 hj
    · exact drawOdd4 a cap zs w hv hby hm hlc hcm k2 hj
    · exact drawOdd5 a cap zs w hv hby hm hlc hcm k2 hj
    · exact drawOdd6 a cap zs w hv hby hm hlc hcm k2 hj
    · exact drawOdd7 a cap zs w hv hby hm hlc hcm k2 hj
    · exact drawOdd8 a cap zs w hv hby hm hlc hcm k2 hj
    · exact drawOdd9 a cap zs w hv hby hm hlc hcm k2 hj
    · exact drawOdd10 a cap zs w hv hby hm hlc hcm k2 hj
    · exact drawOdd11 a cap zs w hv hby hm hlc hcm k2 hj
  · exact drawDecodeText_even a cap zs w hv hby hm hlc hcm k2

end Go.Proofs.YtakkdniikhgpdaaGreatDoor

namespace Go.Proofs.YtakkdniikhgpdaaGreatDoor
open Go.RowKit

/-- Two names held against one another. -/
def cmpB : List Int → List Int → Int
  | [], [] => 0
  | [], _ :: _ => -1
  | _ :: _, [] => 1
  | a :: x, b :: y => if a < b then -1 else if b < a then 1 else cmpB x y

theorem cmpB_bytes : ∀ (xs ys : List Int), Byt xs → Byt ys → Lib.compareBytes (xs.map fun n => UInt8.ofNat n.toNat) (ys.map fun n => UInt8.ofNat n.toNat) = cmpB xs ys
  | [], [], _, _ => rfl
  | [], _ :: _, _, _ => rfl
  | _ :: _, [], _, _ => rfl
  | a :: x, b :: y, hx, hy => by
    have ha := hx a (by simp)
    have hb := hy b (by simp)
    have ih := cmpB_bytes x y (fun z hz => hx z (by simp [hz])) (fun z hz => hy z (by simp [hz]))
    have h1 : (UInt8.ofNat a.toNat < UInt8.ofNat b.toNat) ↔ a < b := by
      rw [UInt8.lt_iff_toNat_lt]
      simp only [UInt8.toNat_ofNat']
      omega
    have h2 : (UInt8.ofNat b.toNat < UInt8.ofNat a.toNat) ↔ b < a := by
      rw [UInt8.lt_iff_toNat_lt]
      simp only [UInt8.toNat_ofNat']
      omega
    simp only [List.map_cons, Lib.compareBytes, cmpB, ih, h1, h2]
theorem cmpB_lt : ∀ (xs ys : List Int), cmpB xs ys < 0 ↔ ltB xs ys = true
  | [], [] => by simp [cmpB, ltB]
  | [], _ :: _ => by simp [cmpB, ltB]
  | _ :: _, [] => by simp [cmpB, ltB]
  | a :: x, b :: y => by
    have ih := cmpB_lt x y
    simp only [cmpB, ltB]
    by_cases h : a < b
    · simp [h]
    · by_cases h2 : b < a
      · simp [h, h2, show a ≠ b by omega]
      · have : a = b := by omega
        subst this
        simp [ih]
theorem cmpB_eq : ∀ (xs ys : List Int), cmpB xs ys = 0 ↔ xs = ys
  | [], [] => by simp [cmpB]
  | [], _ :: _ => by simp [cmpB]
  | _ :: _, [] => by simp [cmpB]
  | a :: x, b :: y => by
    have ih := cmpB_eq x y
    simp only [cmpB]
    by_cases h : a < b
    · simp [h]; intro e; omega
    · by_cases h2 : b < a
      · simp [h, h2]; intro e; omega
      · have : a = b := by omega
        subst this
        simp [ih]

theorem run_bytesRd {B : Nat} {w : World} {v : Value} {xs : List Int} (h : RdB B w v xs) : (Extern.Bytes.bytesOf v).run Tryz.prog w = .ok ⟨(xs.map fun n => UInt8.ofNat n.toNat).toArray⟩ w := by
  obtain ⟨a, cap, rfl, hr⟩ := h
  by_cases hx : xs = []
  · subst hx
    cases a with
    | none => rfl
    | some x => rfl
  · obtain ⟨b, off, rfl, hb, hc⟩ := hr hx
    have hl := Lib.run_loadBytesX (P := Tryz.prog) w xs ⟨b, off, none⟩ .empty (fun j x hj => by
      have hj' := (List.getElem?_eq_some_iff.1 hj).1
      have := hc j hj'
      rw [hj] at this
      rw [Addr.add_lit]
      exact this)
    simp only [Extern.Bytes.bytesOf]
    rw [hl]
    have e : ByteArray.empty.data = #[] := rfl
    rw [e]
    simp only [Array.empty_append]
    rfl

theorem run_compareRd {B B' : Nat} {w : World} {v v' : Value} {xs ys : List Int} (h : RdB B w v xs) (h' : RdB B' w v' ys) (hx : Byt xs) (hy : Byt ys) : (Extern.BytealgCompare.compare #[v, v']).run Tryz.prog w = .ok (.int .i64 (cmpB xs ys)) w := by
  change Sem.run Tryz.prog (do pure (goInt (Extern.BytealgCompare.cmp (← Extern.Bytes.bytesOf v) (← Extern.Bytes.bytesOf v')))) w = _
  simp only [Sem.run_bind, run_bytesRd h, run_bytesRd h', Sem.run_pure, Result.andThen]
  rw [Lib.cmp_eq, ← cmpB_bytes xs ys hx hy]
  rfl

set_option maxHeartbeats 1000000 in
set_option maxRecDepth 100000 in
theorem bytesCompare_any (v v' : Value) (xs ys : List Int) (w : World) (h : RdB w.heap.size w v xs) (h' : RdB w.heap.size w v' ys) (hx : Byt xs) (hy : Byt ys) :
    Calls Tryz.prog 57 #[v, v'] w fun e w' => e = .returned (.int .i64 (cmpB xs ys)) ∧ w = w' := by
  have HR := hide (run_compareRd h h' hx hy)
  obtain ⟨a, cap, rfl, _⟩ := h
  obtain ⟨a', cap', rfl, _⟩ := h'
  go_enter Tryz.func57, Tryz.ntmps57
  go_wp2
  rw [run_callFunc_extern Tryz.func65 (by kernel_rfl) (by kernel_rfl) (by kernel_rfl) (e := Extern.BytealgCompare.compare) (by kernel_rfl), HR.out]
  simp only [Result.andThen]
  rw [Oper.upon_value]
  go_wp2
  go_ret
  exact ⟨rfl, rfl⟩

set_option maxHeartbeats 1000000 in
theorem compareName_any (nv dv v' : Value) (s : Int) (xs ys : List Int) (w : World) (h : RdB w.heap.size w nv xs) (sn : Sl nv xs.length) (h' : RdB w.heap.size w v' ys) (hx : Byt xs) (hy : Byt ys) :
    Calls Tryz.prog 47 #[.agg #[nv, dv, .int .i64 s], v'] w fun e w' => e = .returned (.int .i64 (cmpB xs ys)) ∧ w.grownBy w' none := by
  have HC := hide (fun w' (g : w.grownBy w' none) => bytesCompare_any nv v' xs ys w' ((h.keep g).wideF g.size) ((h'.keep g).wideF g.size) hx hy)
  obtain ⟨a, cap, rfl, _, _⟩ := sn
  obtain ⟨a', cap', rfl, _⟩ := h'
  clear h
  go_enter Tryz.func47, Tryz.ntmps47
  go_wp2_with fail
  first
  | refine (HC.out _ (World.grownBy_alloc _ _ _)).mono ?_
  | refine (HC.out _ (World.grownBy.refl _ _)).mono ?_
  rintro e w1 ⟨rfl, rfl⟩
  go_wp2
  go_ret
  exact ⟨rfl, by first | exact World.grownBy_alloc _ _ _ | exact World.grownBy.refl _ _⟩

end Go.Proofs.YtakkdniikhgpdaaGreatDoor

namespace Go.Proofs.YtakkdniikhgpdaaGreatDoor
open Go.RowKit Go.Extern.Stop Go.Stop Go.Extern

/-- An error of errors.New's make. -/
abbrev Er (a : Addr) : Value := .iface 159 (.pointer (some a))

theorem tyEr (v : Value) (w : World) : (Extern.ReflectliteType.typeOf #[.iface 159 v]).run Tryz.prog w = .ok (.iface 107 (.agg #[.pointer (some ⟨4, 159, none⟩)])) w := by kernel_rfl
/-- What answers for the method Comparable. -/
def cmpEntry : Array Value → Sem Value := Extern.ReflectliteType.method fun t => do Go.Extern.Rtype.noPackHeld "Comparable" t; pure (.bool (← typeInfo t).comparable)
theorem cmEr (w : World) : (cmpEntry #[.agg #[.pointer (some ⟨4, 159, none⟩)]]).run Tryz.prog w = .ok (.bool true) w := by kernel_rfl
theorem meEr (v : Value) (w : World) : (Go.method 303 107 v "Comparable").run Tryz.prog w = .ok (135, v) w := by kernel_rfl
theorem coEr : (Tryz.prog.info? 159).map (·.comparable) = some true := by kernel_rfl
theorem szEr : (Tryz.prog.info? 191).map (·.size) = some 1 := by kernel_rfl
theorem noIs (v : Value) (xT : TypeId) (w : World) : (Instr.typeAssert (.iface 159 v) xT 109 true).run Tryz.prog w = .ok (.tuple #[.nilIface, .bool false]) w := run_typeAssert_lacksB Tryz.underlying109 (by kernel_rfl) (by kernel_rfl) v xT w
theorem noUn (v : Value) (xT : TypeId) (w : World) : (Instr.typeAssert (.iface 159 v) xT 112 true).run Tryz.prog w = .ok (.tuple #[.nilIface, .bool false]) w := run_typeAssert_lacksB Tryz.underlying112 (by kernel_rfl) (by kernel_rfl) v xT w
theorem noUs (v : Value) (xT : TypeId) (w : World) : (Instr.typeAssert (.iface 159 v) xT 114 true).run Tryz.prog w = .ok (.tuple #[.nilIface, .bool false]) w := run_typeAssert_lacksB Tryz.underlying114 (by kernel_rfl) (by kernel_rfl) v xT w

theorem is_it (a : Addr) (w : World) : Calls Tryz.prog 51 #[Er a, Er a] w fun e w' => e = .returned (.bool true) ∧ w = w' := by
  obtain ⟨i, hi, hcmp⟩ := Option.map_eq_some_iff.1 coEr
  obtain ⟨j, hj, hjs⟩ := Option.map_eq_some_iff.1 szEr
  have h8 := @run_callFunc_extern Tryz.prog 59 _ Extern.ReflectliteType.typeOf Tryz.func59 (by kernel_rfl) (by kernel_rfl) (by kernel_rfl) (by kernel_rfl)
  have h32 := @run_callFunc_extern Tryz.prog 135 _ cmpEntry Tryz.func135 (by kernel_rfl) (by kernel_rfl) (by kernel_rfl) (by kernel_rfl)
  have tT := tyEr
  have cT := cmEr
  have mR := meEr
  have heq := run_eql_iface_ptr_same (P := Tryz.prog) w a Tryz.underlying54 Tryz.underlying159 hi hcmp hj
  go_enter Tryz.func51, Tryz.ntmps51
  go_wp2
  refine wp_loop_rounds 1 ?_
  rw [rounds_succ]
  go_wp2
  go_ret
  exact ⟨rfl, rfl⟩

theorem is_not (a b : Addr) (ca cb : Array Value) (ta tb : TypeId) (w : World) (hne : a ≠ b) (ha : w.heap[a.block]? = some (.cells ca ta (0, 0))) (hb : w.heap[b.block]? = some (.cells cb tb (0, 0))) :
    Calls Tryz.prog 51 #[Er a, Er b] w fun e w' => e = .returned (.bool false) ∧ w = w' := by
  obtain ⟨i, hi, hcmp⟩ := Option.map_eq_some_iff.1 coEr
  obtain ⟨j, hj, hjs⟩ := Option.map_eq_some_iff.1 szEr
  have h8 := @run_callFunc_extern Tryz.prog 59 _ Extern.ReflectliteType.typeOf Tryz.func59 (by kernel_rfl) (by kernel_rfl) (by kernel_rfl) (by kernel_rfl)
  have h32 := @run_callFunc_extern Tryz.prog 135 _ cmpEntry Tryz.func135 (by kernel_rfl) (by kernel_rfl) (by kernel_rfl) (by kernel_rfl)
  have tT := tyEr
  have cT := cmEr
  have mR := meEr
  have nE := noIs
  have uE := noUn
  have vE := noUs
  have heq := run_eql_iface_ptr_other (P := Tryz.prog) w Tryz.underlying54 Tryz.underlying159 hi hcmp hj (by rw [hjs]; decide) hne ha hb
  go_enter Tryz.func51, Tryz.ntmps51
  go_wp2
  refine wp_loop_rounds 1 ?_
  rw [rounds_succ]
  go_wp2
  go_ret
  exact ⟨rfl, rfl⟩

/-- The three errors of the file systems lie in their variables. -/
structure Errs (w : World) (a0 a1 a2 : Addr) : Prop where
  g0 : w.cell? ⟨0, 0, none⟩ = some (Er a0)
  g1 : w.cell? ⟨1, 0, none⟩ = some (Er a1)
  g2 : w.cell? ⟨2, 0, none⟩ = some (Er a2)
  n01 : a0 ≠ a1
  n02 : a0 ≠ a2
  n12 : a1 ≠ a2
  b0 : ∃ c t, w.heap[a0.block]? = some (.cells c t (0, 0))
  b1 : ∃ c t, w.heap[a1.block]? = some (.cells c t (0, 0))
  b2 : ∃ c t, w.heap[a2.block]? = some (.cells c t (0, 0))

theorem heap_lt {w : World} {b : Nat} {o : Obj} (h : w.heap[b]? = some o) : b < w.heap.size := (Array.getElem?_eq_some_iff.1 h).1
theorem Errs.below {w w' : World} {a0 a1 a2 : Addr} (h : Errs w a0 a1 a2) (hb : Below w.heap.size w w') : Errs w' a0 a1 a2 := by
  have cell : ∀ (g : Nat) (v : Value), w.cell? ⟨g, 0, none⟩ = some v → w'.cell? ⟨g, 0, none⟩ = some v := fun g v hc =>
    (World.cell?_of_block (hb.block g (World.block_lt_of_cell? w _ hc))).trans hc
  have blk : ∀ (a : Addr), (∃ c t, w.heap[a.block]? = some (.cells c t (0, 0))) → ∃ c t, w'.heap[a.block]? = some (.cells c t (0, 0)) := fun a ⟨c, t, hc⟩ => ⟨c, t, (hb.block _ (heap_lt hc)).trans hc⟩
  exact ⟨cell _ _ h.g0, cell _ _ h.g1, cell _ _ h.g2, h.n01, h.n02, h.n12, blk _ h.b0, blk _ h.b1, blk _ h.b2⟩
theorem Errs.keep {w w' : World} {a0 a1 a2 : Addr} (h : Errs w a0 a1 a2) (g : w.grownBy w' none) : Errs w' a0 a1 a2 := h.below (below_of_grown g)

theorem codeOf_nil (w : World) : Calls Tryz.prog 32 #[.nilIface] w fun e w' => e = .returned (.int .i64 0) ∧ w = w' := by
  go_enter Tryz.func32, Tryz.ntmps32
  go_wp2
  go_ret
  exact ⟨rfl, rfl⟩
theorem codeOf_none (w : World) (a0 a1 a2 : Addr) (h : Errs w a0 a1 a2) : Calls Tryz.prog 32 #[Er a1] w fun e w' => e = .returned (.int .i64 5) ∧ w = w' := by
  have hg1 := h.g1
  go_enter Tryz.func32, Tryz.ntmps32
  go_wp2_with (go_at_call 51; refine (is_it a1 _).mono ?_; rintro e w1 ⟨rfl, rfl⟩)
  go_ret
  exact ⟨rfl, rfl⟩
theorem codeOf_bad (w : World) (a0 a1 a2 : Addr) (h : Errs w a0 a1 a2) : Calls Tryz.prog 32 #[Er a0] w fun e w' => e = .returned (.int .i64 1) ∧ w = w' := by
  have hg1 := h.g1
  have hg2 := h.g2
  obtain ⟨c0, t0, hb0⟩ := h.b0
  obtain ⟨c1, t1, hb1⟩ := h.b1
  obtain ⟨c2, t2, hb2⟩ := h.b2
  have H1 := hide (is_not a0 a1 c0 c1 t0 t1 w h.n01 hb0 hb1)
  have H2 := hide (is_not a0 a2 c0 c2 t0 t2 w h.n02 hb0 hb2)
  clear hb0 hb1 hb2 h
  go_enter Tryz.func32, Tryz.ntmps32
  go_wp2_with fail
  refine H1.out.mono ?_
  rintro e w1 ⟨rfl, rfl⟩
  go_wp2_with fail
  refine H2.out.mono ?_
  rintro e w1 ⟨rfl, rfl⟩
  go_wp2
  go_ret
  exact ⟨rfl, rfl⟩

end Go.Proofs.YtakkdniikhgpdaaGreatDoor

