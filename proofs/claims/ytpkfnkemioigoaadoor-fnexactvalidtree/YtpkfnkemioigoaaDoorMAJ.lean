import Derived.Shelf.Bytes.SlIndexSmall
import Derived.Shelf.Bytes.SlIndexWhole
import Derived.Test.YtpkfnkemioigoaaDoorMAA
namespace Go.Proofs.YtpkfnkemioigoaaDoor
open Go.RowKit Go.Shelf

def conRen : Go.Shelf.Ren := ⟨fun | 186 => 48 | 185 => 61 | 187 => 70 | 115 => 71 | 253 => 72 | 224 => 73 | 254 => 74 | 255 => 83 | 291 => 84 | n => n, fun | 37 => 40 | 4 => 4 | 3 => 3 | 0 => 0 | 5 => 5 | 46 => 100 | 9 => 9 | 146 => 105 | 51 => 104 | n => n, fun | 1 => 1 | n => n⟩
theorem conLays : Go.Proofs.Lays.n186 Tryd.prog conRen := {
  mixed := by kernel_rfl
  f115 := Tryd.func71.trans (congrArg some (by kernel_rfl))
  f185 := Tryd.func61.trans (congrArg some (by kernel_rfl))
  f186 := Tryd.func48.trans (congrArg some (by kernel_rfl))
  f187 := Tryd.func70.trans (congrArg some (by kernel_rfl))
  f224 := Tryd.func73.trans (congrArg some (by kernel_rfl))
  f253 := Tryd.func72.trans (congrArg some (by kernel_rfl))
  f254 := Tryd.func74.trans (congrArg some (by kernel_rfl))
  f255 := Tryd.func83.trans (congrArg some (by kernel_rfl))
  f291 := Tryd.func84.trans (congrArg some (by kernel_rfl))
  t0 := Tryd.underlying0
  a0 := Tryd.isAgg0
  z0 := Tryd.sizeOf0
  v0 := Tryd.zeroValue0
  t3 := Tryd.underlying3
  a3 := Tryd.isAgg3
  z3 := Tryd.sizeOf3
  v3 := Tryd.zeroValue3
  t4 := Tryd.underlying4
  a4 := Tryd.isAgg4
  z4 := Tryd.sizeOf4
  v4 := Tryd.zeroValue4
  t5 := Tryd.underlying5
  a5 := Tryd.isAgg5
  z5 := Tryd.sizeOf5
  v5 := Tryd.zeroValue5
  t9 := Tryd.underlying9
  a9 := Tryd.isAgg9
  z9 := Tryd.sizeOf9
  v9 := Tryd.zeroValue9
  t37 := Tryd.underlying40
  a37 := Tryd.isAgg40
  z37 := Tryd.sizeOf40
  v37 := Tryd.zeroValue40
  t46 := Tryd.underlying100
  a46 := Tryd.isAgg100
  z46 := Tryd.sizeOf100
  v46 := Tryd.zeroValue100
  t51 := Tryd.underlying104
  a51 := Tryd.isAgg104
  z51 := Tryd.sizeOf104
  v51 := Tryd.zeroValue104
  t146 := Tryd.underlying105
  a146 := Tryd.isAgg105
  z146 := Tryd.sizeOf105
  v146 := Tryd.zeroValue105
  g1 := by kernel_rfl }

/-- Two bytes, '*' and '/', one behind the other. -/
def hasSE : List Int → Bool
  | a :: b :: l => (decide (a = 42) && decide (b = 47)) || hasSE (b :: l)
  | _ => false

theorem u8_of {z : Int} (hz : 0 ≤ z ∧ z ≤ 255) (k : Nat) (hk : k ≤ 255) : (UInt8.ofNat k == z.toNat.toUInt8) = decide (z = k) := by
  rw [Bool.eq_iff_iff]
  simp only [beq_iff_eq, decide_eq_true_eq]
  constructor
  · intro h
    have := congrArg UInt8.toNat h
    simp only [UInt8.toNat_ofNat', Nat.toUInt8] at this
    omega
  · intro h
    subst h
    rfl
theorem index_se : ∀ (zs : List Int), Bys zs → (0 ≤ Lib.index (Lib.bytesOf zs) [42, 47] ↔ hasSE zs = true)
  | [], _ => by decide
  | [z], _ => by
    have : Lib.index (Lib.bytesOf [z]) [42, 47] = -1 := by
      simp [Lib.bytesOf, Lib.index, List.isPrefixOf]
    rw [this]
    simp [hasSE]
  | a :: b :: l, h => by
    have ih := index_se (b :: l) (fun z hz => h z (by simp [hz]))
    have ha := u8_of (h a (by simp)) 42 (by omega)
    have hb := u8_of (h b (by simp)) 47 (by omega)
    have hge := Lib.index_ge (Lib.bytesOf (b :: l)) [42, 47]
    have e1 : Lib.bytesOf (a :: b :: l) = a.toNat.toUInt8 :: Lib.bytesOf (b :: l) := rfl
    have e2 : ([42, 47] : List UInt8).isPrefixOf (a.toNat.toUInt8 :: Lib.bytesOf (b :: l)) = (decide (a = 42) && decide (b = 47)) := by
      show ((UInt8.ofNat 42 == a.toNat.toUInt8) && ((UInt8.ofNat 47 == b.toNat.toUInt8) && true)) = _
      rw [ha, hb, Bool.and_true]
      rfl
    rw [e1]
    unfold Lib.index hasSE
    rw [e2]
    cases hd : (decide (a = 42) && decide (b = 47)) with
    | true => simp
    | false =>
      rw [Bool.false_or, ← ih]
      by_cases hn : Lib.index (Lib.bytesOf (b :: l)) [42, 47] = -1
      · simp [hn]
      · have hb2 : (Lib.index (Lib.bytesOf (b :: l)) [42, 47] == -1) = false := by simpa using hn
        simp only [Bool.false_eq_true, if_false, hb2]
        omega
theorem contains_se (zs : List Int) (h : Bys zs) : Lib.contains (Lib.bytesOf zs) (Lib.bytesOf [42, 47]) = hasSE zs := by
  have := index_se zs h
  unfold Lib.contains
  show decide (0 ≤ Lib.index (Lib.bytesOf zs) [42, 47]) = _
  rw [Bool.eq_iff_iff, decide_eq_true_eq]
  exact this

/-- bytes.Contains at a text and the two bytes in a block of their own. -/
theorem contains_any (v : Value) (zs : List Int) (b2 : Nat) (m : Int) (w : World) (hv : RdB w.heap.size w v zs) (hs : Sl v zs.length) (hby : Bys zs) (hn : zs.length ≤ 1048576)
    (h0 : w.cell? ⟨b2, 0, none⟩ = some (.int .u8 42)) (h1 : w.cell? ⟨b2, 1, none⟩ = some (.int .u8 47)) (hm : w.cell? ⟨1, 0, none⟩ = some (.int .i64 m)) (c2 : Nat) :
    Calls Tryd.prog 48 #[v, .slice (some ⟨b2, 0, none⟩) 2 c2] w fun e w' => e = .returned (.bool (hasSE zs)) ∧ ∃ q, w' = w.drewN q := by
  obtain ⟨a, cap, rfl, hrr⟩ := id hv
  obtain ⟨a', cap', e, hcap, hmx⟩ := hs
  simp only [Value.slice.injEq] at e
  obtain ⟨rfl, _, rfl⟩ := e
  by_cases hl : zs.length < 2
  · refine (Any.bytes_Contains_longer conLays a (some ⟨b2, 0, none⟩) zs.length cap 2 c2 w (by omega) hl (by omega)).mono ?_
    rintro e w' ⟨rfl, rfl⟩
    refine ⟨?_, 0, rfl⟩
    have : hasSE zs = false := by
      match zs, hl with
      | [], _ => rfl
      | [z], _ => rfl
    rw [this]
  · obtain ⟨b, off, rfl, hb, hc⟩ := hrr (fun e => by rw [e] at hl; simp at hl)
    rw [← contains_se zs hby]
    refine (Any.bytes_Contains_at conLays ⟨b, off, none⟩ ⟨b2, 0, none⟩ zs.length cap 2 c2 zs [42, 47] m w rfl rfl (fun x hx => by have := hby x hx; omega) (fun y hy' => ?_) (fun i hi => ?_) (fun i hi => ?_) hcap (by omega) (by omega) hm).mono fun e w' h => h
    · simp at hy'
      rcases hy' with rfl | rfl <;> omega
    · rw [Addr.add_lit, hc i hi]; simp [List.getD]
    · rw [Addr.add_lit]
      match i, hi with
      | 0, _ => simpa using h0
      | 1, _ => simpa using h1

end Go.Proofs.YtpkfnkemioigoaaDoor

