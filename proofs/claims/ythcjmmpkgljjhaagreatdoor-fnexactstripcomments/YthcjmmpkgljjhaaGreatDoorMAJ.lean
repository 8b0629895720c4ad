import Derived.Shelf.Bytes.SlIndexSmall
import Derived.Shelf.Bytes.SlIndexWhole
import Derived.Test.YthcjmmpkgljjhaaGreatDoorMAA
namespace Go.Proofs.YthcjmmpkgljjhaaGreatDoor
open Go.RowKit Go.Shelf

def conRen : Go.Shelf.Ren := ⟨fun | 186 => 69 | 185 => 80 | 187 => 89 | 115 => 90 | 253 => 91 | 224 => 92 | 254 => 93 | 255 => 102 | 291 => 103 | n => n, fun | 37 => 40 | 4 => 4 | 3 => 3 | 0 => 0 | 5 => 5 | 46 => 107 | 9 => 9 | 146 => 112 | 51 => 111 | n => n, fun | 1 => 1 | n => n⟩
theorem conLays : Go.Proofs.Lays.n186 Tryz.prog conRen := {
  mixed := by kernel_rfl
  f115 := Tryz.func90.trans (congrArg some (by kernel_rfl))
  f185 := Tryz.func80.trans (congrArg some (by kernel_rfl))
  f186 := Tryz.func69.trans (congrArg some (by kernel_rfl))
  f187 := Tryz.func89.trans (congrArg some (by kernel_rfl))
  f224 := Tryz.func92.trans (congrArg some (by kernel_rfl))
  f253 := Tryz.func91.trans (congrArg some (by kernel_rfl))
  f254 := Tryz.func93.trans (congrArg some (by kernel_rfl))
  f255 := Tryz.func102.trans (congrArg some (by kernel_rfl))
  f291 := Tryz.func103.trans (congrArg some (by kernel_rfl))
  t0 := Tryz.underlying0
  a0 := Tryz.isAgg0
  z0 := Tryz.sizeOf0
  v0 := Tryz.zeroValue0
  t3 := Tryz.underlying3
  a3 := Tryz.isAgg3
  z3 := Tryz.sizeOf3
  v3 := Tryz.zeroValue3
  t4 := Tryz.underlying4
  a4 := Tryz.isAgg4
  z4 := Tryz.sizeOf4
  v4 := Tryz.zeroValue4
  t5 := Tryz.underlying5
  a5 := Tryz.isAgg5
  z5 := Tryz.sizeOf5
  v5 := Tryz.zeroValue5
  t9 := Tryz.underlying9
  a9 := Tryz.isAgg9
  z9 := Tryz.sizeOf9
  v9 := Tryz.zeroValue9
  t37 := Tryz.underlying40
  a37 := Tryz.isAgg40
  z37 := Tryz.sizeOf40
  v37 := Tryz.zeroValue40
  t46 := Tryz.underlying107
  a46 := Tryz.isAgg107
  z46 := Tryz.sizeOf107
  v46 := Tryz.zeroValue107
  t51 := Tryz.underlying111
  a51 := Tryz.isAgg111
  z51 := Tryz.sizeOf111
  v51 := Tryz.zeroValue111
  t146 := Tryz.underlying112
  a146 := Tryz.isAgg112
  z146 := Tryz.sizeOf112
  v146 := Tryz.zeroValue112
  g1 := by kernel_rfl }

/-- Two bytes, '*' and '/', one behind the other. -/
def hasSE : List Int → Bool
  | a :: b :: l => (decide (a = 42) && decide (b = 47)) || hasSE (b :: l)
  | _ => false

theorem u8_of {z : Int} (hz : 0 ≤ z ∧ z ≤ 255) (k : Nat) (hk : k ≤ 255) : (UInt8.ofNat k == z.toNat.toUInt8) = decide (z = k) := by
  rw [Bool.eq_iff_iff]
  simp only [beq_iff_eq, decide_eq_true_eq]
  constructor
  · intro h
    have := congrArg UInt8.toNat h
    simp only [UInt8.toNat_ofNat', Nat.toUInt8] at this
    omega
  · intro h
    subst h
    rfl
theorem index_se : ∀ (zs : List Int), Bys zs → (0 ≤ Lib.index (Lib.bytesOf zs) [42, 47] ↔ hasSE zs = true)
  | [], _ => by decide
  | [z], _ => by
    have : Lib.index (Lib.bytesOf [z]) [42, 47] = -1 := by
      simp [Lib.bytesOf, Lib.index, List.isPrefixOf]
    rw [this]
    simp [hasSE]
  | a :: b :: l, h => by
    have ih := index_se (b :: l) (fun z hz => h z (by simp [hz]))
    have ha := u8_of (h a (by simp)) 42 (by omega)
    have hb := u8_of (h b (by simp)) 47 (by omega)
    have hge := Lib.index_ge (Lib.bytesOf (b :: l)) [42, 47]
    have e1 : Lib.bytesOf (a :: b :: l) = a.toNat.toUInt8 :: Lib.bytesOf (b :: l) := rfl
    have e2 : ([42, 47] : List UInt8).isPrefixOf (a.toNat.toUInt8 :: Lib.bytesOf (b :: l)) = (decide (a = 42) && decide (b = 47)) := by
      show ((UInt8.ofNat 42 == a.toNat.toUInt8) && ((UInt8.ofNat 47 == b.toNat.toUInt8) && true)) = _
      rw [ha, hb, Bool.and_true]
      rfl
    rw [e1]
    unfold Lib.index hasSE
    rw [e2]
    cases hd : (decide (a = 42) && decide (b = 47)) with
    | true => simp
    | false =>
      rw [Bool.false_or, ← ih]
      by_cases hn : Lib.index (Lib.bytesOf (b :: l)) [42, 47] = -1
      · simp [hn]
      · have hb2 : (Lib.index (Lib.bytesOf (b :: l)) [42, 47] == -1) = false := by simpa using hn
        simp only [Bool.false_eq_true, if_false, hb2]
        omega
theorem contains_se (zs : List Int) (h : Bys zs) : Lib.contains (Lib.bytesOf zs) (Lib.bytesOf [42, 47]) = hasSE zs := by
  have := index_se zs h
  unfold Lib.contains
  show decide (0 ≤ Lib.index (Lib.bytesOf zs) [42, 47]) = _
  rw [Bool.eq_iff_iff, decide_eq_true_eq]
  exact this

/-- bytes.Contains at a text and the two bytes in a block of their own. -/
theorem contains_any (v : Value) (zs : List Int) (b2 : Nat) (m : Int) (w : World) (hv : RdB w.heap.size w v zs) (hs : Sl v zs.length) (hby : Bys zs) (hn : zs.length ≤ 1048576)
    (h0 : w.cell? ⟨b2, 0, none⟩ = some (.int .u8 42)) (h1 : w.cell? ⟨b2, 1, none⟩ = some (.int .u8 47)) (hm : w.cell? ⟨1, 0, none⟩ = some (.int .i64 m)) (c2 : Nat) :
    Calls Tryz.prog 69 #[v, .slice (some ⟨b2, 0, none⟩) 2 c2] w fun e w' => e = .returned (.bool (hasSE zs)) ∧ ∃ q, w' = w.drewN q := by
  obtain ⟨a, cap, rfl, hrr⟩ := id hv
  obtain ⟨a', cap', e, hcap, hmx⟩ := hs
  simp only [Value.slice.injEq] at e
  obtain ⟨rfl, _, rfl⟩ := e
  by_cases hl : zs.length < 2
  · refine (Any.bytes_Contains_longer conLays a (some ⟨b2, 0, none⟩) zs.length cap 2 c2 w (by omega) hl (by omega)).mono ?_
    rintro e w' ⟨rfl, rfl⟩
    refine ⟨?_, 0, rfl⟩
    have : hasSE zs = false := by
      match zs, hl with
      | [], _ => rfl
      | [z], _ => rfl
    rw [this]
  · obtain ⟨b, off, rfl, hb, hc⟩ := hrr (fun e => by rw [e] at hl; simp at hl)
    rw [← contains_se zs hby]
    refine (Any.bytes_Contains_at conLays ⟨b, off, none⟩ ⟨b2, 0, none⟩ zs.length cap 2 c2 zs [42, 47] m w rfl rfl (fun x hx => by have := hby x hx; omega) (fun y hy' => ?_) (fun i hi => ?_) (fun i hi => ?_) hcap (by omega) (by omega) hm).mono fun e w' h => h
    · simp at hy'
      rcases hy' with rfl | rfl <;> omega
    · rw [Addr.add_lit, hc i hi]; simp [List.getD]
    · rw [Addr.add_lit]
      match i, hi with
      | 0, _ => simpa using h0
      | 1, _ => simpa using h1

end Go.Proofs.YthcjmmpkgljjhaaGreatDoor

