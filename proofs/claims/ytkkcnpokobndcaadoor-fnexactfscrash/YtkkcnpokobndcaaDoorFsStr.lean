import Derived.Test.YtkkcnpokobndcaaDoorFsKit
import Derived.Laws.BytesArg
import Derived.Laws.IdiomStrings
namespace Go.Proofs.YtkkcnpokobndcaaDoor
open Go.RowKit

theorem strF_list (xs : List Int) : (strOfNums xs).toList = xs.map fun n => UInt8.ofNat n.toNat := by
  rw [ByteArray.toList_eq]; rfl
theorem u8F_inj {x y : Int} (hx : 0 ≤ x ∧ x ≤ 255) (hy : 0 ≤ y ∧ y ≤ 255) (h : UInt8.ofNat x.toNat = UInt8.ofNat y.toNat) : x = y := by
  have := congrArg UInt8.toNat h
  simp only [UInt8.toNat_ofNat'] at this
  omega
theorem mapF_inj : ∀ {xs ys : List Int}, Byt xs → Byt ys → (xs.map (fun n => UInt8.ofNat n.toNat)) = (ys.map (fun n => UInt8.ofNat n.toNat)) → xs = ys
  | [], [], _, _, _ => rfl
  | [], _ :: _, _, _, h => by simp at h
  | _ :: _, [], _, _, h => by simp at h
  | x :: xs, y :: ys, hx, hy, h => by
    simp only [List.map_cons, List.cons.injEq] at h
    rw [u8F_inj (hx x (by simp)) (hy y (by simp)) h.1, mapF_inj (fun z hz => hx z (by simp [hz])) (fun z hz => hy z (by simp [hz])) h.2]
theorem eqStr {xs ys : List Int} (hx : Byt xs) (hy : Byt ys) : ((strOfNums xs).toList == (strOfNums ys).toList) = decide (xs = ys) := by
  rw [strF_list, strF_list]
  by_cases h : xs = ys
  · subst h; simp
  · have : ¬ (xs.map (fun n => UInt8.ofNat n.toNat)) = (ys.map (fun n => UInt8.ofNat n.toNat)) := fun e => h (mapF_inj hx hy e)
    simp [h, this]
theorem lessStr {xs ys : List Int} (hx : Byt xs) (hy : Byt ys) : Op.bytesLess (strOfNums xs).toList (strOfNums ys).toList = ltB xs ys := by
  rw [strF_list, strF_list]; exact ltB_less xs ys hx hy

theorem conv_str {B : Nat} {w : World} {v : Value} {xs : List Int} (h : Rd .u8 B w v xs) : (convert 25 9 v).run Tryd.prog w = .ok (.string (strOfNums xs)) w := by
  obtain ⟨a, cap, rfl, hr⟩ := h
  by_cases hx : xs = []
  · subst hx
    cases a with
    | none => exact run_convert_bytes_nil w 25 5 Tryd.underlying25 Tryd.underlying5 _ _ 9 Tryd.underlying9
    | some x =>
      rw [run_convert_bytes_string w 25 9 5 _ _ cap Tryd.underlying25 Tryd.underlying5 Tryd.underlying9]
      have := run_bytesToString (P := Tryd.prog) w x 0 cap [] (run_loadCells_list (P := Tryd.prog) w x [] (fun j v hj => by simp at hj))
      rw [show ([] : List Int).length = 0 from rfl, this]
      rfl
  · obtain ⟨b, off, rfl, hb, hc⟩ := hr hx
    exact run_convert_bytes_arg w 25 5 Tryd.underlying25 Tryd.underlying5 b off xs.length cap xs rfl (fun i hi => by rw [hc i hi]; simp [List.getD]) 9 Tryd.underlying9

end Go.Proofs.YtkkcnpokobndcaaDoor
