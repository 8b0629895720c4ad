import Derived.Test.YtdcajkgmhimffaaDoorRRScKit
import Derived.Laws.BytesArg
import Derived.Laws.IdiomStrings
namespace Go.Proofs.YtdcajkgmhimffaaDoorRR
open Go.RowKit

theorem strOfNums_list (xs : List Int) : (strOfNums xs).toList = xs.map fun n => UInt8.ofNat n.toNat := by
  rw [ByteArray.toList_eq]; rfl
theorem u8_inj {x y : Int} (hx : 0 ≤ x ∧ x ≤ 255) (hy : 0 ≤ y ∧ y ≤ 255) (h : UInt8.ofNat x.toNat = UInt8.ofNat y.toNat) : x = y := by
  have := congrArg UInt8.toNat h
  simp only [UInt8.toNat_ofNat'] at this
  omega
theorem map_inj : ∀ {xs ys : List Int}, Bys xs → Bys ys → (xs.map (fun n => UInt8.ofNat n.toNat)) = (ys.map (fun n => UInt8.ofNat n.toNat)) → xs = ys
  | [], [], _, _, _ => rfl
  | [], _ :: _, _, _, h => by simp at h
  | _ :: _, [], _, _, h => by simp at h
  | x :: xs, y :: ys, hx, hy, h => by
    simp only [List.map_cons, List.cons.injEq] at h
    rw [u8_inj (hx x (by simp)) (hy y (by simp)) h.1, map_inj (fun z hz => hx z (by simp [hz])) (fun z hz => hy z (by simp [hz])) h.2]
theorem eqBytes {xs ys : List Int} (hx : Bys xs) (hy : Bys ys) : ((strOfNums xs).toList == (strOfNums ys).toList) = decide (xs = ys) := by
  rw [strOfNums_list, strOfNums_list]
  by_cases h : xs = ys
  · subst h; simp
  · have : ¬ (xs.map (fun n => UInt8.ofNat n.toNat)) = (ys.map (fun n => UInt8.ofNat n.toNat)) := fun e => h (map_inj hx hy e)
    simp [h, this]

theorem conv_rd {B : Nat} {w : World} {v : Value} {xs : List Int} (h : Rd .u8 B w v xs) : (convert 22 9 v).run Tryd.prog w = .ok (.string (strOfNums xs)) w := by
  obtain ⟨a, cap, rfl, hr⟩ := h
  by_cases hx : xs = []
  · subst hx
    cases a with
    | none => exact run_convert_bytes_nil w 22 5 Tryd.underlying22 Tryd.underlying5 _ _ 9 Tryd.underlying9
    | some x =>
      rw [run_convert_bytes_string w 22 9 5 _ _ cap Tryd.underlying22 Tryd.underlying5 Tryd.underlying9]
      have := run_bytesToString (P := Tryd.prog) w x 0 cap [] (run_loadCells_list (P := Tryd.prog) w x [] (fun j v hj => by simp at hj))
      rw [show ([] : List Int).length = 0 from rfl, this]
      rfl
  · obtain ⟨b, off, rfl, hb, hc⟩ := hr hx
    exact run_convert_bytes_arg w 22 5 Tryd.underlying22 Tryd.underlying5 b off xs.length cap xs rfl (fun i hi => by rw [hc i hi]; simp [List.getD]) 9 Tryd.underlying9

set_option maxHeartbeats 400000 in
theorem bytesEqual_any (v1 v2 : Value) (xs ys : List Int) (w : World) (h1 : RdB w.heap.size w v1 xs) (h2 : RdB w.heap.size w v2 ys) (b1 : Bys xs) (b2 : Bys ys) :
    Calls Tryd.prog 47 #[v1, v2] w fun e w' => e = .returned (.bool (decide (xs = ys))) ∧ w = w' := by
  have k1 := conv_rd h1
  have k2 := conv_rd h2
  have HE := hide (eqBytes b1 b2)
  obtain ⟨a, cap, rfl, _⟩ := h1
  obtain ⟨a', cap', rfl, _⟩ := h2
  go_enter Tryd.func47, Tryd.ntmps47
  go_wp2
  go_ret
  exact ⟨by rw [← HE.out]; rfl, rfl⟩

theorem prefix_take (xs ys : List Int) : decide (ys <+: xs) = decide (xs.take ys.length = ys) := by
  exact decide_eq_decide.2 (List.prefix_iff_eq_take.trans eq_comm)

set_option maxHeartbeats 1000000 in
theorem hasPrefix_any (v1 v2 : Value) (xs ys : List Int) (w : World) (h1 : RdB w.heap.size w v1 xs) (s1 : Sl v1 xs.length) (h2 : RdB w.heap.size w v2 ys) (b1 : Bys xs) (b2 : Bys ys) (_hl : xs.length ≤ 1048576) (hl2 : ys.length ≤ 1048576) :
    Calls Tryd.prog 40 #[v1, v2] w fun e w' => e = .returned (.bool (decide (ys <+: xs))) ∧ w = w' := by
  obtain ⟨a, cap, hv, hcap, hcm⟩ := s1
  obtain ⟨a', cap', hv2, _⟩ := id h2
  by_cases hle : ys.length ≤ xs.length
  · have HP := hide (prefix_take xs ys)
    have hr : RdB w.heap.size w (.slice a ys.length cap) (xs.take ys.length) := by
      obtain ⟨a2, cap2, hv3, hr⟩ := h1
      have e : a = a2 ∧ cap = cap2 := by rw [hv] at hv3; simpa using hv3
      refine ⟨a, cap, by rw [List.length_take_of_le hle], fun h0 => ?_⟩
      obtain ⟨b, off, ha, hb, hc⟩ := hr (fun e => h0 (by rw [e]; simp))
      refine ⟨b, off, by rw [e.1]; exact ha, hb, fun j hj => ?_⟩
      rw [List.length_take_of_le hle] at hj
      rw [hc j (by omega)]
      simp [hj]
    have HE := hide (bytesEqual_any _ _ _ _ w hr h2 (fun z hz => b1 z (List.mem_of_mem_take hz)) b2)
    subst hv hv2
    clear h1 h2 hr
    unfold maxLen at hcm
    go_enter Tryd.func40, Tryd.ntmps40
    go_wp2_with (go_at_call 47; refine HE.out.mono ?_; rintro e w' ⟨rfl, rfl⟩)
    go_ret
    exact ⟨by rw [HP.out]; rfl, rfl⟩
  · have HP : Hid (decide (ys <+: xs) = false) := by
      simp only [Hid, decide_eq_false_iff_not]
      intro h
      exact hle h.length_le
    subst hv hv2
    go_enter Tryd.func40, Tryd.ntmps40
    go_wp2
    go_ret
    exact ⟨by rw [HP.out]; rfl, rfl⟩

end Go.Proofs.YtdcajkgmhimffaaDoorRR
