import Derived.Test.YtkkcnpokobndcaaDoorFsStr
import Derived.Lib.BytesEntry
import Derived.Lib.Bytealg
namespace Go.Proofs.YtkkcnpokobndcaaDoor
open Go.RowKit

/-- Two names held against one another. -/
def cmpB : List Int → List Int → Int
  | [], [] => 0
  | [], _ :: _ => -1
  | _ :: _, [] => 1
  | a :: x, b :: y => if a < b then -1 else if b < a then 1 else cmpB x y

theorem cmpB_bytes : ∀ (xs ys : List Int), Byt xs → Byt ys → Lib.compareBytes (xs.map fun n => UInt8.ofNat n.toNat) (ys.map fun n => UInt8.ofNat n.toNat) = cmpB xs ys
  | [], [], _, _ => rfl
  | [], _ :: _, _, _ => rfl
  | _ :: _, [], _, _ => rfl
  | a :: x, b :: y, hx, hy => by
    have ha := hx a (by simp)
    have hb := hy b (by simp)
    have ih := cmpB_bytes x y (fun z hz => hx z (by simp [hz])) (fun z hz => hy z (by simp [hz]))
    have h1 : (UInt8.ofNat a.toNat < UInt8.ofNat b.toNat) ↔ a < b := by
      rw [UInt8.lt_iff_toNat_lt]
      simp only [UInt8.toNat_ofNat']
      omega
    have h2 : (UInt8.ofNat b.toNat < UInt8.ofNat a.toNat) ↔ b < a := by
      rw [UInt8.lt_iff_toNat_lt]
      simp only [UInt8.toNat_ofNat']
      omega
    simp only [List.map_cons, Lib.compareBytes, cmpB, ih, h1, h2]
theorem cmpB_lt : ∀ (xs ys : List Int), cmpB xs ys < 0 ↔ ltB xs ys = true
  | [], [] => by simp [cmpB, ltB]
  | [], _ :: _ => by simp [cmpB, ltB]
  | _ :: _, [] => by simp [cmpB, ltB]
  | a :: x, b :: y => by
    have ih := cmpB_lt x y
    simp only [cmpB, ltB]
    by_cases h : a < b
    · simp [h]
    · by_cases h2 : b < a
      · simp [h, h2, show a ≠ b by omega]
      · have : a = b := by omega
        subst this
        simp [ih]
theorem cmpB_eq : ∀ (xs ys : List Int), cmpB xs ys = 0 ↔ xs = ys
  | [], [] => by simp [cmpB]
  | [], _ :: _ => by simp [cmpB]
  | _ :: _, [] => by simp [cmpB]
  | a :: x, b :: y => by
    have ih := cmpB_eq x y
    simp only [cmpB]
    by_cases h : a < b
    · simp [h]; intro e; omega
    · by_cases h2 : b < a
      · simp [h, h2]; intro e; omega
      · have : a = b := by omega
        subst this
        simp [ih]

theorem run_bytesRd {B : Nat} {w : World} {v : Value} {xs : List Int} (h : RdB B w v xs) : (Extern.Bytes.bytesOf v).run Tryd.prog w = .ok ⟨(xs.map fun n => UInt8.ofNat n.toNat).toArray⟩ w := by
  obtain ⟨a, cap, rfl, hr⟩ := h
  by_cases hx : xs = []
  · subst hx
    cases a with
    | none => rfl
    | some x => rfl
  · obtain ⟨b, off, rfl, hb, hc⟩ := hr hx
    have hl := Lib.run_loadBytesX (P := Tryd.prog) w xs ⟨b, off, none⟩ .empty (fun j x hj => by
      have hj' := (List.getElem?_eq_some_iff.1 hj).1
      have := hc j hj'
      rw [hj] at this
      rw [Addr.add_lit]
      exact this)
    simp only [Extern.Bytes.bytesOf]
    rw [hl]
    have e : ByteArray.empty.data = #[] := rfl
    rw [e]
    simp only [Array.empty_append]
    rfl

theorem run_compareRd {B B' : Nat} {w : World} {v v' : Value} {xs ys : List Int} (h : RdB B w v xs) (h' : RdB B' w v' ys) (hx : Byt xs) (hy : Byt ys) : (Extern.BytealgCompare.compare #[v, v']).run Tryd.prog w = .ok (.int .i64 (cmpB xs ys)) w := by
  change Sem.run Tryd.prog (do pure (goInt (Extern.BytealgCompare.cmp (← Extern.Bytes.bytesOf v) (← Extern.Bytes.bytesOf v')))) w = _
  simp only [Sem.run_bind, run_bytesRd h, run_bytesRd h', Sem.run_pure, Result.andThen]
  rw [Lib.cmp_eq, ← cmpB_bytes xs ys hx hy]
  rfl

set_option maxHeartbeats 1000000 in
set_option maxRecDepth 100000 in
theorem bytesCompare_any (v v' : Value) (xs ys : List Int) (w : World) (h : RdB w.heap.size w v xs) (h' : RdB w.heap.size w v' ys) (hx : Byt xs) (hy : Byt ys) :
    Calls Tryd.prog 61 #[v, v'] w fun e w' => e = .returned (.int .i64 (cmpB xs ys)) ∧ w = w' := by
  have HR := hide (run_compareRd h h' hx hy)
  obtain ⟨a, cap, rfl, _⟩ := h
  obtain ⟨a', cap', rfl, _⟩ := h'
  go_enter Tryd.func61, Tryd.ntmps61
  go_wp2
  rw [run_callFunc_extern Tryd.func65 (by kernel_rfl) (by kernel_rfl) (by kernel_rfl) (e := Extern.BytealgCompare.compare) (by kernel_rfl), HR.out]
  simp only [Result.andThen]
  rw [Oper.upon_value]
  go_wp2
  go_ret
  exact ⟨rfl, rfl⟩

set_option maxHeartbeats 1000000 in
theorem compareName_any (nv dv v' : Value) (s : Int) (xs ys : List Int) (w : World) (h : RdB w.heap.size w nv xs) (sn : Sl nv xs.length) (h' : RdB w.heap.size w v' ys) (hx : Byt xs) (hy : Byt ys) :
    Calls Tryd.prog 53 #[.agg #[nv, dv, .int .i64 s], v'] w fun e w' => e = .returned (.int .i64 (cmpB xs ys)) ∧ w.grownBy w' none := by
  have HC := hide (fun w' (g : w.grownBy w' none) => bytesCompare_any nv v' xs ys w' ((h.keep g).wideF g.size) ((h'.keep g).wideF g.size) hx hy)
  obtain ⟨a, cap, rfl, _, _⟩ := sn
  obtain ⟨a', cap', rfl, _⟩ := h'
  clear h
  go_enter Tryd.func53, Tryd.ntmps53
  go_wp2_with fail
  first
  | refine (HC.out _ (World.grownBy_alloc _ _ _)).mono ?_
  | refine (HC.out _ (World.grownBy.refl _ _)).mono ?_
  rintro e w1 ⟨rfl, rfl⟩
  go_wp2
  go_ret
  exact ⟨rfl, by first | exact World.grownBy_alloc _ _ _ | exact World.grownBy.refl _ _⟩

end Go.Proofs.YtkkcnpokobndcaaDoor
