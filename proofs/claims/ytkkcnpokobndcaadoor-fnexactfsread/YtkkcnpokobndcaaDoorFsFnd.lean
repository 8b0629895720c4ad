import Derived.Test.YtkkcnpokobndcaaDoorFsBin
import Derived.Test.YtkkcnpokobndcaaDoorFsErr
import Derived.Test.YtkkcnpokobndcaaDoorFsIVal
namespace Go.Proofs.YtkkcnpokobndcaaDoor
open Go.RowKit

/-- What find answers. -/
inductive Found (fs : List Fl) (n : List Int) (a0 a1 : Addr) : Value → Prop
  | bad : nameOK n = false → Found fs n a0 a1 (.tuple #[.int .i64 0, Er a0])
  | none (i : Nat) : nameOK n = true → Pos fs n i → findF fs n = none → Found fs n a0 a1 (.tuple #[.int .i64 i, Er a1])
  | yes (i : Nat) (hi : i < fs.length) : nameOK n = true → Pos fs n i → fs[i].n = n → findF fs n = some fs[i] → Found fs n a0 a1 (.tuple #[.int .i64 i, .nilIface])

set_option maxHeartbeats 4000000 in
set_option maxRecDepth 100000 in
theorem find_any (h : Nat) (v nv : Value) (fs : List Fl) (n : List Int) (a0 a1 a2 : Addr) (w : World) (hc : w.cell? ⟨h, 0, none⟩ = some v) (hv : RdF w.heap.size w v fs) (hd : Fss fs) (hval : validF fs = true) (hn : RdB w.heap.size w nv n) (hs : Sl nv n.length) (hb : Byt n) (he : Errs w a0 a1 a2) :
    Calls Tryd.prog 56 #[.pointer (some ⟨h, 0, none⟩), nv] w fun e w' => ∃ u, e = .returned u ∧ Found fs n a0 a1 u ∧ w.grownBy w' none := by
  obtain ⟨na, ncap, hnv0, hn1, hn2⟩ := id hs
  unfold maxLen at hn2
  have HNm := hide (fun w => canBeName_any na n ncap w (by omega))
  obtain ⟨a, cap, hv0, _⟩ := id hv
  by_cases hok : nameOK n = true
  · rw [hok] at HNm
    have HBn := hide (binary_any v nv fs n w hv hd hval hn hs hb)
    have HVl := hide hval
    have HE := hide he
    subst hnv0 hv0
    clear hv hn hs hval he hd hb
    go_enter Tryd.func56, Tryd.ntmps56
    go_wp2_with fail
    refine (HNm.out _).mono ?_; rintro e w1 ⟨rfl, rfl⟩
    go_wp2_with fail
    refine HBn.out.mono ?_
    rintro e w1 ⟨i, rfl, hp, g⟩
    have HG := hide g
    have HP := hide hp
    have he1 := (HE.out.keep g).g1
    by_cases hf : ∃ hi : i < fs.length, fs[i].n = n
    · have HF : Hid (Found fs n a0 a1 (.tuple #[.int .i64 i, .nilIface])) := by
        obtain ⟨hi, e⟩ := hf
        exact .yes i hi hok hp e (pos_find hp hi e)
      rw [decide_eq_true hf]
      clear hf hp g
      go_wp2
      go_ret2
      exact ⟨_, rfl, HF.out, HG.out⟩
    · have HF : Hid (Found fs n a0 a1 (.tuple #[.int .i64 i, Er a1])) := .none i hok hp (pos_none HVl.out hp (fun hi e => hf ⟨hi, e⟩))
      rw [decide_eq_false hf]
      clear hf hp g
      go_wp2
      go_quiet (fail)
      go_wp2
      go_ret2
      exact ⟨_, rfl, HF.out, grown_drewN HG.out _⟩
  · have HF : Hid (Found fs n a0 a1 (.tuple #[.int .i64 0, Er a0])) := .bad (by simpa using hok)
    rw [show nameOK n = false by simpa using hok] at HNm
    have he0 := he.g0
    subst hnv0 hv0
    clear hv hn hs hval he hd hb
    go_enter Tryd.func56, Tryd.ntmps56
    go_wp2_with fail
    refine (HNm.out _).mono ?_; rintro e w1 ⟨rfl, rfl⟩
    go_wp2
    go_quiet (fail)
    go_wp2
    go_ret2
    exact ⟨_, rfl, HF.out, grown_drewN (World.grownBy.refl _ _) _⟩

end Go.Proofs.YtkkcnpokobndcaaDoor
