import Derived.Lib.BytesEntry
import Derived.Lib.Bytealg
import Derived.LaidEql
import Derived.Stop.Asserts
import Derived.RowKitTokens
import Derived.Test.YtakkdniikhgpdaaGreatDoorMAG
import Derived.Test.YtakkdniikhgpdaaGreatDoorMAN
import Derived.Test.YtakkdniikhgpdaaGreatDoorMAS
namespace Go.Proofs.YtakkdniikhgpdaaGreatDoor
open Go.RowKit

/-- Two names held against one another. -/
def cmpB : List Int → List Int → Int
  | [], [] => 0
  | [], _ :: _ => -1
  | _ :: _, [] => 1
  | a :: x, b :: y => if a < b then -1 else if b < a then 1 else cmpB x y

theorem cmpB_bytes : ∀ (xs ys : List Int), Byt xs → Byt ys → Lib.compareBytes (xs.map fun n => UInt8.ofNat n.toNat) (ys.map fun n => UInt8.ofNat n.toNat) = cmpB xs ys
  | [], [], _, _ => rfl
  | [], _ :: _, _, _ => rfl
  | _ :: _, [], _, _ => rfl
  | a :: x, b :: y, hx, hy => by
    have ha := hx a (by simp)
    have hb := hy b (by simp)
    have ih := cmpB_bytes x y (fun z hz => hx z (by simp [hz])) (fun z hz => hy z (by simp [hz]))
    have h1 : (UInt8.ofNat a.toNat < UInt8.ofNat b.toNat) ↔ a < b := by
      rw [UInt8.lt_iff_toNat_lt]
      simp only [UInt8.toNat_ofNat']
      omega
    have h2 : (UInt8.ofNat b.toNat < UInt8.ofNat a.toNat) ↔ b < a := by
      rw [UInt8.lt_iff_toNat_lt]
      simp only [UInt8.toNat_ofNat']
      omega
    simp only [List.map_cons, Lib.compareBytes, cmpB, ih, h1, h2]
theorem cmpB_lt : ∀ (xs ys : List Int), cmpB xs ys < 0 ↔ ltB xs ys = true
  | [], [] => by simp [cmpB, ltB]
  | [], _ :: _ => by simp [cmpB, ltB]
  | _ :: _, [] => by simp [cmpB, ltB]
  | a :: x, b :: y => by
    have ih := cmpB_lt x y
    simp only [cmpB, ltB]
    by_cases h : a < b
    · simp [h]
    · by_cases h2 : b < a
      · simp [h, h2, show a ≠ b by omega]
      · have : a = b := by omega
        subst this
        simp [ih]
theorem cmpB_eq : ∀ (xs ys : List Int), cmpB xs ys = 0 ↔ xs = ys
  | [], [] => by simp [cmpB]
  | [], _ :: _ => by simp [cmpB]
  | _ :: _, [] => by simp [cmpB]
  | a :: x, b :: y => by
    have ih := cmpB_eq x y
    simp only [cmpB]
    by_cases h : a < b
    · simp [h]; intro e; omega
    · by_cases h2 : b < a
      · simp [h, h2]; intro e; omega
      · have : a = b := by omega
        subst this
        simp [ih]

theorem run_bytesRd {B : Nat} {w : World} {v : Value} {xs : List Int} (h : RdB B w v xs) : (Extern.Bytes.bytesOf v).run Tryz.prog w = .ok ⟨(xs.map fun n => UInt8.ofNat n.toNat).toArray⟩ w := by
  obtain ⟨a, cap, rfl, hr⟩ := h
  by_cases hx : xs = []
  · subst hx
    cases a with
    | none => rfl
    | some x => rfl
  · obtain ⟨b, off, rfl, hb, hc⟩ := hr hx
    have hl := Lib.run_loadBytesX (P := Tryz.prog) w xs ⟨b, off, none⟩ .empty (fun j x hj => by
      have hj' := (List.getElem?_eq_some_iff.1 hj).1
      have := hc j hj'
      rw [hj] at this
      rw [Addr.add_lit]
      exact this)
    simp only [Extern.Bytes.bytesOf]
    rw [hl]
    have e : ByteArray.empty.data = #[] := rfl
    rw [e]
    simp only [Array.empty_append]
    rfl

theorem run_compareRd {B B' : Nat} {w : World} {v v' : Value} {xs ys : List Int} (h : RdB B w v xs) (h' : RdB B' w v' ys) (hx : Byt xs) (hy : Byt ys) : (Extern.BytealgCompare.compare #[v, v']).run Tryz.prog w = .ok (.int .i64 (cmpB xs ys)) w := by
  change Sem.run Tryz.prog (do pure (goInt (Extern.BytealgCompare.cmp (← Extern.Bytes.bytesOf v) (← Extern.Bytes.bytesOf v')))) w = _
  simp only [Sem.run_bind, run_bytesRd h, run_bytesRd h', Sem.run_pure, Result.andThen]
  rw [Lib.cmp_eq, ← cmpB_bytes xs ys hx hy]
  rfl

set_option maxHeartbeats 1000000 in
set_option maxRecDepth 100000 in
theorem bytesCompare_any (v v' : Value) (xs ys : List Int) (w : World) (h : RdB w.heap.size w v xs) (h' : RdB w.heap.size w v' ys) (hx : Byt xs) (hy : Byt ys) :
    Calls Tryz.prog 57 #[v, v'] w fun e w' => e = .returned (.int .i64 (cmpB xs ys)) ∧ w = w' := by
  have HR := hide (run_compareRd h h' hx hy)
  obtain ⟨a, cap, rfl, _⟩ := h
  obtain ⟨a', cap', rfl, _⟩ := h'
  go_enter Tryz.func57, Tryz.ntmps57
  go_wp2
  rw [run_callFunc_extern Tryz.func65 (by kernel_rfl) (by kernel_rfl) (by kernel_rfl) (e := Extern.BytealgCompare.compare) (by kernel_rfl), HR.out]
  simp only [Result.andThen]
  rw [Oper.upon_value]
  go_wp2
  go_ret
  exact ⟨rfl, rfl⟩

set_option maxHeartbeats 1000000 in
theorem compareName_any (nv dv v' : Value) (s : Int) (xs ys : List Int) (w : World) (h : RdB w.heap.size w nv xs) (sn : Sl nv xs.length) (h' : RdB w.heap.size w v' ys) (hx : Byt xs) (hy : Byt ys) :
    Calls Tryz.prog 47 #[.agg #[nv, dv, .int .i64 s], v'] w fun e w' => e = .returned (.int .i64 (cmpB xs ys)) ∧ w.grownBy w' none := by
  have HC := hide (fun w' (g : w.grownBy w' none) => bytesCompare_any nv v' xs ys w' ((h.keep g).wideF g.size) ((h'.keep g).wideF g.size) hx hy)
  obtain ⟨a, cap, rfl, _, _⟩ := sn
  obtain ⟨a', cap', rfl, _⟩ := h'
  clear h
  go_enter Tryz.func47, Tryz.ntmps47
  go_wp2_with fail
  first
  | refine (HC.out _ (World.grownBy_alloc _ _ _)).mono ?_
  | refine (HC.out _ (World.grownBy.refl _ _)).mono ?_
  rintro e w1 ⟨rfl, rfl⟩
  go_wp2
  go_ret
  exact ⟨rfl, by first | exact World.grownBy_alloc _ _ _ | exact World.grownBy.refl _ _⟩

end Go.Proofs.YtakkdniikhgpdaaGreatDoor

namespace Go.Proofs.YtakkdniikhgpdaaGreatDoor
open Go.RowKit
attribute [-go_sem] Builtin.append_

/-- What FsCrash answers. -/
def craF (fs : List Fl) (keep : Int) : List Fl := if validF fs && decide (0 ≤ keep) then crashF keep fs else []
def craC (fs : List Fl) (keep : Int) : Int := if validF fs && decide (0 ≤ keep) then 0 else 1

set_option maxHeartbeats 8000000 in
set_option maxRecDepth 100000 in
theorem specCrash_any (v : Value) (fs : List Fl) (keep : Int) (w : World) (hv : RdF w.heap.size w v fs) (hd : Fss fs) (hk2 : keep ≤ 9223372036854775807) :
    Calls Tryz.prog 8 #[.agg #[v], .int .i64 keep] w fun e w' => ∃ v', e = .returned (.tuple #[.agg #[v'], .int .i64 (craC fs keep)]) ∧ OwF w.heap.size w' v' (craF fs keep) ∧ w.grownBy w' none := by
  obtain ⟨a, cap, hv0, _⟩ := id hv
  have HV : Hid (∀ w', w.grownBy w' none → Calls Tryz.prog 5 #[.agg #[v]] w' fun e w'' => e = .returned (.bool (validF fs)) ∧ w'.grownBy w'' none) := fun w' g => specValid_any v fs w' (hv.now g) hd
  have HK : Hid (∀ w', w.grownBy w' none → 0 ≤ keep → validF fs = true → Calls Tryz.prog 25 #[.agg #[v], .int .i64 keep] w' fun e w'' => ∃ v', e = .returned (.agg #[v']) ∧ OwF w'.heap.size w'' v' (crashF keep fs) ∧ w'.grownBy w'' none) := fun w' g h1 h2 => l7crash_any v fs keep w' (hv.now g) hd h1 hk2 h2
  subst hv0
  clear hv
  by_cases h1 : validF fs = true
  · have hval := hide h1
    rw [h1] at HV
    by_cases h2 : 0 ≤ keep
    · have HC : Hid (craC fs keep = 0) := by unfold Hid craC; rw [h1, decide_eq_true h2]; rfl
      have HL : Hid (craF fs keep = crashF keep fs) := by unfold Hid craF; rw [h1, decide_eq_true h2]; rfl
      clear h1
      go_enter Tryz.func8, Tryz.ntmps8
      go_wp2_with fail
      have CX0 := hide (FsCtx.start w (.slice a fs.length cap))
      refine (HV.out _ CX0.out.g).mono ?_
      rintro e w1 ⟨rfl, g1⟩
      have CX := hide (CX0.out.later g1)
      have cp := CX.out.p
      clear g1 CX0
      go_wp2_with fail
      refine (HK.out _ CX.out.g h2 hval.out).mono ?_
      rintro e w5 ⟨v5, rfl, o5, g5⟩
      have HO5 := hide o5
      have HS5 : Hid (w.heap.size + 2 ≤ (_)) := CX.out.s
      have CX := hide (CX.out.later g5)
      obtain ⟨a5, c5, e5, _⟩ := o5.rd
      subst e5
      clear o5 g5
      have rr := CX.out.r
      have rf := CX.out.f
      go_wp2
      refine bodyPost_ret (v := .tuple #[.agg #[(.slice a5 (crashF keep fs).length c5)], .int .i64 0]) (by simp [results, Tryz.results8, go_sem, rr]) rfl ?_
      exact ⟨_, by rw [HC.out], by rw [HL.out]; exact (CX.out.ends HO5.out HS5.out _).1, (CX.out.ends HO5.out HS5.out _).2⟩
    · have HC : Hid (craC fs keep = 1) := by unfold Hid craC; rw [decide_eq_false h2]; simp
      have HL : Hid (craF fs keep = []) := by unfold Hid craF; rw [decide_eq_false h2]; simp
      clear h1
      go_enter Tryz.func8, Tryz.ntmps8
      go_wp2_with fail
      have CX0 := hide (FsCtx.start w (.slice a fs.length cap))
      refine (HV.out _ CX0.out.g).mono ?_
      rintro e w1 ⟨rfl, g1⟩
      have CX := hide (CX0.out.later g1)
      have cp := CX.out.p
      clear g1 CX0
      have rr := CX.out.r
      have rf := CX.out.f
      go_wp2
      refine bodyPost_ret (v := .tuple #[.agg #[(.slice none 0 0)], .int .i64 1]) (by simp [results, Tryz.results8, go_sem, rr]) rfl ?_
      exact ⟨_, by rw [HC.out], by rw [HL.out]; exact (CX.out.ends (OwF.nil (w.heap.size + 2) _) (Nat.le_refl _) _).1, (CX.out.ends (OwF.nil (w.heap.size + 2) _) (Nat.le_refl _) _).2⟩
  · rw [show validF fs = false by simpa using h1] at HV
    have h1b : validF fs = false := by simpa using h1
    have HC : Hid (craC fs keep = 1) := by unfold Hid craC; rw [h1b]; simp
    have HL : Hid (craF fs keep = []) := by unfold Hid craF; rw [h1b]; simp
    go_enter Tryz.func8, Tryz.ntmps8
    go_wp2_with fail
    have CX0 := hide (FsCtx.start w (.slice a fs.length cap))
    refine (HV.out _ CX0.out.g).mono ?_
    rintro e w1 ⟨rfl, g1⟩
    have CX := hide (CX0.out.later g1)
    have cp := CX.out.p
    clear g1 CX0
    have rr := CX.out.r
    have rf := CX.out.f
    go_wp2
    refine bodyPost_ret (v := .tuple #[.agg #[(.slice none 0 0)], .int .i64 1]) (by simp [results, Tryz.results8, go_sem, rr]) rfl ?_
    exact ⟨_, by rw [HC.out], by rw [HL.out]; exact (CX.out.ends (OwF.nil (w.heap.size + 2) _) (Nat.le_refl _) _).1, (CX.out.ends (OwF.nil (w.heap.size + 2) _) (Nat.le_refl _) _).2⟩

end Go.Proofs.YtakkdniikhgpdaaGreatDoor

namespace Go.Proofs.YtakkdniikhgpdaaGreatDoor
open Go.RowKit Go.Extern.Stop Go.Stop Go.Extern

/-- An error of errors.New's make. -/
abbrev Er (a : Addr) : Value := .iface 159 (.pointer (some a))

theorem tyEr (v : Value) (w : World) : (Extern.ReflectliteType.typeOf #[.iface 159 v]).run Tryz.prog w = .ok (.iface 107 (.agg #[.pointer (some ⟨4, 159, none⟩)])) w := by kernel_rfl
/-- What answers for the method Comparable. -/
def cmpEntry : Array Value → Sem Value := Extern.ReflectliteType.method fun t => do Go.Extern.Rtype.noPackHeld "Comparable" t; pure (.bool (← typeInfo t).comparable)
theorem cmEr (w : World) : (cmpEntry #[.agg #[.pointer (some ⟨4, 159, none⟩)]]).run Tryz.prog w = .ok (.bool true) w := by kernel_rfl
theorem meEr (v : Value) (w : World) : (Go.method 303 107 v "Comparable").run Tryz.prog w = .ok (135, v) w := by kernel_rfl
theorem coEr : (Tryz.prog.info? 159).map (·.comparable) = some true := by kernel_rfl
theorem szEr : (Tryz.prog.info? 191).map (·.size) = some 1 := by kernel_rfl
theorem noIs (v : Value) (xT : TypeId) (w : World) : (Instr.typeAssert (.iface 159 v) xT 109 true).run Tryz.prog w = .ok (.tuple #[.nilIface, .bool false]) w := run_typeAssert_lacksB Tryz.underlying109 (by kernel_rfl) (by kernel_rfl) v xT w
theorem noUn (v : Value) (xT : TypeId) (w : World) : (Instr.typeAssert (.iface 159 v) xT 112 true).run Tryz.prog w = .ok (.tuple #[.nilIface, .bool false]) w := run_typeAssert_lacksB Tryz.underlying112 (by kernel_rfl) (by kernel_rfl) v xT w
theorem noUs (v : Value) (xT : TypeId) (w : World) : (Instr.typeAssert (.iface 159 v) xT 114 true).run Tryz.prog w = .ok (.tuple #[.nilIface, .bool false]) w := run_typeAssert_lacksB Tryz.underlying114 (by kernel_rfl) (by kernel_rfl) v xT w

theorem is_it (a : Addr) (w : World) : Calls Tryz.prog 51 #[Er a, Er a] w fun e w' => e = .returned (.bool true) ∧ w = w' := by
  obtain ⟨i, hi, hcmp⟩ := Option.map_eq_some_iff.1 coEr
  obtain ⟨j, hj, hjs⟩ := Option.map_eq_some_iff.1 szEr
  have h8 := @run_callFunc_extern Tryz.prog 59 _ Extern.ReflectliteType.typeOf Tryz.func59 (by kernel_rfl) (by kernel_rfl) (by kernel_rfl) (by kernel_rfl)
  have h32 := @run_callFunc_extern Tryz.prog 135 _ cmpEntry Tryz.func135 (by kernel_rfl) (by kernel_rfl) (by kernel_rfl) (by kernel_rfl)
  have tT := tyEr
  have cT := cmEr
  have mR := meEr
  have heq := run_eql_iface_ptr_same (P := Tryz.prog) w a Tryz.underlying54 Tryz.underlying159 hi hcmp hj
  go_enter Tryz.func51, Tryz.ntmps51
  go_wp2
  refine wp_loop_rounds 1 ?_
  rw [rounds_succ]
  go_wp2
  go_ret
  exact ⟨rfl, rfl⟩

theorem is_not (a b : Addr) (ca cb : Array Value) (ta tb : TypeId) (w : World) (hne : a ≠ b) (ha : w.heap[a.block]? = some (.cells ca ta (0, 0))) (hb : w.heap[b.block]? = some (.cells cb tb (0, 0))) :
    Calls Tryz.prog 51 #[Er a, Er b] w fun e w' => e = .returned (.bool false) ∧ w = w' := by
  obtain ⟨i, hi, hcmp⟩ := Option.map_eq_some_iff.1 coEr
  obtain ⟨j, hj, hjs⟩ := Option.map_eq_some_iff.1 szEr
  have h8 := @run_callFunc_extern Tryz.prog 59 _ Extern.ReflectliteType.typeOf Tryz.func59 (by kernel_rfl) (by kernel_rfl) (by kernel_rfl) (by kernel_rfl)
  have h32 := @run_callFunc_extern Tryz.prog 135 _ cmpEntry Tryz.func135 (by kernel_rfl) (by kernel_rfl) (by kernel_rfl) (by kernel_rfl)
  have tT := tyEr
  have cT := cmEr
  have mR := meEr
  have nE := noIs
  have uE := noUn
  have vE := noUs
  have heq := run_eql_iface_ptr_other (P := Tryz.prog) w Tryz.underlying54 Tryz.underlying159 hi hcmp hj (by rw [hjs]; decide) hne ha hb
  go_enter Tryz.func51, Tryz.ntmps51
  go_wp2
  refine wp_loop_rounds 1 ?_
  rw [rounds_succ]
  go_wp2
  go_ret
  exact ⟨rfl, rfl⟩

/-- The three errors of the file systems lie in their variables. -/
structure Errs (w : World) (a0 a1 a2 : Addr) : Prop where
  g0 : w.cell? ⟨0, 0, none⟩ = some (Er a0)
  g1 : w.cell? ⟨1, 0, none⟩ = some (Er a1)
  g2 : w.cell? ⟨2, 0, none⟩ = some (Er a2)
  n01 : a0 ≠ a1
  n02 : a0 ≠ a2
  n12 : a1 ≠ a2
  b0 : ∃ c t, w.heap[a0.block]? = some (.cells c t (0, 0))
  b1 : ∃ c t, w.heap[a1.block]? = some (.cells c t (0, 0))
  b2 : ∃ c t, w.heap[a2.block]? = some (.cells c t (0, 0))

theorem heap_lt {w : World} {b : Nat} {o : Obj} (h : w.heap[b]? = some o) : b < w.heap.size := (Array.getElem?_eq_some_iff.1 h).1
theorem Errs.below {w w' : World} {a0 a1 a2 : Addr} (h : Errs w a0 a1 a2) (hb : Below w.heap.size w w') : Errs w' a0 a1 a2 := by
  have cell : ∀ (g : Nat) (v : Value), w.cell? ⟨g, 0, none⟩ = some v → w'.cell? ⟨g, 0, none⟩ = some v := fun g v hc =>
    (World.cell?_of_block (hb.block g (World.block_lt_of_cell? w _ hc))).trans hc
  have blk : ∀ (a : Addr), (∃ c t, w.heap[a.block]? = some (.cells c t (0, 0))) → ∃ c t, w'.heap[a.block]? = some (.cells c t (0, 0)) := fun a ⟨c, t, hc⟩ => ⟨c, t, (hb.block _ (heap_lt hc)).trans hc⟩
  exact ⟨cell _ _ h.g0, cell _ _ h.g1, cell _ _ h.g2, h.n01, h.n02, h.n12, blk _ h.b0, blk _ h.b1, blk _ h.b2⟩
theorem Errs.keep {w w' : World} {a0 a1 a2 : Addr} (h : Errs w a0 a1 a2) (g : w.grownBy w' none) : Errs w' a0 a1 a2 := h.below (below_of_grown g)

theorem codeOf_nil (w : World) : Calls Tryz.prog 32 #[.nilIface] w fun e w' => e = .returned (.int .i64 0) ∧ w = w' := by
  go_enter Tryz.func32, Tryz.ntmps32
  go_wp2
  go_ret
  exact ⟨rfl, rfl⟩
theorem codeOf_none (w : World) (a0 a1 a2 : Addr) (h : Errs w a0 a1 a2) : Calls Tryz.prog 32 #[Er a1] w fun e w' => e = .returned (.int .i64 5) ∧ w = w' := by
  have hg1 := h.g1
  go_enter Tryz.func32, Tryz.ntmps32
  go_wp2_with (go_at_call 51; refine (is_it a1 _).mono ?_; rintro e w1 ⟨rfl, rfl⟩)
  go_ret
  exact ⟨rfl, rfl⟩
theorem codeOf_bad (w : World) (a0 a1 a2 : Addr) (h : Errs w a0 a1 a2) : Calls Tryz.prog 32 #[Er a0] w fun e w' => e = .returned (.int .i64 1) ∧ w = w' := by
  have hg1 := h.g1
  have hg2 := h.g2
  obtain ⟨c0, t0, hb0⟩ := h.b0
  obtain ⟨c1, t1, hb1⟩ := h.b1
  obtain ⟨c2, t2, hb2⟩ := h.b2
  have H1 := hide (is_not a0 a1 c0 c1 t0 t1 w h.n01 hb0 hb1)
  have H2 := hide (is_not a0 a2 c0 c2 t0 t2 w h.n02 hb0 hb2)
  clear hb0 hb1 hb2 h
  go_enter Tryz.func32, Tryz.ntmps32
  go_wp2_with fail
  refine H1.out.mono ?_
  rintro e w1 ⟨rfl, rfl⟩
  go_wp2_with fail
  refine H2.out.mono ?_
  rintro e w1 ⟨rfl, rfl⟩
  go_wp2
  go_ret
  exact ⟨rfl, rfl⟩

end Go.Proofs.YtakkdniikhgpdaaGreatDoor

namespace Go.Proofs.YtakkdniikhgpdaaGreatDoor
open Go.RowKit

set_option maxHeartbeats 400000 in
theorem canBeName_any (a : Option Addr) (n : List Int) (cap : Nat) (w : World) (hn : n.length ≤ 9223372036854775807) :
    Calls Tryz.prog 45 #[.slice a n.length cap] w fun e w' => e = .returned (.bool (nameOK n)) ∧ w = w' := by
  by_cases h : 1 ≤ n.length
  · have HF : Hid (nameOK n = decide (n.length ≤ 100)) := by unfold Hid nameOK; simp [h]
    have h0 : (0 : Int) < (n.length : Int) := by omega
    by_cases h2 : n.length ≤ 100
    · go_enter Tryz.func45, Tryz.ntmps45
      go_wp2
      go_ret
      have h3 : (n.length : Int) ≤ 100 := by omega
      exact ⟨by rw [HF.out, decide_eq_true h2]; simp [h3], rfl⟩
    · go_enter Tryz.func45, Tryz.ntmps45
      go_wp2
      go_ret
      have h3 : ¬ (n.length : Int) ≤ 100 := by omega
      exact ⟨by rw [HF.out, decide_eq_false h2]; simp [h3], rfl⟩
  · have HF : Hid (nameOK n = false) := by unfold Hid nameOK; simp; omega
    have h0 : ¬ (0 : Int) < (n.length : Int) := by omega
    go_enter Tryz.func45, Tryz.ntmps45
    go_wp2
    go_ret
    exact ⟨by rw [HF.out]; rfl, rfl⟩

def within (s d : Int) : Bool := decide (0 ≤ s ∧ s ≤ d)
set_option maxHeartbeats 400000 in
theorem isWithin_any (s d : Int) (w : World) :
    Calls Tryz.prog 46 #[.int .i64 s, .int .i64 d] w fun e w' => e = .returned (.bool (within s d)) ∧ w = w' := by
  by_cases h : 0 ≤ s
  · have HF : Hid (within s d = decide (s ≤ d)) := by unfold Hid within; simp [h]
    by_cases h2 : s ≤ d
    · go_enter Tryz.func46, Tryz.ntmps46
      go_wp2
      go_ret
      exact ⟨by rw [HF.out, decide_eq_true h2]; rfl, rfl⟩
    · go_enter Tryz.func46, Tryz.ntmps46
      go_wp2
      go_ret
      exact ⟨by rw [HF.out, decide_eq_false (show ¬ s ≤ d by omega)]; rfl, rfl⟩
  · have HF : Hid (within s d = false) := by unfold Hid within; simp [h]
    go_enter Tryz.func46, Tryz.ntmps46
    go_wp2
    go_ret
    exact ⟨by rw [HF.out]; rfl, rfl⟩

set_option maxHeartbeats 4000000 in
set_option maxRecDepth 100000 in
theorem implValid_any (v : Value) (fs : List Fl) (w : World) (hv : RdF w.heap.size w v fs) (hd : Fss fs) :
    Calls Tryz.prog 29 #[.agg #[v]] w fun e w' => e = .returned (.bool (validF fs)) ∧ w.grownBy w' none := by
  obtain ⟨a, cap, hv0, hcap, hmax, _⟩ := id hv
  have hlen := hd.len
  by_cases hl : 50 < fs.length
  · have HF := hide (valid_long hl)
    subst hv0
    clear hv
    go_enter Tryz.func29, Tryz.ntmps29
    go_wp2
    go_ret
    exact ⟨by rw [HF.out]; rfl, World.grownBy_alloc _ _ _⟩
  · have HV : Hid (RdF w.heap.size w v fs) := hv
    have HD : Hid (Fss fs) := hd
    subst hv0
    clear hv hd
    go_enter Tryz.func29, Tryz.ntmps29
    go_wp2
    have HC : Hid (∀ wr : World, (w.alloc (.cells #[.slice a fs.length cap] 25)).grownBy wr none → wr.cell? ⟨w.heap.size, 0, none⟩ = some (.slice a fs.length cap)) := fun wr g => g.cell (by simp [go_sem]) (by simp)
    go_loopw [12] (fun i wr => ∃ k : Nat, k ≤ fs.length ∧ i = .int .i64 k ∧ Hid ((List.range k).all (okAt fs) = true) ∧ (w.alloc (.cells #[.slice a fs.length cap] 25)).grownBy wr none) (fun i _ => fs.length - (intOf i).toNat)
    case atStart => exact ⟨0, Nat.zero_le _, rfl, by simp [Hid], World.grownBy.refl _ _⟩
    case round =>
      obtain ⟨k, hk, rfl, HA, hgr⟩ := hrel
      have hfc := HC.out wr hgr
      have hgw : w.grownBy wr none := grown_trans (World.grownBy_alloc _ _ _) hgr
      have HG : Hid (w.grownBy wr none) := hgw
      have HGR := hide hgr
      clear hgr
      by_cases hlt : k < fs.length
      · obtain ⟨b, off, cap', x, hva, hb, hp⟩ := (HV.out.now hgw).at k hlt
        cases hva
        obtain ⟨nv, dv⟩ := x
        have z0 := hp.n; have z1 := hp.d; have z2 := hp.s
        obtain ⟨na, ncap, hnv, hn1, hn2⟩ := hp.sn
        obtain ⟨da, dcap, hdv, hd1, hd2⟩ := hp.sd
        simp only at hnv hdv
        unfold maxLen at hn2 hd2
        have HNm := hide (fun w => canBeName_any na fs[k].n ncap w (by omega))
        have HWi := hide (fun w => isWithin_any fs[k].s fs[k].d.length w)
        by_cases hno : nameOK fs[k].n = true
        · rw [hno] at HNm
          by_cases hsf : 0 ≤ fs[k].s ∧ fs[k].s ≤ (fs[k].d.length : Int)
          · have hok : okF fs[k] = true := by unfold okF; rw [hno, decide_eq_true hsf]; rfl
            rw [show within fs[k].s fs[k].d.length = true from decide_eq_true hsf] at HWi
            obtain ⟨hs0, hs1⟩ := hsf
            by_cases hk0 : k = 0
            · subst hk0
              have HN : Hid ((List.range (0 + 1)).all (okAt fs) = true) := all_rangeS HA.out (by rw [okAt_zero hlt]; exact hok)
              subst hnv hdv
              clear hp hno hok
              simp only [Nat.zero_mul, Nat.add_zero] at z0 z1 z2
              generalize fs[0] = p at *
              go_wp2_with fail
              refine (HNm.out _).mono ?_; rintro e w1 ⟨rfl, rfl⟩
              go_wp2_with fail
              refine (HWi.out _).mono ?_; rintro e w1 ⟨rfl, rfl⟩
              go_wp2
              go_quiet (fail)
              go_wp2
              go_roundw
              case rel => exact ⟨0 + 1, by omega, by go_num, HN, grown_trans HGR.out (grown_drewN (World.grownBy_alloc _ _ _) _)⟩
              case measure => simp [intOf]; omega
            · obtain ⟨j, rfl⟩ : ∃ j, k = j + 1 := ⟨k - 1, by omega⟩
              obtain ⟨b', off', cap'', x', hva', hb', hp'⟩ := (HV.out.now hgw).at j (by omega)
              cases hva'
              obtain ⟨pv, pd⟩ := x'
              have y0 := hp'.n; have y1 := hp'.d; have y2 := hp'.s
              have HCm := hide (fun (w' : World) (g : wr.grownBy w' none) => compareName_any pv pd nv (fs[j]'(by omega)).s (fs[j]'(by omega)).n fs[j + 1].n w' ((hp'.rn.keep g).wideF g.size) hp'.sn ((hp.rn.keep g).wideF g.size) (HD.out.byt _ (List.getElem_mem (show j < fs.length by omega))).1 (HD.out.byt _ (List.getElem_mem hlt)).1)
              obtain ⟨pa, pcap, hpv, hq1, hq2⟩ := hp'.sn
              obtain ⟨qa, qcap, hqv, hr1, hr2⟩ := hp'.sd
              simp only at hpv hqv
              have hj0 : (0 : Int) < (j : Int) + 1 := by omega
              have hj1 : (j : Int) < (fs.length : Int) := by omega
              have hj2 : (j : Int) + 1 - 1 = (j : Int) := by omega
              have hj3 : (0 : Int) ≤ (j : Int) := by omega
              have hj4 : ((j : Int)).toNat = j := by omega
              have hjw : IntKind.i64.wrap (j : Int) = (j : Int) := by rw [IntKind.wrap_i64]; omega
              have hfc2 := (World.grownBy_alloc wr (.cells #[nv, dv, .int .i64 fs[j + 1].s] 45) none).cell hfc (by simp)
              have y0' := (World.grownBy_alloc wr (.cells #[nv, dv, .int .i64 fs[j + 1].s] 45) none).cell y0 (by simp)
              have y1' := (World.grownBy_alloc wr (.cells #[nv, dv, .int .i64 fs[j + 1].s] 45) none).cell y1 (by simp)
              have y2' := (World.grownBy_alloc wr (.cells #[nv, dv, .int .i64 fs[j + 1].s] 45) none).cell y2 (by simp)
              by_cases hle : ltB (fs[j]'(by omega)).n fs[j + 1].n = true
              · have HN : Hid ((List.range (j + 1 + 1)).all (okAt fs) = true) := all_rangeS HA.out (by rw [okAt_succ hlt, hok, hle]; rfl)
                have hcm := (cmpB_lt _ _).2 hle
                subst hnv hdv hpv hqv
                clear hp hp' hno hok hle
                generalize fs[j + 1] = p at *
                generalize fs[j] = p' at *
                generalize cmpB p'.n p.n = c at *
                go_wp2_with fail
                refine (HNm.out _).mono ?_; rintro e w1 ⟨rfl, rfl⟩
                go_wp2_with fail
                refine (HWi.out _).mono ?_; rintro e w1 ⟨rfl, rfl⟩
                go_wp2
                obtain ⟨I, hI⟩ : ∃ I : World → Prop, I = (fun W : World => W.cell? ⟨w.heap.size, 0, none⟩ = some (.slice (some ⟨b, off, none⟩) fs.length cap) ∧ W.cell? ⟨b, off + j * 3, none⟩ = some (.slice pa p'.n.length pcap) ∧ W.cell? ⟨b, off + j * 3 + 1, none⟩ = some (.slice qa p'.d.length qcap) ∧ W.cell? ⟨b, off + j * 3 + 2, none⟩ = some (.int .i64 p'.s) ∧ W.cell? ⟨wr.heap.size, 0, none⟩ = some (.slice na p.n.length ncap)) := ⟨_, rfl⟩
                have HI0 : I (wr.alloc (.cells #[.slice na p.n.length ncap, .slice da p.d.length dcap, .int .i64 p.s] 45)).drew := by rw [hI]; exact ⟨hfc2, y0', y1', y2', by simp [go_sem]⟩
                refine region_anyI I (fun _ => false) (by kernel_rfl) ?_
                show anyI _ _ _ _ _ _ 14 (Array.replicate 14 false) _ _
                refine anyI_take (i := 0) (.int .i64 ((j : Int) + 1)) rfl (by kernel_rfl) (by kernel_rfl) (by kernel_rfl) (by kernel_rfl) (fun _ _ _ h => h) HI0 (yldI rfl (fun W hW => by rw [hI] at hW; obtain ⟨c1, c2, c3, c4, c5⟩ := hW; go_simp)) ?_
                refine anyI_take (i := 1) (.bool true) rfl (by kernel_rfl) (by kernel_rfl) (by kernel_rfl) (by kernel_rfl) (fun _ _ _ h => h) HI0 (yldI rfl (fun W hW => by rw [hI] at hW; obtain ⟨c1, c2, c3, c4, c5⟩ := hW; go_simp)) ?_
                refine anyI_take (i := 2) (.bool true) rfl (by kernel_rfl) (by kernel_rfl) (by kernel_rfl) (by kernel_rfl) (fun _ _ _ h => h) HI0 (yldI rfl (fun W hW => by rw [hI] at hW; obtain ⟨c1, c2, c3, c4, c5⟩ := hW; go_simp)) ?_
                refine anyI_take (i := 3) (.pointer (some ⟨w.heap.size, 0, none⟩)) rfl (by kernel_rfl) (by kernel_rfl) (by kernel_rfl) (by kernel_rfl) (fun _ _ _ h => h) HI0 (yldG (by go_simp) (fun W hW => by rw [hI] at hW; obtain ⟨c1, c2, c3, c4, c5⟩ := hW; go_simp)) ?_
                refine anyI_take (i := 4) (.slice (some ⟨b, off, none⟩) fs.length cap) rfl (by kernel_rfl) (by kernel_rfl) (by kernel_rfl) (by kernel_rfl) (fun _ _ _ h => h) HI0 (yldG (by go_simp) (fun W hW => by rw [hI] at hW; obtain ⟨c1, c2, c3, c4, c5⟩ := hW; go_simp)) ?_
                refine anyI_take (i := 5) (.int .i64 ((j : Int) + 1)) rfl (by kernel_rfl) (by kernel_rfl) (by kernel_rfl) (by kernel_rfl) (fun _ _ _ h => h) HI0 (yldG (by go_simp) (fun W hW => by rw [hI] at hW; obtain ⟨c1, c2, c3, c4, c5⟩ := hW; go_simp)) ?_
                refine anyI_take (i := 6) (.int .i64 (j : Int)) rfl (by kernel_rfl) (by kernel_rfl) (by kernel_rfl) (by kernel_rfl) (fun _ _ _ h => h) HI0 (yldG (by go_simp) (fun W hW => by rw [hI] at hW; obtain ⟨c1, c2, c3, c4, c5⟩ := hW; go_simp; try exact hjw)) ?_
                refine anyI_take (i := 7) (.pointer (some ⟨b, off + j * 3, none⟩)) rfl (by kernel_rfl) (by kernel_rfl) (by kernel_rfl) (by kernel_rfl) (fun _ _ _ h => h) HI0 (yldG (by go_simp) (fun W hW => by rw [hI] at hW; obtain ⟨c1, c2, c3, c4, c5⟩ := hW; go_simp)) ?_
                refine anyI_take (i := 8) (.agg #[.slice pa p'.n.length pcap, .slice qa p'.d.length qcap, .int .i64 p'.s]) rfl (by kernel_rfl) (by kernel_rfl) (by kernel_rfl) (by kernel_rfl) (fun _ _ _ h => h) HI0 (yldG (by go_simp) (fun W hW => by rw [hI] at hW; obtain ⟨c1, c2, c3, c4, c5⟩ := hW; go_simp)) ?_
                refine anyI_take (i := 9) (.pointer (some ⟨wr.heap.size, 0, none⟩)) rfl (by kernel_rfl) (by kernel_rfl) (by kernel_rfl) (by kernel_rfl) (fun _ _ _ h => h) HI0 (yldG (by go_simp) (fun W hW => by rw [hI] at hW; obtain ⟨c1, c2, c3, c4, c5⟩ := hW; go_simp)) ?_
                refine anyI_take (i := 10) (.slice na p.n.length ncap) rfl (by kernel_rfl) (by kernel_rfl) (by kernel_rfl) (by kernel_rfl) (fun _ _ _ h => h) HI0 (yldG (by go_simp) (fun W hW => by rw [hI] at hW; obtain ⟨c1, c2, c3, c4, c5⟩ := hW; go_simp)) ?_
                generalize hG : Act.put _ _ _ = A11
                refine anyI_one (i := 11) (by kernel_rfl) ?_
                simp [Act.put] at hG
                subst hG
                refine wpOp_callG rfl (by go_simp) (by go_simp) (HCm.out ((wr.alloc (.cells #[.slice na p.n.length ncap, .slice da p.d.length dcap, .int .i64 p.s] 45)).drew) (grown_drewG (World.grownBy_alloc _ _ _))) ?_
                rintro e w1 ⟨rfl, g⟩
                have HI1 : I w1 := by
                  rw [hI] at HI0 ⊢
                  obtain ⟨c1, c2, c3, c4, c5⟩ := HI0
                  exact ⟨g.cell c1 (by simp), g.cell c2 (by simp), g.cell c3 (by simp), g.cell c4 (by simp), g.cell c5 (by simp)⟩
                refine ⟨_, rfl, .inr HI1, ?_⟩
                refine anyI_one (i := 12) (by kernel_rfl) (wpOp_valG (v := .bool false) rfl (by go_simp) (by go_simp) ⟨.inr HI1, ?_⟩)
                refine anyI_one (i := 13) (by kernel_rfl) (wpOp_val (v := .bool false) rfl rfl (by go_simp) ⟨.inr HI1, ?_⟩)
                refine anyI_done (by kernel_rfl) ?_ _
                clear HI0 HI1
                subst hI
                go_wp2
                all_goals go_roundw
                all_goals first | exact ⟨j + 1 + 1, by omega, by go_num, HN, grown_trans HGR.out (grown_trans (grown_drewG (World.grownBy_alloc _ _ _)) g)⟩ | (simp [intOf]; omega)
              · have HB : Hid (validF fs = false) := valid_not (j + 1) hlt (by rw [okAt_succ hlt]; simp [hle])
                have hcm : ¬ cmpB (fs[j]'(by omega)).n fs[j + 1].n < 0 := fun h => hle ((cmpB_lt _ _).1 h)
                subst hnv hdv hpv hqv
                clear hp hp' hno hok hle
                generalize fs[j + 1] = p at *
                generalize fs[j] = p' at *
                generalize cmpB p'.n p.n = c at *
                go_wp2_with fail
                refine (HNm.out _).mono ?_; rintro e w1 ⟨rfl, rfl⟩
                go_wp2_with fail
                refine (HWi.out _).mono ?_; rintro e w1 ⟨rfl, rfl⟩
                go_wp2
                obtain ⟨I, hI⟩ : ∃ I : World → Prop, I = (fun W : World => W.cell? ⟨w.heap.size, 0, none⟩ = some (.slice (some ⟨b, off, none⟩) fs.length cap) ∧ W.cell? ⟨b, off + j * 3, none⟩ = some (.slice pa p'.n.length pcap) ∧ W.cell? ⟨b, off + j * 3 + 1, none⟩ = some (.slice qa p'.d.length qcap) ∧ W.cell? ⟨b, off + j * 3 + 2, none⟩ = some (.int .i64 p'.s) ∧ W.cell? ⟨wr.heap.size, 0, none⟩ = some (.slice na p.n.length ncap)) := ⟨_, rfl⟩
                have HI0 : I (wr.alloc (.cells #[.slice na p.n.length ncap, .slice da p.d.length dcap, .int .i64 p.s] 45)).drew := by rw [hI]; exact ⟨hfc2, y0', y1', y2', by simp [go_sem]⟩
                refine region_anyI I (fun _ => false) (by kernel_rfl) ?_
                show anyI _ _ _ _ _ _ 14 (Array.replicate 14 false) _ _
                refine anyI_take (i := 0) (.int .i64 ((j : Int) + 1)) rfl (by kernel_rfl) (by kernel_rfl) (by kernel_rfl) (by kernel_rfl) (fun _ _ _ h => h) HI0 (yldI rfl (fun W hW => by rw [hI] at hW; obtain ⟨c1, c2, c3, c4, c5⟩ := hW; go_simp)) ?_
                refine anyI_take (i := 1) (.bool true) rfl (by kernel_rfl) (by kernel_rfl) (by kernel_rfl) (by kernel_rfl) (fun _ _ _ h => h) HI0 (yldI rfl (fun W hW => by rw [hI] at hW; obtain ⟨c1, c2, c3, c4, c5⟩ := hW; go_simp)) ?_
                refine anyI_take (i := 2) (.bool true) rfl (by kernel_rfl) (by kernel_rfl) (by kernel_rfl) (by kernel_rfl) (fun _ _ _ h => h) HI0 (yldI rfl (fun W hW => by rw [hI] at hW; obtain ⟨c1, c2, c3, c4, c5⟩ := hW; go_simp)) ?_
                refine anyI_take (i := 3) (.pointer (some ⟨w.heap.size, 0, none⟩)) rfl (by kernel_rfl) (by kernel_rfl) (by kernel_rfl) (by kernel_rfl) (fun _ _ _ h => h) HI0 (yldG (by go_simp) (fun W hW => by rw [hI] at hW; obtain ⟨c1, c2, c3, c4, c5⟩ := hW; go_simp)) ?_
                refine anyI_take (i := 4) (.slice (some ⟨b, off, none⟩) fs.length cap) rfl (by kernel_rfl) (by kernel_rfl) (by kernel_rfl) (by kernel_rfl) (fun _ _ _ h => h) HI0 (yldG (by go_simp) (fun W hW => by rw [hI] at hW; obtain ⟨c1, c2, c3, c4, c5⟩ := hW; go_simp)) ?_
                refine anyI_take (i := 5) (.int .i64 ((j : Int) + 1)) rfl (by kernel_rfl) (by kernel_rfl) (by kernel_rfl) (by kernel_rfl) (fun _ _ _ h => h) HI0 (yldG (by go_simp) (fun W hW => by rw [hI] at hW; obtain ⟨c1, c2, c3, c4, c5⟩ := hW; go_simp)) ?_
                refine anyI_take (i := 6) (.int .i64 (j : Int)) rfl (by kernel_rfl) (by kernel_rfl) (by kernel_rfl) (by kernel_rfl) (fun _ _ _ h => h) HI0 (yldG (by go_simp) (fun W hW => by rw [hI] at hW; obtain ⟨c1, c2, c3, c4, c5⟩ := hW; go_simp; try exact hjw)) ?_
                refine anyI_take (i := 7) (.pointer (some ⟨b, off + j * 3, none⟩)) rfl (by kernel_rfl) (by kernel_rfl) (by kernel_rfl) (by kernel_rfl) (fun _ _ _ h => h) HI0 (yldG (by go_simp) (fun W hW => by rw [hI] at hW; obtain ⟨c1, c2, c3, c4, c5⟩ := hW; go_simp)) ?_
                refine anyI_take (i := 8) (.agg #[.slice pa p'.n.length pcap, .slice qa p'.d.length qcap, .int .i64 p'.s]) rfl (by kernel_rfl) (by kernel_rfl) (by kernel_rfl) (by kernel_rfl) (fun _ _ _ h => h) HI0 (yldG (by go_simp) (fun W hW => by rw [hI] at hW; obtain ⟨c1, c2, c3, c4, c5⟩ := hW; go_simp)) ?_
                refine anyI_take (i := 9) (.pointer (some ⟨wr.heap.size, 0, none⟩)) rfl (by kernel_rfl) (by kernel_rfl) (by kernel_rfl) (by kernel_rfl) (fun _ _ _ h => h) HI0 (yldG (by go_simp) (fun W hW => by rw [hI] at hW; obtain ⟨c1, c2, c3, c4, c5⟩ := hW; go_simp)) ?_
                refine anyI_take (i := 10) (.slice na p.n.length ncap) rfl (by kernel_rfl) (by kernel_rfl) (by kernel_rfl) (by kernel_rfl) (fun _ _ _ h => h) HI0 (yldG (by go_simp) (fun W hW => by rw [hI] at hW; obtain ⟨c1, c2, c3, c4, c5⟩ := hW; go_simp)) ?_
                generalize hG : Act.put _ _ _ = A11
                refine anyI_one (i := 11) (by kernel_rfl) ?_
                simp [Act.put] at hG
                subst hG
                refine wpOp_callG rfl (by go_simp) (by go_simp) (HCm.out ((wr.alloc (.cells #[.slice na p.n.length ncap, .slice da p.d.length dcap, .int .i64 p.s] 45)).drew) (grown_drewG (World.grownBy_alloc _ _ _))) ?_
                rintro e w1 ⟨rfl, g⟩
                have HI1 : I w1 := by
                  rw [hI] at HI0 ⊢
                  obtain ⟨c1, c2, c3, c4, c5⟩ := HI0
                  exact ⟨g.cell c1 (by simp), g.cell c2 (by simp), g.cell c3 (by simp), g.cell c4 (by simp), g.cell c5 (by simp)⟩
                refine ⟨_, rfl, .inr HI1, ?_⟩
                refine anyI_one (i := 12) (by kernel_rfl) (wpOp_valG (v := .bool true) rfl (by go_simp) (by go_simp) ⟨.inr HI1, ?_⟩)
                refine anyI_one (i := 13) (by kernel_rfl) (wpOp_val (v := .bool true) rfl rfl (by go_simp) ⟨.inr HI1, ?_⟩)
                refine anyI_done (by kernel_rfl) ?_ _
                clear HI0 HI1
                subst hI
                go_wp2
                all_goals go_ret
                all_goals exact ⟨by rw [HB.out]; rfl, grown_trans HG.out (grown_trans (grown_drewG (World.grownBy_alloc _ _ _)) g)⟩
          · have HB : Hid (validF fs = false) := valid_not k hlt (by cases k with | zero => rw [okAt_zero hlt, okF]; simp [hsf] | succ j => rw [okAt_succ hlt, okF]; simp [hsf])
            rw [show within fs[k].s fs[k].d.length = false from decide_eq_false hsf] at HWi
            subst hnv hdv
            clear hp hno hsf
            generalize fs[k] = p at *
            go_wp2_with fail
            refine (HNm.out _).mono ?_; rintro e w1 ⟨rfl, rfl⟩
            go_wp2_with fail
            refine (HWi.out _).mono ?_; rintro e w1 ⟨rfl, rfl⟩
            go_wp2
            go_ret
            exact ⟨by rw [HB.out]; rfl, grown_trans HG.out (World.grownBy_alloc _ _ _)⟩
        · have HB : Hid (validF fs = false) := valid_not k hlt (by cases k with | zero => rw [okAt_zero hlt, okF]; simp [hno] | succ j => rw [okAt_succ hlt, okF]; simp [hno])
          rw [show nameOK fs[k].n = false by simpa using hno] at HNm
          subst hnv hdv
          clear hp hno
          generalize fs[k] = p at *
          go_wp2_with fail
          refine (HNm.out _).mono ?_; rintro e w1 ⟨rfl, rfl⟩
          go_wp2
          go_ret
          exact ⟨by rw [HB.out]; rfl, grown_trans HG.out (World.grownBy_alloc _ _ _)⟩
      · have HF : Hid (validF fs = true) := valid_all (by omega) (by have := HA.out; rw [show k = fs.length by omega] at this; exact this)
        go_wp2
        go_ret
        exact ⟨by rw [HF.out]; rfl, HG.out⟩

end Go.Proofs.YtakkdniikhgpdaaGreatDoor

