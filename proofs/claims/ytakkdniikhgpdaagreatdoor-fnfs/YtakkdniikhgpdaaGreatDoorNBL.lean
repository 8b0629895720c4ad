import Derived.Test.YtakkdniikhgpdaaGreatDoorCards
import Derived.Test.YtakkdniikhgpdaaGreatDoorTie
import Derived.WalkKit
import Derived.ProofKit
import Derived.OpenShut
import Derived.ShutString
import Derived.ChangeOld
import Derived.Below
import Derived.WalkSmall
import Derived.Deep.DeepHandedRow
import Derived.Test.YtakkdniikhgpdaaGreatDoorNBJ
import Derived.Test.YtakkdniikhgpdaaGreatDoorNBK
namespace Go.Proofs.YtakkdniikhgpdaaGreatDoor.fnFs
open Go.ChangeShapes Go.WideShapes Go.ChangeAt Go.RowKit
set_option linter.unusedVariables false

theorem own : ownKnob Tryz.prog.godebug = none := by kernel_rfl
theorem laidOut : laidOutB Tryz.prog = true := by kernel_rfl

theorem byt_wfL {zs : List Int} (h : ∀ z ∈ zs, (Lit.int .u8 z).wf = true) : Bys zs := fun z hz => by
  have := h z hz
  simp only [Lit.wf, Bool.and_eq_true, decide_eq_true_eq] at this
  obtain ⟨h1, h2⟩ := this
  have e1 : IntKind.u8.min = 0 := rfl
  have e2 : IntKind.u8.max = 255 := rfl
  rw [e1] at h1; rw [e2] at h2
  exact ⟨h1, h2⟩

/-- A text among the arguments, opened. -/
theorem open_bytesL {H : Type} {enc : TypeId × Value → H} {W : World} {fuel : Nat} {v : Value} {x : DataW H × List MemPlace} (hf : DataW.trod enc Tryz.prog W 0 (fun _ => true) true fuel 22 [v] = some x) : ∃ zs : List Int, RdB W.heap.size W v zs ∧ Sl v zs.length ∧ Bys zs := by
  rcases open_ints Tryz.underlying22 Tryz.underlying5 (by kernel_rfl) hf with ⟨hv1, _⟩ | ⟨ax, l, c, zs, hv1, _, hl1, hm1, hz, _, hcz, hwz⟩
  · simp at hv1
    subst hv1
    exact ⟨[], ⟨none, 0, rfl, fun h => absurd rfl h⟩, ⟨none, 0, rfl, Nat.le_refl _, by unfold maxLen; omega⟩, fun z hz => by cases hz⟩
  · simp at hv1
    subst hv1
    simp only [if_true] at hz
    have hlen1 : (zs.take l).length = l := by rw [List.length_take]; omega
    refine ⟨zs.take l, ?_, ?_, byt_wfL (fun z hzm => hwz z (List.mem_of_mem_take hzm))⟩
    · have := rd_of_row (q := .u8) ax (zs.take l) zs l c W rfl hlen1 (by omega) hcz
      rw [hlen1] at this
      exact this
    · exact ⟨some ax, c, by rw [hlen1], by rw [hlen1]; omega, hm1⟩

/-- The three variables as the row names them. -/
theorem vars_n {H : Type} (enc : TypeId × Value → H) {W : World} {a0 a1 a2 : Addr} (h : Vars3 W a0 a1 a2) (sp : Nat → Bool) :
    DataW.TrodVars enc Tryz.prog W sp ["loop.example/s02863/impl.errNone", "loop.example/s02863/impl.errFull", "loop.example/s02863/impl.errBad"] [tok enc (Er a1), tok enc (Er a2), tok enc (Er a0)] [.cell 1 0, .cell 2 0, .cell 0 0] :=
  ⟨1, 54, #[Er a1], 1, [], [.cell 2 0, .cell 0 0], gNone, gNoneT, h.v1, trod_held Tryz.underlying54 (show IsIface (Er a1) from trivial) 0, ⟨2, 54, #[Er a2], 1, [], [.cell 0 0], gFull, gFullT, h.v2, trod_held Tryz.underlying54 (show IsIface (Er a2) from trivial) 0, ⟨0, 54, #[Er a0], 1, [], [], gBad, gBadT, h.v0, trod_held Tryz.underlying54 (show IsIface (Er a0) from trivial) 0, rfl, rfl⟩, rfl⟩, rfl⟩

set_option maxRecDepth 100000 in
theorem contract (H : Type) (enc : TypeId × Value → H) (W : World) (base : Nat) (args : Array Value) (ds gs : List (DataW H)) (before : List MemPlace)
    (hval : ∀ (j : Nat) t v, Tryz.f3.params[j]? = some t → args[j]? = some v → Value.okWide Tryz.prog W .any base t v)
    (hW : DataW.Whole enc Tryz.prog Tryz.f3.params.toList Rows.fnFsSpec.vars false W args.toList ds gs before) (hL : laidMetH Tryz.prog Rows.fnFsRow.laid W) :
    Calls Tryz.prog 3 args W fun e W' => ∃ v, e = .returned v ∧ Rows.fnFsSpec.post enc Tryz.prog Tryz.f3 false true false false W args v W' := by
  have hW' := hW
  obtain ⟨p, q, hA0, hV, rfl, hfz, hnd⟩ := hW
  have hA : DataW.TrodAll enc Tryz.prog W 0 (fun _ => true) true Tryz.f3.params.toList args.toList ds p := hA0
  rw [Tryz.params3] at hA hval
  obtain ⟨v0, vs0, d0, ds0, p0, q0, hargs0, rfl, rfl, h0, r0⟩ := trodAll_cons hA
  obtain ⟨v1, vs1, d1, ds1, p1, q1, hargs1, rfl, rfl, h1, r1⟩ := trodAll_cons r0
  obtain ⟨rfl, rfl, rfl⟩ := trodAll_nil r1
  obtain rfl : args = #[v0, v1] := by cases args; simp_all
  obtain ⟨b0, b1, b2, hvs, herr⟩ := laid_errs hL
  obtain ⟨rfl, rfl⟩ := hV.unique (vars_n enc hvs _)
  obtain ⟨x0, len0, cap0, rfl⟩ := okWide_slice Tryz.underlying22 (hval 0 22 v0 rfl rfl)
  obtain ⟨x1, len1, cap1, rfl⟩ := okWide_slice Tryz.underlying22 (hval 1 22 v1 rfl rfl)
  have k0 := h0
  have lt0 : ∀ x ∈ p0, x.block < W.heap.size := by obtain ⟨m, hm⟩ := k0; exact DataW.trod_lt m _ _ _ hm
  have k1 := h1
  have lt1 : ∀ x ∈ p1, x.block < W.heap.size := by obtain ⟨m, hm⟩ := k1; exact DataW.trod_lt m _ _ _ hm
  obtain ⟨z0, hz0, hl0, hb0⟩ : ∃ zs : List Int, RdB W.heap.size W (.slice x0 len0 cap0) zs ∧ Sl (.slice x0 len0 cap0) zs.length ∧ Bys zs := by
    obtain ⟨fuel, hf⟩ := h0
    exact open_bytesL hf
  obtain ⟨z1, hz1, hl1, hb1⟩ : ∃ zs : List Int, RdB W.heap.size W (.slice x1 len1 cap1) zs ∧ Sl (.slice x1 len1 cap1) zs.length ∧ Bys zs := by
    obtain ⟨fuel, hf⟩ := h1
    exact open_bytesL hf
  clear hA0
  obtain ⟨y0, c0, e0, lc0, mc0⟩ := hl0
  obtain ⟨y1, c1, e1, lc1, mc1⟩ := hl1
  simp only [Value.slice.injEq] at e0 e1
  obtain ⟨rfl, rfl, rfl⟩ := e0
  obtain ⟨rfl, rfl, rfl⟩ := e1
  unfold maxLen at mc0 mc1
  refine (fs_law _ _ _ _ z0 z1 b0 b1 b2 W hz0 hz1 hb0 hb1 lc0 (by omega) lc1 (by omega) herr).mono fun e W' ⟨he, hgr⟩ => ?_
  have bel := below_of_grown hgr
  subst he
  exact ⟨_, rfl, _, _, _, [], _, _, hW', trodAll_mk1 (shut_bool Tryz.underlying4 _), (trodAll_cons_mk (Below.trod laidOut (by kernel_rfl) (of_decide_eq_true (by kernel_rfl)) k0 bel lt0) (trodAll_cons_mk (Below.trod laidOut (by kernel_rfl) (of_decide_eq_true (by kernel_rfl)) k1 bel lt1) trodAll_mk0)), vars_n enc (hvs.below herr bel) _, bel.frame _, fun h => by cases h⟩

abbrev sBad : ByteArray := { data := #[97, 110, 32, 97, 114, 103, 117, 109, 101, 110, 116, 32, 105, 115, 32, 110, 111, 116, 32, 118, 97, 108, 105, 100] }
abbrev sNone : ByteArray := { data := #[116, 104, 101, 114, 101, 32, 105, 115, 32, 110, 111, 32, 115, 117, 99, 104, 32, 102, 105, 108, 101] }
abbrev sFull : ByteArray := { data := #[116, 104, 101, 114, 101, 32, 105, 115, 32, 110, 111, 32, 114, 111, 111, 109, 32, 102, 111, 114, 32, 97, 32, 102, 105, 108, 101] }
noncomputable def low : Nat := (World.holding Tryz.prog default ⟨#[], #[], []⟩).heap.size
noncomputable def laidWorld (os : Os) : World :=
  let w0 := World.holding Tryz.prog os ⟨#[.cells #[.string sBad] 191, .cells #[.string sNone] 191, .cells #[.string sFull] 191], #[], []⟩
  { w0 with heap := ((w0.heap.modify 0 fun
      | .cells _ t frozen => .cells #[Er ⟨low, 0, none⟩] t frozen
      | o => o).modify 1 fun
      | .cells _ t frozen => .cells #[Er ⟨low + 1, 0, none⟩] t frozen
      | o => o).modify 2 fun
      | .cells _ t frozen => .cells #[Er ⟨low + 2, 0, none⟩] t frozen
      | o => o }
theorem laid_met (os : Os) : laidMet Tryz.prog Rows.fnFsRow.laid ((laidWorld os).forCall (fun _ _ => 0) ⟨#[], #[.slice none 0 0, .slice none 0 0], []⟩).memory :=
  laidMet_of_run' 8 (by kernel_rfl) (by kernel_rfl)

set_option maxRecDepth 100000 in
theorem lifted (os : Os) (started : os.Started) (H : Type) (enc : TypeId × Value → H) (F : Stop.Interp) :
    ReturnsInHanded {} Tryz.checked os 3 .any ((OpenSpec.ofChange Rows.fnFsSpec).preRow enc Tryz.prog Tryz.f3 Rows.fnFsRow.domain false Rows.fnFsRow.laid) (((OpenSpec.ofChange Rows.fnFsSpec).at F).post enc Tryz.prog Tryz.f3 false true false false) := by
  refine returnsInHanded_of_row (C := Tryz.checked) (s := OpenSpec.ofChange Rows.fnFsSpec) own started (by kernel_rfl) Tryz.func3
    (witness_row_at (enc := enc) (C := Tryz.checked) false (laidWorld os) #[.slice none 0 0, .slice none 0 0] rfl (by kernel_rfl) (by kernel_rfl) (by kernel_rfl)
      (OpenSpec.preRow_of_B rfl 8 (by kernel_rfl) (by kernel_rfl) (laid_met os))) ?_
  intro W base args ds gs before hval hW _ _ _ hL _ _
  exact contract H enc W base args ds gs before hval hW hL

theorem said : Rows.FnFsSaid :=
  OpenClaim.holds_of_cond 3 Tryz.f3 rfl rfl rfl rfl rfl rfl rfl ⟨rfl, rfl, rfl, rfl, rfl⟩ rfl rfl rfl rfl rfl (by kernel_rfl) Tryz.func3 (by kernel_rfl)
    (of_decide_eq_true (by kernel_rfl)) (by unfold Func.isWrapper; first | (rw [if_pos (by decide +kernel)]; kernel_rfl) | (rw [if_neg (by decide +kernel)]; exact ⟨rfl, rfl⟩))
    (fun os started H enc _ F => by rw [OpenClaim.pre_eq_preRow]; exact lifted os started H enc F)

theorem plain (f : FuncId) (fn : Func) (hf : Tryz.pinned.checked.prog.funcNamed "loop.example/s02863/laws.FnFs" = some f) (hfn : Tryz.pinned.checked.prog.funcs[f]? = some fn) :
    true = Tryz.pinned.checked.prog.looks [] ∧ ∀ (j : Nat) t, fn.params[j]? = some t → Tryz.pinned.checked.prog.wantsStandIn t = false := by
  obtain rfl : f = 3 := Option.some.inj ((show Tryz.prog.funcNamed "loop.example/s02863/laws.FnFs" = some 3 by kernel_rfl).symm.trans hf) |>.symm
  obtain rfl : fn = Tryz.f3 := (Option.some.inj (Tryz.func3.symm.trans hfn)).symm
  refine ⟨by kernel_rfl, fun j t ht => ?_⟩
  rw [Tryz.params3] at ht
  have hm := Array.mem_of_getElem? ht
  simp only [List.mem_toArray, List.mem_cons, List.not_mem_nil, or_false] at hm
  rcases hm with rfl | rfl
  · exact (show Tryz.prog.wantsStandIn 22 = false by kernel_rfl)
  · exact (show Tryz.prog.wantsStandIn 22 = false by kernel_rfl)

theorem card : Rows.FnFsCardSaid :=
  Claim7.holds_tied_plain_at .later [] _ _ _ _ said (fun _ h => by cases h) (by kernel_rfl) (fun _ h => by cases h) fnFs_row_tie rfl ⟨rfl, rfl⟩ (by kernel_rfl) rfl plain (by kernel_rfl)
end Go.Proofs.YtakkdniikhgpdaaGreatDoor.fnFs
namespace Go.Proofs.YtakkdniikhgpdaaGreatDoor
theorem fnFs_proved : Rows.FnFsCardSaid := fnFs.card
end Go.Proofs.YtakkdniikhgpdaaGreatDoor

