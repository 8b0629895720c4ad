import Derived.Test.YtbiiopiaglkicaaDoorCards
import Derived.Test.YtbiiopiaglkicaaDoorTie
import Derived.Test.YtbiiopiaglkicaaDoorFlatLaw
import Derived.Test.YtbiiopiaglkicaaDoorOpenP
import Derived.WalkKit
import Derived.ProofKit
import Derived.OpenShut
import Derived.WalkSmall
import Derived.Deep.DeepHandedRow
import Derived.Lib.LaidTab
namespace Go.Proofs.YtbiiopiaglkicaaDoor.fnExactFlatText
open Go.ChangeShapes Go.WideShapes Go.ChangeAt Go.RowKit

theorem own : ownKnob Tryd.prog.godebug = none := by kernel_rfl
theorem laidOut : laidOutB Tryd.prog = true := by kernel_rfl
theorem gTab : Tryd.prog.globalNamed "loop.example/s02863/impl.formEnds" = some 0 := by kernel_rfl
theorem gTabType : (Tryd.prog.globals[0]?).map (·.type) = some 184 := by kernel_rfl
theorem cellsT : Tryd.prog.cellsOf 184 = 5 := by kernel_rfl
theorem cellsE : Tryd.prog.cellsOf 21 = 1 := by kernel_rfl

theorem table {W : World} (h : laidMetH Tryd.prog Rows.fnExactFlatTextRow.laid W) : Lib.TabIs Tryd.prog W "loop.example/s02863/impl.formEnds" .i32 [0, 128, 2048, 65536, 2097152] :=
  Lib.tabIs_of_head (rest := []) gTab gTabType Tryd.underlying184 Tryd.underlying21 cellsE cellsT h
theorem tab_of {W : World} (h : Lib.TabIs Tryd.prog W "loop.example/s02863/impl.formEnds" .i32 [0, 128, 2048, 65536, 2097152]) : Tab W :=
  ⟨h.cell gTab 0 (by decide), h.cell gTab 1 (by decide), h.cell gTab 2 (by decide), h.cell gTab 3 (by decide), h.cell gTab 4 (by decide)⟩
theorem tab_read {H : Type} (enc : TypeId × Value → H) (W : World) (sp : Nat → Bool) :
    DataW.trod enc Tryd.prog W 0 sp true 3 184 ([0, 128, 2048, 65536, 2097152].map fun z => Value.int .i32 z) = some (.agg [.lit (.int .i32 0), .lit (.int .i32 128), .lit (.int .i32 2048), .lit (.int .i32 65536), .lit (.int .i32 2097152)], []) := by kernel_rfl
theorem vars_at {H : Type} (enc : TypeId × Value → H) {W : World} (sp : Nat → Bool) (h : Lib.TabIs Tryd.prog W "loop.example/s02863/impl.formEnds" .i32 [0, 128, 2048, 65536, 2097152]) :
    DataW.TrodVars enc Tryd.prog W sp ["loop.example/s02863/impl.formEnds"] [.agg [.lit (.int .i32 0), .lit (.int .i32 128), .lit (.int .i32 2048), .lit (.int .i32 65536), .lit (.int .i32 2097152)]] (MemPlace.row ⟨0, 0, none⟩ 5 ++ []) :=
  trodVars_mk1 (fuel := 3) gTab gTabType h (by simpa using tab_read enc W sp)

set_option maxRecDepth 100000 in
theorem contract (H : Type) (enc : TypeId × Value → H) (W : World) (base : Nat) (args : Array Value) (ds gs : List (DataW H)) (before : List MemPlace)
    (hval : ∀ (j : Nat) t v, Tryd.f8.params[j]? = some t → args[j]? = some v → Value.okWide Tryd.prog W .any base t v)
    (hW : DataW.Whole enc Tryd.prog Tryd.f8.params.toList Rows.fnExactFlatTextSpec.vars false W args.toList ds gs before) (hL : laidMetH Tryd.prog Rows.fnExactFlatTextRow.laid W) :
    Calls Tryd.prog 8 args W fun e W' => ∃ v, e = .returned v ∧ Rows.fnExactFlatTextSpec.post enc Tryd.prog Tryd.f8 false true false false W args v W' := by
  have hW' := hW
  obtain ⟨p, q, hA0, hV, rfl, hfz, hnd⟩ := hW
  have hA : DataW.TrodAll enc Tryd.prog W 0 (fun _ => true) true Tryd.f8.params.toList args.toList ds p := hA0
  rw [Tryd.params8] at hA hval
  obtain ⟨v0, vs0, d0, ds0, p0, q0, hargs, rfl, rfl, h0, r0⟩ := trodAll_cons hA
  obtain ⟨rfl, rfl, rfl⟩ := trodAll_nil r0
  obtain rfl : args = #[v0] := by cases args; simp_all
  have hTi := table hL
  obtain ⟨rfl, rfl⟩ := hV.unique (vars_at enc _ hTi)
  obtain ⟨a0, len0, cap0, rfl⟩ := okWide_slice Tryd.underlying22 (hval 0 22 v0 rfl rfl)
  have k0 := h0
  have lt0 : ∀ x ∈ p0, x.block < W.heap.size := by obtain ⟨m, hm⟩ := k0; exact DataW.trod_lt m _ _ _ hm
  obtain ⟨doc, hrd, hby⟩ : ∃ doc : List Pc, RdP W.heap.size W (.slice a0 len0 cap0) doc ∧ ∀ p ∈ doc, Bys p.t := by
    obtain ⟨fuel, hf⟩ := h0
    exact open_pieces hf
  clear hA0
  have hT := tab_of hTi
  refine (flatText_law _ doc W hrd hby hT).mono fun e W' ⟨he, bel⟩ => ?_
  subst he
  have hTi' : Lib.TabIs Tryd.prog W' "loop.example/s02863/impl.formEnds" .i32 [0, 128, 2048, 65536, 2097152] := var?_below bel gTab hT.pos hTi
  exact ⟨_, rfl, _, _, _, [], _, _, hW', trodAll_mk1 (shut_bool Tryd.underlying4 _), (trodAll_cons_mk (Below.trod laidOut (by kernel_rfl) (of_decide_eq_true (by kernel_rfl)) k0 bel lt0) trodAll_mk0), vars_at enc _ hTi', bel.frame _, fun h => by cases h⟩

noncomputable def laidWorld (os : Os) : World :=
  { World.holding Tryd.prog os ⟨#[], #[], []⟩ with heap := (World.holding Tryd.prog os ⟨#[], #[], []⟩).heap.modify 0 fun
      | .cells _ t frozen => .cells #[.int .i32 0, .int .i32 128, .int .i32 2048, .int .i32 65536, .int .i32 2097152] t frozen
      | o => o }
theorem laid_met (os : Os) : laidMet Tryd.prog Rows.fnExactFlatTextRow.laid ((laidWorld os).forCall (fun _ _ => 0) ⟨#[], #[.slice none 0 0], []⟩).memory :=
  laidMet_of_run' 8 (by kernel_rfl) (by kernel_rfl)
theorem reads (os : Os) {H : Type} (enc : TypeId × Value → H) : ∃ places, DataW.whole enc Tryd.prog ((laidWorld os).forCall (fun _ _ => 0) ⟨#[], #[.slice none 0 0], []⟩).memory Tryd.f8.params.toList Rows.fnExactFlatTextSpec.vars false #[Value.slice none 0 0].toList 8 = some ([.nil], [.agg [.lit (.int .i32 0), .lit (.int .i32 128), .lit (.int .i32 2048), .lit (.int .i32 65536), .lit (.int .i32 2097152)]], places) :=
  ⟨MemPlace.row ⟨0, 0, none⟩ 5, by kernel_rfl⟩

set_option maxRecDepth 100000 in
theorem lifted (os : Os) (started : os.Started) (H : Type) (enc : TypeId × Value → H) (F : Stop.Interp) :
    ReturnsInHanded {} Tryd.checked os 8 .any ((OpenSpec.ofChange Rows.fnExactFlatTextSpec).preRow enc Tryd.prog Tryd.f8 Rows.fnExactFlatTextRow.domain false Rows.fnExactFlatTextRow.laid) (((OpenSpec.ofChange Rows.fnExactFlatTextSpec).at F).post enc Tryd.prog Tryd.f8 false true false false) := by
  obtain ⟨places, hx⟩ := reads os enc
  refine returnsInHanded_of_row (C := Tryd.checked) (s := OpenSpec.ofChange Rows.fnExactFlatTextSpec) own started (by kernel_rfl) Tryd.func8
    (witness_row_at (enc := enc) (C := Tryd.checked) false (laidWorld os) #[.slice none 0 0] rfl (by kernel_rfl) (by kernel_rfl) (by kernel_rfl)
      (OpenSpec.preRow_of_cond 8 hx (by kernel_rfl) (fun k hk => by cases hk) (by kernel_rfl) (laid_met os))) ?_
  intro W base args ds gs before hval hW _ _ _ hL _ _
  exact contract H enc W base args ds gs before hval hW hL

theorem said : Rows.FnExactFlatTextSaid :=
  OpenClaim.holds_of_cond 8 Tryd.f8 rfl rfl rfl rfl rfl rfl rfl ⟨rfl, rfl, rfl, rfl, rfl⟩ rfl rfl rfl rfl rfl (by kernel_rfl) Tryd.func8 (by kernel_rfl)
    (of_decide_eq_true (by kernel_rfl)) (by unfold Func.isWrapper; first | (rw [if_pos (by decide +kernel)]; kernel_rfl) | (rw [if_neg (by decide +kernel)]; exact ⟨rfl, rfl⟩))
    (fun os started H enc _ F => by rw [OpenClaim.pre_eq_preRow]; exact lifted os started H enc F)

theorem plain (f : FuncId) (fn : Func) (hf : Tryd.pinned.checked.prog.funcNamed "loop.example/s02863/laws.FnExactFlatText" = some f) (hfn : Tryd.pinned.checked.prog.funcs[f]? = some fn) :
    true = Tryd.pinned.checked.prog.looks [] ∧ ∀ (j : Nat) t, fn.params[j]? = some t → Tryd.pinned.checked.prog.wantsStandIn t = false := by
  obtain rfl : f = 8 := Option.some.inj ((show Tryd.prog.funcNamed "loop.example/s02863/laws.FnExactFlatText" = some 8 by kernel_rfl).symm.trans hf) |>.symm
  obtain rfl : fn = Tryd.f8 := (Option.some.inj (Tryd.func8.symm.trans hfn)).symm
  refine ⟨by kernel_rfl, fun j t ht => ?_⟩
  rw [Tryd.params8] at ht
  obtain rfl : t = 22 := by simpa using Array.mem_of_getElem? ht
  exact (show Tryd.prog.wantsStandIn 22 = false by kernel_rfl)

theorem card : Rows.FnExactFlatTextCardSaid :=
  Claim7.holds_tied_plain_at .later [] _ _ _ _ said (fun _ h => by cases h) (by kernel_rfl) (fun _ h => by cases h) fnExactFlatText_row_tie rfl ⟨rfl, rfl⟩ (by kernel_rfl) rfl plain (by kernel_rfl)
end Go.Proofs.YtbiiopiaglkicaaDoor.fnExactFlatText
namespace Go.Proofs.YtbiiopiaglkicaaDoor
theorem fnExactFlatText_proved : Rows.FnExactFlatTextCardSaid := fnExactFlatText.card
end Go.Proofs.YtbiiopiaglkicaaDoor
