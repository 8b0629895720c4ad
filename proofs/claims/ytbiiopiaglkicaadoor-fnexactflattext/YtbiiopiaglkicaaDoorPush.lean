import Derived.Test.YtbiiopiaglkicaaDoorMeth2
import Derived.Test.YtbiiopiaglkicaaDoorStarts
import Derived.Deep.RegionWith
namespace Go.Proofs.YtbiiopiaglkicaaDoor
open Go.RowKit

theorem infoNode : (Tryd.prog.info? 84).map (fun i => (i.zero, i.size, i.bytes)) = some (some .nilIface, 1, 16) := by kernel_rfl

/-- What a push leaves: ks behind what lay there. -/
def PushSays (B : Nat) (w : World) (wv : Value) (n : Nat) (vs ks : List Value) (e : Ending) (w' : World) : Prop :=
  ∃ wv', e = .returned wv' ∧ w'.ownsRow B 84 1 wv' (n + ks.length) (vs ++ ks) ∧ w.grownBy w' wv.ownBlock ∧ (wv'.ownBlock = wv.ownBlock ∨ ∃ g, wv'.ownBlock = some g ∧ w.heap.size ≤ g)

theorem grown_row {w w1 w' : World} {row : Option Nat} (h : w.grownBy w1 none) (k : w1.grownBy w' row) : w.grownBy w' row :=
  ⟨k.os.trans h.os, k.tape.trans h.tape, k.output.trans h.output, Nat.le_trans h.size k.size, fun i hi hn => (k.block i (Nat.lt_of_lt_of_le hi h.size) hn).trans (h.block i hi (by simp))⟩

set_option maxHeartbeats 1000000 in
set_option maxRecDepth 100000 in
theorem leafPush_any (B : Nat) (w : World) (wv : Value) (n : Nat) (vs : List Value) (fl : Bool) (hrow : w.ownsRow B 84 1 wv n vs) :
    Calls Tryd.prog 129 #[.agg #[], wv, .bool fl] w fun e w' => PushSays B w wv n vs [] e w' := by
  obtain ⟨a, cap, hwv, _, _⟩ := row_form hrow
  have HR : Hid (w.ownsRow B 84 1 wv n vs) := hrow
  subst hwv
  clear hrow
  go_enter Tryd.func129, Tryd.ntmps129
  go_wp2
  go_ret
  exact ⟨_, rfl, by simpa using World.ownsRow.alloc HR.out _, World.grownBy_alloc _ _ _, .inl rfl⟩

set_option maxHeartbeats 1000000 in
set_option maxRecDepth 100000 in
theorem operandPush_any (B : Nat) (w : World) (wv : Value) (n : Nat) (vs : List Value) (fl : Bool) (t : TypeId) (u : Value) (hrow : w.ownsRow B 84 1 wv n vs) (hB : B ≤ w.heap.size) (hn : n ≤ 1048576) :
    Calls Tryd.prog 130 #[.agg #[.iface t u], wv, .bool fl] w fun e w' => PushSays B w wv n vs [.iface t u] e w' := by
  obtain ⟨i0, hi, hz0, hz1, hz2⟩ := info_parts infoNode
  obtain ⟨a, cap, hwv, _, _⟩ := row_form hrow
  have hrow1 := World.ownsRow.alloc hrow (.cells #[.iface t u] 143)
  subst hwv
  clear hrow
  go_enter Tryd.func130, Tryd.ntmps130
  go_wp2_with (at_builtin; refine wpList_append_own_at _ rfl _ _ 63 rfl B 84 i0 .nilIface 1 16 Tryd.underlying63 hi hz0 hz1 hz2 rfl (by decide) _ _ _ rfl (World.ownsRow.alloc hrow1 _) ⟨w.heap.size + 1, 0, none⟩ 1 1 [.iface t u] rfl rfl (by have := cell_one_new (w.alloc (.cells #[.iface t u] 143)) (.iface t u) 84; rw [World.size_alloc] at this; exact this) (by intro u hu; simp at hu; subst hu; rfl) (by unfold maxLen; omega) (by omega) (by simp; omega) ?_; intro v' w1 hown' hgrow _ hat)
  go_ret
  refine ⟨v', rfl, hown', ?_, ?_⟩
  · exact grown_row (grown_trans (World.grownBy_alloc _ _ _) (World.grownBy_alloc _ _ _)) hgrow
  · rcases hat with h | h
    · exact .inl h
    · exact .inr ⟨_, h, by simp; omega⟩

set_option maxHeartbeats 1000000 in
set_option maxRecDepth 100000 in
theorem altPush_any (B : Nat) (w : World) (wv : Value) (n : Nat) (vs : List Value) (fl : Bool) (b : Nat) (t t' : TypeId) (u u' : Value) (c0 : w.cell? ⟨b, 0, none⟩ = some (.iface t u)) (c1 : w.cell? ⟨b, 1, none⟩ = some (.iface t' u')) (hrow : w.ownsRow B 84 1 wv n vs) (hB : B ≤ w.heap.size) (hn : n ≤ 1048576) :
    Calls Tryd.prog 132 #[.pointer (some ⟨b, 0, none⟩), wv, .bool fl] w fun e w' => PushSays B w wv n vs [if fl then .iface t' u' else .iface t u] e w' := by
  obtain ⟨i0, hi, hz0, hz1, hz2⟩ := info_parts infoNode
  obtain ⟨a, cap, hwv, _, _⟩ := row_form hrow
  subst hwv
  cases fl with
  | true =>
    go_enter Tryd.func132, Tryd.ntmps132
    go_wp2_with (at_builtin; refine wpList_append_own_at _ rfl _ _ 63 rfl B 84 i0 .nilIface 1 16 Tryd.underlying63 hi hz0 hz1 hz2 rfl (by decide) _ _ _ rfl (World.ownsRow.alloc hrow _) ⟨w.heap.size, 0, none⟩ 1 1 [.iface t' u'] rfl rfl (cell_one_new _ _ _) (by intro u hu; simp at hu; subst hu; rfl) (by unfold maxLen; omega) (by omega) (by simp; omega) ?_; intro v' w1 hown' hgrow _ hat)
    go_ret
    refine ⟨v', rfl, hown', grown_row (World.grownBy_alloc _ _ _) hgrow, ?_⟩
    rcases hat with h | h
    · exact .inl h
    · exact .inr ⟨_, h, by simp⟩
  | false =>
    go_enter Tryd.func132, Tryd.ntmps132
    go_wp2_with (at_builtin; refine wpList_append_own_at _ rfl _ _ 63 rfl B 84 i0 .nilIface 1 16 Tryd.underlying63 hi hz0 hz1 hz2 rfl (by decide) _ _ _ rfl (World.ownsRow.alloc hrow _) ⟨w.heap.size, 0, none⟩ 1 1 [.iface t u] rfl rfl (cell_one_new _ _ _) (by intro u hu; simp at hu; subst hu; rfl) (by unfold maxLen; omega) (by omega) (by simp; omega) ?_; intro v' w1 hown' hgrow _ hat)
    go_ret
    refine ⟨v', rfl, hown', grown_row (World.grownBy_alloc _ _ _) hgrow, ?_⟩
    rcases hat with h | h
    · exact .inl h
    · exact .inr ⟨_, h, by simp⟩

end Go.Proofs.YtbiiopiaglkicaaDoor
