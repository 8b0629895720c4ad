import Derived.Test.YtbiiopiaglkicaaDoorPush
import Derived.Test.YtbiiopiaglkicaaDoorBuilder
import Derived.Deep.RegionLaw
namespace Go.Proofs.YtbiiopiaglkicaaDoor
open Go.RowKit

/-- An append inside a region that draws its order, where what it does is known. -/
theorem step_append_known {P : Program} {ops : Array Oper} {o : Oper} {a : Act} {w : World} {K : Act → World → Prop} {Q : Exit → Act → World → Prop} {E : Prop} (hg : o.guard = none) (s x : Operand) (t : TypeId)
    (hop : o.op = Op.call { callee := Callee.builtin Builtin.append, args := #[s, x], argTypes := #[t, t] }) (v xv v' : Value) (w' : World) (hs : a.eval s = v) (hx : a.eval x = xv)
    (hrun : (Builtin.append_ #[t, t] o.type #[v, xv]).run P w = .ok v' w') (hK : K (a.put o.dst v') w') : if Region.wanted o (yielded ops a.tmps) = true then Oper.wp P o a w K Q else E := by
  rw [if_pos (show Region.wanted o (yielded ops a.tmps) = true by simp [Region.wanted, hg])]
  unfold Oper.wp
  simp only [execOp, hop, resolve, invoke, builtin, Sem.run_bind, Sem.run_pure, Result.andThen_ok, List.map_toArray, List.map_cons, List.map_nil, hs, hx, hrun]
  exact hK

set_option maxHeartbeats 2000000 in
set_option maxRecDepth 100000 in
theorem catPush_any (B : Nat) (w : World) (wv : Value) (n : Nat) (vs : List Value) (fl : Bool) (b : Nat) (t t' : TypeId) (u u' : Value) (c0 : w.cell? ⟨b, 0, none⟩ = some (.iface t u)) (c1 : w.cell? ⟨b, 1, none⟩ = some (.iface t' u')) (hrow : w.ownsRow B 84 1 wv n vs) (hB : B ≤ w.heap.size) (hn : n ≤ 1048576) :
    Calls Tryd.prog 131 #[.pointer (some ⟨b, 0, none⟩), wv, .bool fl] w fun e w' => PushSays B w wv n vs [.iface t' u', .iface t u] e w' := by
  obtain ⟨i0, hi, hz0, hz1, hz2⟩ := info_parts infoNode
  obtain ⟨a, cap, hwv, _, _⟩ := row_form hrow
  subst hwv
  have hrow1 : w.drew.ownsRow B 84 1 (.slice a n cap) n vs := hrow
  obtain ⟨v', w1, hrun, hown', hgrow, _, hat⟩ := run_append_own_at (P := Tryd.prog) (w.drew.alloc (.cells #[.iface t' u', .iface t u] 84)) B 63 63 84 i0 .nilIface 1 16 Tryd.underlying63 hi hz0 hz1 hz2 rfl (by decide) (.slice a n cap) n vs (World.ownsRow.alloc hrow1 _) ⟨w.heap.size, 0, none⟩ 2 2 [.iface t' u', .iface t u] rfl (cells_pair w.drew _ _ _) (by intro u hu; simp at hu; rcases hu with rfl | rfl <;> rfl) (by unfold maxLen; omega) (by omega) (by simp; omega)
  have hrun2 := hrun
  rw [World.alloc_drew] at hrun2
  have HO : Hid (w1.ownsRow B 84 1 v' (n + 2) (vs ++ [.iface t' u', .iface t u])) := hown'
  have g0 : w.grownBy (w.drew.alloc (.cells #[.iface t' u', .iface t u] 84)) none := ⟨rfl, rfl, rfl, by simp, fun i hi _ => heap_alloc_old w.drew _ i hi⟩
  have HG : Hid (w.grownBy w1 (Value.slice a n cap).ownBlock) := grown_row g0 hgrow
  have HAt : Hid (v'.ownBlock = (Value.slice a n cap).ownBlock ∨ ∃ g, v'.ownBlock = some g ∧ w.heap.size ≤ g) := by
    rcases hat with h | h
    · exact .inl h
    · exact .inr ⟨_, h, by simp⟩
  obtain ⟨va, vcap, hv', _, _⟩ := row_form hown'
  clear hrow hrow1 hown' hgrow hat g0
  subst hv'
  go_enter Tryd.func131, Tryd.ntmps131
  go_wp2
  go_region_law (refine step_append_known rfl (.tmp 7) (.tmp 16) 63 rfl _ _ _ _ (by simp [Act.eval]) (by simp [Act.eval]) hrun2 ?_)
  all_goals
    go_wp2
    go_ret
    exact ⟨_, rfl, HO.out, HG.out, HAt.out⟩

end Go.Proofs.YtbiiopiaglkicaaDoor
