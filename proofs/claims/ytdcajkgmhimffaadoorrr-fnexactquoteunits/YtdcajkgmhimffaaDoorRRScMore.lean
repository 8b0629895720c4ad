import Derived.Test.YtdcajkgmhimffaaDoorRRScBytes
namespace Go.Proofs.YtdcajkgmhimffaaDoorRR
open Go.RowKit

theorem Tx.wide {B B' : Nat} {w : World} {tv : Value} {zs : List Int} (h : Tx B w tv zs) (hB : B ≤ B') : Tx B' w tv zs := by
  obtain ⟨⟨a, cap, hv, hr⟩, h2, h3, h4⟩ := h
  refine ⟨⟨a, cap, hv, fun h0 => ?_⟩, h2, h3, h4⟩
  obtain ⟨b, off, ha, hb, hc⟩ := hr h0
  exact ⟨b, off, ha, by omega, hc⟩
theorem sc_new (w : World) (tv : Value) (n : Nat) : Sc w.heap.size (w.alloc (.cells #[tv, .int .i64 n] 36)) tv n :=
  ⟨by simp [go_sem], by simp [go_sem], fun j => by simp [go_sem]⟩
/-- A row that was laid since: nothing of w has turned. -/
theorem grown_over {a b c : World} {k : Nat} (h : a.grownBy b none) (hk : a.heap.size ≤ k) (g : b.grownBy c (some k)) : a.grownBy c none := grown_new h g (fun j e => by cases e; exact hk)

set_option maxHeartbeats 1000000 in
set_option maxRecDepth 100000 in
theorem peek_any (sb n : Nat) (tv : Value) (zs : List Int) (w : World) (hT : Tab w) (h : Sc sb w tv n) (ht : Tx sb w tv zs) (hn : n ≤ zs.length) :
    Calls Tryd.prog 41 #[.pointer (some ⟨sb, 0, none⟩)] w fun e w' => e = .returned (.int .i32 (nxP zs n)) ∧ w.grownBy w' none := by
  have hlt := h.lt
  have h0 := h.c0
  have h1 := h.c1
  have hg := World.grownBy_alloc w (.cells #[tv, .int .i64 n] 36) none
  have hN := next_any w.heap.size n tv zs _ (hT.keep hg) (sc_new w tv n) ((ht.wide (Nat.le_of_lt hlt)).keep hg) hn
  obtain ⟨a, cap, rfl, _⟩ := ht.rd
  have HG := hide hg
  have HN := hide hN
  clear h ht hT hN hg
  go_enter Tryd.func41, Tryd.ntmps41
  go_wp2_with (go_at_call 42; refine HN.out.mono ?_; rintro e w1 ⟨rfl, _, g1⟩)
  go_ret
  exact ⟨rfl, grown_over HG.out (Nat.le_refl _) g1⟩

end Go.Proofs.YtdcajkgmhimffaaDoorRR
