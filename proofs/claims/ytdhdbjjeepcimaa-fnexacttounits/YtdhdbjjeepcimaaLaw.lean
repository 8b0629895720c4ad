import Derived.Test.YtdhdbjjeepcimaaInts
import Derived.Test.YtdhdbjjeepcimaaEq
namespace Go.Proofs.Ytdhdbjjeepcimaa
open Go.RowKit

theorem RdI.now {B : Nat} {w : World} {v : Value} {zs : List Int} (h : RdI B w v zs) : RdI w.heap.size w v zs := h.later (World.grownBy.refl _ _)
theorem RdI.keep {B : Nat} {w w' : World} {v : Value} {zs : List Int} (h : RdI B w v zs) (hg : w.grownBy w' none) : RdI B w' v zs := h.beside hg (fun _ e => by cases e)

theorem eqIntS_same (va vb : Value) (zs : List Int) (w : World) (ha : RdI w.heap.size w va zs) (hb : RdI w.heap.size w vb zs) (hn : zs.length ≤ 4194304) :
    Calls Try.prog 9 #[va, vb] w fun e w' => e = .returned (.bool true) ∧ w.grownBy w' none := by
  refine (eqIntS_any va vb zs zs w ha hb hn).mono ?_
  rintro e w' ⟨rfl, m, rfl⟩
  exact ⟨by simp, grown_drewN (World.grownBy.refl _ _) m⟩

/-- What a law's walk asks of the two functions it holds against one another: both answer R and the code c at zs. -/
def Answers (f : Nat) (zs R : List Int) (c : Int) : Prop := ∀ (v : Value) (w : World), RdI w.heap.size w v zs →
  Calls Try.prog f #[v] w fun e w' => ∃ v', e = .returned (.tuple #[v', .int .i64 c]) ∧ OwI w.heap.size w' v' R ∧ w.grownBy w' none

theorem rd_of_row (x : Addr) (ys z0 : List Int) (len cap : Nat) (w : World) (hys : ys = z0.take len) (hlen : ys.length = len) (hl : len ≤ z0.length)
    (hcell : ∀ i, i < z0.length → w.cell? (x.add i) = some (.int .i64 (z0.getD i 0))) : RdI w.heap.size w (.slice (some x) ys.length cap) ys := by
  refine ⟨some x, cap, rfl, fun h0 => ?_⟩
  have hp : 0 < ys.length := List.length_pos_iff.2 h0
  obtain ⟨b, off, spot⟩ := x
  have hc := hcell 0 (by omega)
  have hspot : spot = none := by simpa [Addr.add] using World.cell?_spot hc
  subst hspot
  refine ⟨b, off, rfl, ?_, fun j hj => ?_⟩
  · have := World.block_lt_of_cell? w _ hc
    simpa [Addr.add] using this
  · have hj2 : j < len := by omega
    have := hcell j (by omega)
    rw [Addr.add_lit] at this
    rw [this, hys]
    simp [List.getD, hj2]

end Go.Proofs.Ytdhdbjjeepcimaa
