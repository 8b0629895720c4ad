import Derived.Test.YtlblcgceieegbaaDoorTakeText
namespace Go.Proofs.YtlblcgceieegbaaDoor
open Go.RowKit

def pairStep (room : Int) (st : List (Tr × Int)) (p : Pc) : Option (Int × List (Tr × Int)) :=
  match st with | (y, ny) :: (x, nx) :: r => some (room, (.bin p x y, max nx ny) :: r) | _ => none
def aroundStep (room : Int) (st : List (Tr × Int)) (p : Pc) : Option (Int × List (Tr × Int)) :=
  match st with | (x, nx) :: r => if p.n < 0 ∨ 4000 - nx < p.n then none else some (room, (.un p x, nx + p.n) :: r) | _ => none

theorem snoc2 (rs : List Mk) (h : ¬ rs.length < 2) : ∃ (r : List Mk) (x y : Mk), rs = r ++ [x] ++ [y] := by
  obtain ⟨r1, y, h1⟩ : ∃ r1 y, rs = r1 ++ [y] := ⟨rs.dropLast, rs.getLast (by intro e; rw [e] at h; simp at h), (List.dropLast_concat_getLast _).symm⟩
  have h2 : r1 ≠ [] := by intro e; rw [h1, e] at h; simp at h
  obtain ⟨r, x, h3⟩ : ∃ r x, r1 = r ++ [x] := ⟨r1.dropLast, r1.getLast h2, (List.dropLast_concat_getLast _).symm⟩
  exact ⟨r, x, y, by rw [h1, h3]⟩
theorem snoc1 (rs : List Mk) (h : ¬ rs.length < 1) : ∃ (r : List Mk) (x : Mk), rs = r ++ [x] :=
  ⟨rs.dropLast, rs.getLast (by intro e; rw [e] at h; simp at h), (List.dropLast_concat_getLast _).symm⟩

theorem new_out {B : Nat} {w : World} {bb : Nat} {rv : Value} {rs : List Mk} {room : Int} (h : Bst B w bb rv rs room) (b : Nat) (hb : w.heap.size ≤ b) : ¬ Xof bb rv b := by
  intro hx
  rcases hx with e | e
  · have := h.lt; omega
  · have := World.ownsRow.lt h.row _ e; omega

theorem rep_bin {B : Nat} {X : Nat → Prop} {w : World} {p : Pc} {xv yv : Value} {x y : Tr} (hx : Rep X B w xv x) (hy : Rep X B w yv y) (hn : ¬ X w.heap.size) (tid t : TypeId) (hk : (p.k = 6 ∧ tid = 90) ∨ (p.k = 9 ∧ tid = 87)) :
    Rep X B (w.alloc (.cells #[xv, yv] t)) (.iface tid (.pointer (some ⟨w.heap.size, 0, none⟩))) (.bin p x y) := by
  have hg : w.grownBy (w.alloc (.cells #[xv, yv] t)) none := World.grownBy_alloc _ _ _
  simp only [Rep]
  refine ⟨w.heap.size, xv, yv, hn, by simp, by simp [go_sem], by simp [go_sem], hx.keep hg, hy.keep hg, ?_⟩
  rcases hk with ⟨h1, h2⟩ | ⟨h1, h2⟩
  · exact .inl ⟨h1, by rw [h2]⟩
  · exact .inr ⟨h1, by rw [h2]⟩
theorem rep_un1 {B : Nat} {X : Nat → Prop} {w : World} {p : Pc} {xv : Value} {x : Tr} (hx : Rep X B w xv x) (hn : ¬ X w.heap.size) (t : TypeId) (hk : p.k = 8) :
    Rep X B (w.alloc (.cells #[xv] t)) (.iface 95 (.pointer (some ⟨w.heap.size, 0, none⟩))) (.un p x) := by
  have hg : w.grownBy (w.alloc (.cells #[xv] t)) none := World.grownBy_alloc _ _ _
  simp only [Rep]
  exact ⟨w.heap.size, xv, hn, by simp, by simp [go_sem], hx.keep hg, .inl ⟨hk, rfl⟩⟩
theorem rep_un2 {B : Nat} {X : Nat → Prop} {w : World} {p : Pc} {xv nv : Value} {x : Tr} (hx : Rep X B w xv x) (hn : ¬ X w.heap.size) (t : TypeId) (hk : p.k = 7) :
    Rep X B (w.alloc (.cells #[xv, nv] t)) (.iface 98 (.pointer (some ⟨w.heap.size, 0, none⟩))) (.un p x) := by
  have hg : w.grownBy (w.alloc (.cells #[xv, nv] t)) none := World.grownBy_alloc _ _ _
  simp only [Rep]
  exact ⟨w.heap.size, xv, hn, by simp, by simp [go_sem], hx.keep hg, .inr ⟨hk, rfl⟩⟩

set_option maxHeartbeats 2000000 in
set_option maxRecDepth 100000 in
theorem takePair_any (B : Nat) (w : World) (bb : Nat) (rv : Value) (rs : List Mk) (room : Int) (p : Pc) (hS : Bst B w bb rv rs room) (hk : p.k = 6 ∨ p.k = 9) (hB : B ≤ w.heap.size) (hl : rs.length ≤ 1048576) :
    Calls Tryd.prog 38 #[.pointer (some ⟨bb, 0, none⟩), .int .i64 p.k] w fun e w' => TakeSays B w bb (pairStep room (stOf rs) p) e w' := by
  have c0 := hS.c0
  obtain ⟨ra, rcap, hrv, hrc, hrm⟩ := row_form hS.row
  by_cases h2 : rs.length < 2
  · have HF : Hid (pairStep room (stOf rs) p = none) := by
      have := stOf_len rs
      unfold Hid pairStep
      rcases hst : stOf rs with _ | ⟨y, _ | ⟨x, r⟩⟩
      · rfl
      · rfl
      · rw [hst] at this; simp at this; omega
    subst hrv
    clear hS hrm
    go_enter Tryd.func38, Tryd.ntmps38
    go_wp2
    go_ret
    exact ⟨Below.refl _ _, by rw [HF.out]; rfl⟩
  · obtain ⟨r, X, Y, hrs⟩ := snoc2 rs h2
    have hrl : r.length ≤ 1048576 := by rw [hrs] at hl; simp at hl; omega
    have HF : Hid (pairStep room (stOf rs) p = some (room, (.bin p X.T Y.T, max X.n Y.n) :: stOf r)) := by
      unfold Hid; rw [hrs, stOf_snoc, stOf_snoc]; rfl
    have hS' := hS
    rw [hrs] at hS'
    have hY := hS'.rep Y (by simp)
    have hX := hS'.rep X (by simp)
    obtain ⟨ty, uy, hyv⟩ := hY.form
    obtain ⟨tx, ux, hxv⟩ := hX.form
    have hpop := pop_any B w bb rv (r ++ [X]) room Y hS' hB (by simp; rw [hrs] at hl; simp at hl; omega)
    have HS : Hid (Bst B w bb rv (r ++ [X] ++ [Y]) room) := hS'
    have HX : Hid (Rep (Xof bb rv) B w X.v X.T) := hX
    have HY : Hid (Rep (Xof bb rv) B w Y.v Y.T) := hY
    rw [hyv] at hpop
    have HRV := hrv
    subst hrv
    clear hS hS' hX hY hrs
    go_enter Tryd.func38, Tryd.ntmps38
    go_wp2_with fail
    refine hpop.mono ?_
    rintro e w1 ⟨rfl, rv1, hS1, fr1⟩
    have hB1 := fr1.bel.size
    have gb1 : w1.grownBy (w1.alloc (.cells #[.iface ty uy, .int .i64 Y.n] 72)) none := World.grownBy_alloc _ _ _
    have HS1 : Hid (Bst B (w1.alloc (.cells #[.iface ty uy, .int .i64 Y.n] 72)) bb rv1 (r ++ [X]) room) := hS1.keep gb1
    have HFr1 : Hid (Fr B bb _ rv1 w (w1.alloc (.cells #[.iface ty uy, .int .i64 Y.n] 72))) := fr1.grown gb1 hB
    have hpop2 := pop_any B _ bb rv1 r room X HS1.out (by simp; omega) hrl
    have hnx1 := new_out hS1 w1.heap.size (Nat.le_refl _)
    rw [hxv] at hpop2
    clear hpop hS1 fr1 gb1
    go_wp2_with fail
    refine hpop2.mono ?_
    rintro e w2 ⟨rfl, rv2, hS2, fr2⟩
    have hB2 := fr2.bel.size
    simp only [World.size_alloc] at hB2
    have y0 := fr2.cell (a := ⟨w1.heap.size, 0, none⟩) (v := .iface ty uy) (by simp [go_sem]) hnx1
    have y1 := fr2.cell (a := ⟨w1.heap.size, 1, none⟩) (v := .int .i64 Y.n) (by simp [go_sem]) hnx1
    have gb2 : w2.grownBy (w2.alloc (.cells #[.iface tx ux, .int .i64 X.n] 72)) none := World.grownBy_alloc _ _ _
    have HFr2 : Hid (Fr B bb rv1 rv2 _ (w2.alloc (.cells #[.iface tx ux, .int .i64 X.n] 72))) := fr2.grown gb2 (by simp; omega)
    have HS2 : Hid (Bst B (w2.alloc (.cells #[.iface tx ux, .int .i64 X.n] 72)) bb rv2 r room) := hS2.keep gb2
    have hmax : max X.n Y.n = if X.n < Y.n then Y.n else X.n := by omega
    have z0 := gb2.cell y0 (by simp)
    have z1 := gb2.cell y1 (by simp)
    have hw12 : w1.heap.size ≠ w2.heap.size := by omega
    clear hpop2 hS2 fr2 gb2 HS1 y0 y1
    have hnx2 := new_out HS2.out (w2.heap.size + 1) (by simp)
    have HXr := HFr2.out.rep (HFr1.out.rep HX.out)
    have HYr := HFr2.out.rep (HFr1.out.rep HY.out)
    have HFr : Hid (Fr B bb (Value.slice ra rs.length rcap) rv2 w (w2.alloc (.cells #[.iface tx ux, .int .i64 X.n] 72))) := HFr1.out.trans HFr2.out
    have hB3 : B ≤ w2.heap.size + 1 := by omega
    rw [hxv] at HXr
    rw [hyv] at HYr
    have FIN : Hid (∀ (tid t : TypeId) (N : Int), ((p.k = 6 ∧ tid = 90) ∨ (p.k = 9 ∧ tid = 87)) → max X.n Y.n = N →
        Calls Tryd.prog 36 #[.pointer (some ⟨bb, 0, none⟩), .iface tid (.pointer (some ⟨w2.heap.size + 1, 0, none⟩)), .int .i64 N] ((w2.alloc (.cells #[.iface tx ux, .int .i64 X.n] 72)).alloc (.cells #[.iface tx ux, .iface ty uy] t))
          fun e w' => e = .returned (.tuple #[]) ∧ Below B w w' ∧ ∃ rv rs', stOf rs' = (.bin p X.T Y.T, max X.n Y.n) :: stOf r ∧ Bst B w' bb rv rs' room) := by
      intro tid t N hk hN
      have hnx3 : ¬ Xof bb rv2 (w2.alloc (.cells #[.iface tx ux, .int .i64 X.n] 72)).heap.size := by simpa using hnx2
      have hrep := rep_bin HXr HYr hnx3 tid t hk
      have gA : (w2.alloc (.cells #[.iface tx ux, .int .i64 X.n] 72)).grownBy ((w2.alloc (.cells #[.iface tx ux, .int .i64 X.n] 72)).alloc (.cells #[.iface tx ux, .iface ty uy] t)) none := World.grownBy_alloc _ _ _
      have := put_any B _ bb rv2 r room ⟨_, .bin p X.T Y.T, N⟩ (HS2.out.keep gA) hrep (by simp; omega) hrl
      simp only [World.size_alloc] at this
      refine this.mono ?_
      rintro e w' ⟨rfl, rv', hS', fr'⟩
      exact ⟨rfl, (HFr.out.grown gA hB).bel.trans fr'.bel, rv', _, by rw [stOf_snoc, hN], hS'⟩
    clear HXr HYr HS2 HFr1 HFr2 HX HY hnx1 hnx2
    rcases hk with hk6 | hk9
    · have e9 : (p.k == 9) = false := by rw [hk6]; rfl
      have HK : Hid (p.k = 6) := hk6
      clear hk6
      go_wp2_with fail
      all_goals
        refine (FIN.out _ _ _ (.inl ⟨HK.out, rfl⟩) (by omega)).mono ?_
        rintro e w4 ⟨rfl, bel4, h4⟩
        go_wp2
        go_ret
        refine ⟨bel4, ?_⟩
        rw [HF.out]
        exact ⟨rfl, h4⟩
    · have e9 : (p.k == 9) = true := by rw [hk9]; rfl
      have HK : Hid (p.k = 9) := hk9
      clear hk9
      go_wp2_with fail
      all_goals
        refine (FIN.out _ _ _ (.inr ⟨HK.out, rfl⟩) (by omega)).mono ?_
        rintro e w4 ⟨rfl, bel4, h4⟩
        go_wp2
        go_ret
        refine ⟨bel4, ?_⟩
        rw [HF.out]
        exact ⟨rfl, h4⟩

end Go.Proofs.YtlblcgceieegbaaDoor
