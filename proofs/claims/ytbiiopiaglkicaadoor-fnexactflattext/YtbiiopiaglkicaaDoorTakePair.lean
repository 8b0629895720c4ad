import Derived.Test.YtbiiopiaglkicaaDoorTakeText
namespace Go.Proofs.YtbiiopiaglkicaaDoor
open Go.RowKit

def pairStep (room : Int) (st : List (Tr × Int)) (p : Pc) : Option (Int × List (Tr × Int)) :=
  match st with | (y, ny) :: (x, nx) :: r => some (room, (.bin p x y, max nx ny) :: r) | _ => none
def aroundStep (room : Int) (st : List (Tr × Int)) (p : Pc) : Option (Int × List (Tr × Int)) :=
  match st with | (x, nx) :: r => if p.n < 0 ∨ 4000 - nx < p.n then none else some (room, (.un p x, nx + p.n) :: r) | _ => none

theorem snoc2 (rs : List Mk) (h : ¬ rs.length < 2) : ∃ (r : List Mk) (x y : Mk), rs = r ++ [x] ++ [y] := by
  obtain ⟨r1, y, h1⟩ : ∃ r1 y, rs = r1 ++ [y] := ⟨rs.dropLast, rs.getLast (by intro e; rw [e] at h; simp at h), (List.dropLast_concat_getLast _).symm⟩
  have h2 : r1 ≠ [] := by intro e; rw [h1, e] at h; simp at h
  obtain ⟨r, x, h3⟩ : ∃ r x, r1 = r ++ [x] := ⟨r1.dropLast, r1.getLast h2, (List.dropLast_concat_getLast _).symm⟩
  exact ⟨r, x, y, by rw [h1, h3]⟩
theorem snoc1 (rs : List Mk) (h : ¬ rs.length < 1) : ∃ (r : List Mk) (x : Mk), rs = r ++ [x] :=
  ⟨rs.dropLast, rs.getLast (by intro e; rw [e] at h; simp at h), (List.dropLast_concat_getLast _).symm⟩

theorem new_out {B : Nat} {w : World} {bb : Nat} {nv rv : Value} {rs : List Mk} {ns : List Value} {room : Int} (h : Bst B w bb nv rv rs ns room) (b : Nat) (hb : w.heap.size ≤ b) : ¬ Xof bb nv rv b := by
  intro hx
  rcases hx with e | e | e
  · have := h.lt; omega
  · have := World.ownsRow.lt h.nrow _ e; omega
  · have := World.ownsRow.lt h.row _ e; omega

theorem rep_bin {B : Nat} {X : Nat → Prop} {w : World} {p : Pc} {xv yv : Value} {x y : Tr} (hx : Rep X B w xv x) (hy : Rep X B w yv y) (hn : ¬ X w.heap.size) (tid t : TypeId) (hk : (p.k = 6 ∧ tid = 149) ∨ (p.k = 9 ∧ tid = 153)) :
    Rep X B (w.alloc (.cells #[xv, yv] t)) (.iface tid (.pointer (some ⟨w.heap.size, 0, none⟩))) (.bin p x y) := by
  have hg : w.grownBy (w.alloc (.cells #[xv, yv] t)) none := World.grownBy_alloc _ _ _
  simp only [Rep]
  refine ⟨w.heap.size, xv, yv, hn, by simp, by simp [go_sem], by simp [go_sem], hx.keep hg, hy.keep hg, ?_⟩
  rcases hk with ⟨h1, h2⟩ | ⟨h1, h2⟩
  · exact .inl ⟨h1, by rw [h2]⟩
  · exact .inr ⟨h1, by rw [h2]⟩
theorem rep_un1 {B : Nat} {X : Nat → Prop} {w : World} {p : Pc} {xv : Value} {x : Tr} (hx : Rep X B w xv x) (hn : ¬ X w.heap.size) (t : TypeId) (hk : p.k = 8) :
    Rep X B (w.alloc (.cells #[xv] t)) (.iface 146 (.pointer (some ⟨w.heap.size, 0, none⟩))) (.un p x) := by
  have hg : w.grownBy (w.alloc (.cells #[xv] t)) none := World.grownBy_alloc _ _ _
  simp only [Rep]
  exact ⟨w.heap.size, xv, hn, by simp, by simp [go_sem], hx.keep hg, .inl ⟨hk, rfl⟩⟩
theorem rep_un2 {B : Nat} {X : Nat → Prop} {w : World} {p : Pc} {xv nv : Value} {x : Tr} (hx : Rep X B w xv x) (hn : ¬ X w.heap.size) (t : TypeId) (hk : p.k = 7) :
    Rep X B (w.alloc (.cells #[xv, nv] t)) (.iface 141 (.pointer (some ⟨w.heap.size, 0, none⟩))) (.un p x) := by
  have hg : w.grownBy (w.alloc (.cells #[xv, nv] t)) none := World.grownBy_alloc _ _ _
  simp only [Rep]
  exact ⟨w.heap.size, xv, hn, by simp, by simp [go_sem], hx.keep hg, .inr ⟨hk, rfl⟩⟩

theorem post_bin {X : Nat → Prop} {B : Nat} {w : World} {p : Pc} {xv yv : Value} {x y : Tr} {l1 l2 : List Value} (rx : Rep X B w xv x) (ry : Rep X B w yv y) (hx : Post w xv x l1) (hy : Post w yv y l2) (tid t : TypeId) :
    Post (w.alloc (.cells #[xv, yv] t)) (.iface tid (.pointer (some ⟨w.heap.size, 0, none⟩))) (.bin p x y) (l1 ++ l2 ++ [.iface tid (.pointer (some ⟨w.heap.size, 0, none⟩))]) := by
  have hg : w.grownBy (w.alloc (.cells #[xv, yv] t)) none := World.grownBy_alloc _ _ _
  simp only [Post]
  exact ⟨tid, w.heap.size, xv, yv, l1, l2, rfl, by simp [go_sem], by simp [go_sem], hx.keep rx hg, hy.keep ry hg, rfl⟩
theorem post_un1 {X : Nat → Prop} {B : Nat} {w : World} {p : Pc} {xv : Value} {x : Tr} {l1 : List Value} (rx : Rep X B w xv x) (hx : Post w xv x l1) (tid t : TypeId) (hk : p.k ≠ 7) :
    Post (w.alloc (.cells #[xv] t)) (.iface tid (.pointer (some ⟨w.heap.size, 0, none⟩))) (.un p x) (l1 ++ [.iface tid (.pointer (some ⟨w.heap.size, 0, none⟩))]) := by
  have hg : w.grownBy (w.alloc (.cells #[xv] t)) none := World.grownBy_alloc _ _ _
  simp only [Post]
  exact ⟨tid, w.heap.size, xv, l1, rfl, by simp [go_sem], fun e => absurd e hk, hx.keep rx hg, rfl⟩
theorem post_un2 {X : Nat → Prop} {B : Nat} {w : World} {p : Pc} {xv : Value} {x : Tr} {l1 : List Value} (rx : Rep X B w xv x) (hx : Post w xv x l1) (tid t : TypeId) :
    Post (w.alloc (.cells #[xv, .int .i64 p.n] t)) (.iface tid (.pointer (some ⟨w.heap.size, 0, none⟩))) (.un p x) (l1 ++ [.iface tid (.pointer (some ⟨w.heap.size, 0, none⟩))]) := by
  have hg : w.grownBy (w.alloc (.cells #[xv, .int .i64 p.n] t)) none := World.grownBy_alloc _ _ _
  simp only [Post]
  exact ⟨tid, w.heap.size, xv, l1, rfl, by simp [go_sem], fun _ => by simp [go_sem], hx.keep rx hg, rfl⟩

set_option maxHeartbeats 2000000 in
set_option maxRecDepth 100000 in
theorem takePair_any (B : Nat) (w : World) (bb : Nat) (nv rv : Value) (rs : List Mk) (room : Int) (p : Pc) (hS : Bst B w bb nv rv rs (lsOf rs) room) (hk : p.k = 6 ∨ p.k = 9) (hB : B ≤ w.heap.size) (hl : rs.length ≤ 1048576) (hln : (lsOf rs).length ≤ 1048576) :
    Calls Tryd.prog 84 #[.pointer (some ⟨bb, 0, none⟩), .int .i64 p.k] w fun e w' => TakeSays B w bb ((lsOf rs).length + 1) (pairStep room (stOf rs) p) e w' := by
  have c1 := hS.c1
  obtain ⟨ra, rcap, hrv, hrc, hrm⟩ := row_form hS.row
  by_cases h2 : rs.length < 2
  · have HF : Hid (pairStep room (stOf rs) p = none) := by
      have := stOf_len rs
      unfold Hid pairStep
      rcases hst : stOf rs with _ | ⟨y, _ | ⟨x, r⟩⟩
      · rfl
      · rfl
      · rw [hst] at this; simp at this; omega
    subst hrv
    clear hS hrm
    go_enter Tryd.func84, Tryd.ntmps84
    go_wp2
    go_ret
    exact ⟨Below.refl _ _, by rw [HF.out]; rfl⟩
  · obtain ⟨r, X, Y, hrs⟩ := snoc2 rs h2
    have hrl : r.length ≤ 1048576 := by rw [hrs] at hl; simp at hl; omega
    have HF : Hid (pairStep room (stOf rs) p = some (room, (.bin p X.T Y.T, max X.n Y.n) :: stOf r)) := by
      unfold Hid; rw [hrs, stOf_snoc, stOf_snoc]; rfl
    have hlr : Hid (lsOf rs = lsOf r ++ X.l ++ Y.l) := by unfold Hid; rw [hrs, lsOf_app, lsOf_app, lsOf_one, lsOf_one]
    have hS' : Bst B w bb nv rv (r ++ [X] ++ [Y]) (lsOf rs) room := by have := hS; rw [hrs] at this ⊢; exact this
    have hY := hS'.rep Y (by simp)
    have hX := hS'.rep X (by simp)
    obtain ⟨ty, uy, hyv⟩ := hY.form
    obtain ⟨tx, ux, hxv⟩ := hX.form
    have hpop := pop_any B w bb nv rv (r ++ [X]) (lsOf rs) room Y hS' hB (by simp; rw [hrs] at hl; simp at hl; omega)
    have HS : Hid (Bst B w bb nv rv (r ++ [X] ++ [Y]) (lsOf rs) room) := hS'
    have HX : Hid (Rep (Xof bb nv rv) B w X.v X.T) := hX
    have HY : Hid (Rep (Xof bb nv rv) B w Y.v Y.T) := hY
    have PX : Hid (Post w X.v X.T X.l) := hS'.post X (by simp)
    have PY : Hid (Post w Y.v Y.T Y.l) := hS'.post Y (by simp)
    rw [hyv] at hpop
    have HRV := hrv
    subst hrv
    clear hS hS' hX hY hrs
    go_enter Tryd.func84, Tryd.ntmps84
    go_wp2_with fail
    refine hpop.mono ?_
    rintro e w1 ⟨rfl, rv1, hS1, fr1⟩
    have hB1 := fr1.bel.size
    have gb1 : w1.grownBy (w1.alloc (.cells #[.iface ty uy, .int .i64 Y.n] 167)) none := World.grownBy_alloc _ _ _
    have HS1 : Hid (Bst B (w1.alloc (.cells #[.iface ty uy, .int .i64 Y.n] 167)) bb nv rv1 (r ++ [X]) (lsOf rs) room) := hS1.keep gb1
    have HFr1 : Hid (Fr B bb nv _ nv rv1 w (w1.alloc (.cells #[.iface ty uy, .int .i64 Y.n] 167))) := fr1.grown gb1 hB
    have hpop2 := pop_any B _ bb nv rv1 r (lsOf rs) room X HS1.out (by simp; omega) hrl
    have hnx1 := new_out hS1 w1.heap.size (Nat.le_refl _)
    rw [hxv] at hpop2
    clear hpop hS1 fr1 gb1
    go_wp2_with fail
    refine hpop2.mono ?_
    rintro e w2 ⟨rfl, rv2, hS2, fr2⟩
    have hB2 := fr2.bel.size
    simp only [World.size_alloc] at hB2
    have y0 := fr2.cell (a := ⟨w1.heap.size, 0, none⟩) (v := .iface ty uy) (by simp [go_sem]) hnx1
    have y1 := fr2.cell (a := ⟨w1.heap.size, 1, none⟩) (v := .int .i64 Y.n) (by simp [go_sem]) hnx1
    have gb2 : w2.grownBy (w2.alloc (.cells #[.iface tx ux, .int .i64 X.n] 167)) none := World.grownBy_alloc _ _ _
    have HFr2 : Hid (Fr B bb nv rv1 nv rv2 _ (w2.alloc (.cells #[.iface tx ux, .int .i64 X.n] 167))) := fr2.grown gb2 (by simp; omega)
    have HS2 : Hid (Bst B (w2.alloc (.cells #[.iface tx ux, .int .i64 X.n] 167)) bb nv rv2 r (lsOf rs) room) := hS2.keep gb2
    have hmax : max X.n Y.n = if X.n < Y.n then Y.n else X.n := by omega
    have z0 := gb2.cell y0 (by simp)
    have z1 := gb2.cell y1 (by simp)
    have hw12 : w1.heap.size ≠ w2.heap.size := by omega
    clear hpop2 hS2 fr2 gb2 HS1 y0 y1
    have hnx2 := new_out HS2.out (w2.heap.size + 1) (by simp)
    have HXr := HFr2.out.rep (HFr1.out.rep HX.out)
    have HYr := HFr2.out.rep (HFr1.out.rep HY.out)
    have PXr := HFr2.out.post (HFr1.out.rep HX.out) (HFr1.out.post HX.out PX.out)
    have PYr := HFr2.out.post (HFr1.out.rep HY.out) (HFr1.out.post HY.out PY.out)
    have HFr : Hid (Fr B bb nv (Value.slice ra rs.length rcap) nv rv2 w (w2.alloc (.cells #[.iface tx ux, .int .i64 X.n] 167))) := HFr1.out.trans HFr2.out
    have hB3 : B ≤ w2.heap.size + 1 := by omega
    rw [hxv] at HXr PXr
    rw [hyv] at HYr PYr
    have FIN : Hid (∀ (tid t : TypeId) (N : Int), ((p.k = 6 ∧ tid = 149) ∨ (p.k = 9 ∧ tid = 153)) → max X.n Y.n = N →
        Calls Tryd.prog 82 #[.pointer (some ⟨bb, 0, none⟩), .iface tid (.pointer (some ⟨w2.heap.size + 1, 0, none⟩)), .int .i64 N] ((w2.alloc (.cells #[.iface tx ux, .int .i64 X.n] 167)).alloc (.cells #[.iface tx ux, .iface ty uy] t))
          fun e w' => e = .returned (.tuple #[]) ∧ Below B w w' ∧ ∃ nv rv rs', stOf rs' = (.bin p X.T Y.T, max X.n Y.n) :: stOf r ∧ Bst B w' bb nv rv rs' (lsOf rs') room ∧ (lsOf rs').length = (lsOf rs).length + 1) := by
      intro tid t N hk hN
      have hnx3 : ¬ Xof bb nv rv2 (w2.alloc (.cells #[.iface tx ux, .int .i64 X.n] 167)).heap.size := by simpa using hnx2
      have hrep := rep_bin HXr HYr hnx3 tid t hk
      have gA : (w2.alloc (.cells #[.iface tx ux, .int .i64 X.n] 167)).grownBy ((w2.alloc (.cells #[.iface tx ux, .int .i64 X.n] 167)).alloc (.cells #[.iface tx ux, .iface ty uy] t)) none := World.grownBy_alloc _ _ _
      have hpost := post_bin (p := p) HXr HYr PXr PYr tid t
      have hnw := HS2.out.once.new tid (w2.alloc (.cells #[.iface tx ux, .int .i64 X.n] 167)).heap.size (Nat.le_refl _)
      have := put_any B _ bb nv rv2 r (lsOf rs) room ⟨_, .bin p X.T Y.T, N, _⟩ (HS2.out.keep gA) hrep hpost (fun t b e => by cases e; exact ⟨⟨hnx3, _, _, heap_alloc_new _ _⟩, hnw⟩) (by simp; omega) hrl hln
      simp only [World.size_alloc] at this
      refine this.mono ?_
      rintro e w' ⟨rfl, nv', rv', hS', fr'⟩
      have hls : lsOf (r ++ [(⟨.iface tid (.pointer (some ⟨w2.heap.size + 1, 0, none⟩)), .bin p X.T Y.T, N, X.l ++ Y.l ++ [.iface tid (.pointer (some ⟨w2.heap.size + 1, 0, none⟩))]⟩ : Mk)]) = lsOf rs ++ [.iface tid (.pointer (some ⟨w2.heap.size + 1, 0, none⟩))] := by
        rw [lsOf_app, lsOf_one, hlr.out]; simp
      exact ⟨rfl, (HFr.out.grown gA hB).bel.trans fr'.bel, nv', rv', r ++ [(⟨.iface tid (.pointer (some ⟨w2.heap.size + 1, 0, none⟩)), .bin p X.T Y.T, N, X.l ++ Y.l ++ [.iface tid (.pointer (some ⟨w2.heap.size + 1, 0, none⟩))]⟩ : Mk)], by rw [stOf_snoc, hN], by rw [hls]; exact hS', by rw [hls]; simp⟩
    clear HXr HYr PXr PYr HS2 HFr1 HFr2 HX HY PX PY hnx1 hnx2
    rcases hk with hk6 | hk9
    · have e9 : (p.k == 9) = false := by rw [hk6]; rfl
      have HK : Hid (p.k = 6) := hk6
      clear hk6
      go_wp2_with fail
      all_goals
        refine (FIN.out _ _ _ (.inl ⟨HK.out, rfl⟩) (by omega)).mono ?_
        rintro e w4 ⟨rfl, bel4, h4⟩
        go_wp2
        go_ret
        refine ⟨bel4, ?_⟩
        rw [HF.out]
        exact ⟨rfl, h4⟩
    · have e9 : (p.k == 9) = true := by rw [hk9]; rfl
      have HK : Hid (p.k = 9) := hk9
      clear hk9
      go_wp2_with fail
      all_goals
        refine (FIN.out _ _ _ (.inr ⟨HK.out, rfl⟩) (by omega)).mono ?_
        rintro e w4 ⟨rfl, bel4, h4⟩
        go_wp2
        go_ret
        refine ⟨bel4, ?_⟩
        rw [HF.out]
        exact ⟨rfl, h4⟩

end Go.Proofs.YtbiiopiaglkicaaDoor
