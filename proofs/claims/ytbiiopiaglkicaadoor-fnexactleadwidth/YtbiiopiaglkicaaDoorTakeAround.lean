import Derived.Test.YtbiiopiaglkicaaDoorTakePair
namespace Go.Proofs.YtbiiopiaglkicaaDoor
open Go.RowKit

set_option maxHeartbeats 2000000 in
set_option maxRecDepth 100000 in
theorem takeAround_any (B : Nat) (w : World) (bb : Nat) (nv rv : Value) (rs : List Mk) (room : Int) (p : Pc) (hS : Bst B w bb nv rv rs (lsOf rs) room) (hk : (p.k = 8 ∧ p.n = 0) ∨ p.k = 7) (hB : B ≤ w.heap.size) (hl : rs.length ≤ 1048576) (hln : (lsOf rs).length ≤ 1048576) (hg : ∀ x ∈ rs, 0 ≤ x.n ∧ x.n ≤ 4000) :
    Calls Tryd.prog 85 #[.pointer (some ⟨bb, 0, none⟩), .int .i64 p.k, .int .i64 p.n] w fun e w' => TakeSays B w bb ((lsOf rs).length + 1) (aroundStep room (stOf rs) p) e w' := by
  have c1 := hS.c1
  obtain ⟨ra, rcap, hrv, hrc, hrm⟩ := row_form hS.row
  by_cases h2 : rs.length < 1
  · have HF : Hid (aroundStep room (stOf rs) p = none) := by
      have := stOf_len rs
      unfold Hid aroundStep
      rcases hst : stOf rs with _ | ⟨y, r⟩
      · rfl
      · rw [hst] at this; simp at this; omega
    subst hrv
    clear hS hrm
    go_enter Tryd.func85, Tryd.ntmps85
    go_wp2
    go_ret
    exact ⟨Below.refl _ _, by rw [HF.out]; rfl⟩
  · obtain ⟨r, X, hrs⟩ := snoc1 rs h2
    have hrl : r.length ≤ 1048576 := by rw [hrs] at hl; simp at hl; omega
    obtain ⟨hX0, hX1⟩ := hg X (by rw [hrs]; simp)
    have HF : Hid (aroundStep room (stOf rs) p = if p.n < 0 ∨ 4000 - X.n < p.n then none else some (room, (.un p X.T, X.n + p.n) :: stOf r)) := by
      unfold Hid; rw [hrs, stOf_snoc]; rfl
    have hlr : Hid (lsOf rs = lsOf r ++ X.l) := by unfold Hid; rw [hrs, lsOf_app, lsOf_one]
    have hS' : Bst B w bb nv rv (r ++ [X]) (lsOf rs) room := by have := hS; rw [hrs] at this ⊢; exact this
    have hX := hS'.rep X (by simp)
    obtain ⟨tx, ux, hxv⟩ := hX.form
    have hpop := pop_any B w bb nv rv r (lsOf rs) room X hS' hB hrl
    have HX : Hid (Rep (Xof bb nv rv) B w X.v X.T) := hX
    have PX : Hid (Post w X.v X.T X.l) := hS'.post X (by simp)
    rw [hxv] at hpop
    subst hrv
    clear hS hS' hX hrs hg
    by_cases hbad : p.n < 0 ∨ 4000 - X.n < p.n
    · have HF2 : Hid (aroundStep room (stOf rs) p = none) := by unfold Hid; rw [HF.out, if_pos hbad]
      clear HF
      by_cases hn0 : p.n < 0
      · clear hbad
        go_enter Tryd.func85, Tryd.ntmps85
        go_wp2_with fail
        refine hpop.mono ?_
        rintro e w1 ⟨rfl, rv1, hS1, fr1⟩
        have HB : Hid (Below B w (w1.alloc (.cells #[.iface tx ux, .int .i64 X.n] 167))) := (fr1.grown (World.grownBy_alloc _ _ _) hB).bel
        clear hS1 fr1
        go_wp2
        go_ret
        exact ⟨HB.out, by rw [HF2.out]; rfl⟩
      · have hn4 : 4000 - X.n < p.n := by omega
        clear hbad
        go_enter Tryd.func85, Tryd.ntmps85
        go_wp2_with fail
        refine hpop.mono ?_
        rintro e w1 ⟨rfl, rv1, hS1, fr1⟩
        have HB : Hid (Below B w (w1.alloc (.cells #[.iface tx ux, .int .i64 X.n] 167))) := (fr1.grown (World.grownBy_alloc _ _ _) hB).bel
        clear hS1 fr1
        go_wp2
        go_ret
        exact ⟨HB.out, by rw [HF2.out]; rfl⟩
    · have hn0 : ¬ p.n < 0 := by omega
      have hn4 : ¬ 4000 - X.n < p.n := by omega
      have HF2 : Hid (aroundStep room (stOf rs) p = some (room, (.un p X.T, X.n + p.n) :: stOf r)) := by unfold Hid; rw [HF.out, if_neg hbad]
      clear HF hbad
      have HK := hk
      clear hk
      go_enter Tryd.func85, Tryd.ntmps85
      go_wp2_with fail
      refine hpop.mono ?_
      rintro e w1 ⟨rfl, rv1, hS1, fr1⟩
      have hB1 := fr1.bel.size
      have HFr : Hid (Fr B bb nv (Value.slice ra rs.length rcap) nv rv1 w w1) := fr1
      have HS1 : Hid (Bst B w1 bb nv rv1 r (lsOf rs) room) := hS1
      have hnx1 : ∀ b, w1.heap.size ≤ b → ¬ Xof bb nv rv1 b := new_out hS1
      have HNX : Hid (∀ b, w1.heap.size ≤ b → ¬ Xof bb nv rv1 b) := hnx1
      have HXr := fr1.rep HX.out
      have PXr := fr1.post HX.out PX.out
      rw [hxv] at HXr PXr
      have PXR : Hid (Post w1 (.iface tx ux) X.T X.l) := PXr
      have HXR : Hid (Rep (Xof bb nv rv1) B w1 (.iface tx ux) X.T) := HXr
      have gA : Hid (w1.grownBy ((w1.alloc (.cells #[.iface tx ux, .int .i64 X.n] 167)).alloc (.cells #[.iface tx ux] 143)) none) := grown_trans (World.grownBy_alloc _ _ _) (World.grownBy_alloc _ _ _)
      clear hS1 fr1 hnx1 HXr hpop HX PX PXr
      rcases HK with ⟨hk8, hpn⟩ | hk7
      · have e8 : (p.k == 8) = true := by rw [hk8]; rfl
        have FIN : Calls Tryd.prog 82 #[.pointer (some ⟨bb, 0, none⟩), .iface 146 (.pointer (some ⟨w1.heap.size + 1 + 1, 0, none⟩)), .int .i64 X.n] (((w1.alloc (.cells #[.iface tx ux, .int .i64 X.n] 167)).alloc (.cells #[.iface tx ux] 143)).alloc (.cells #[.iface tx ux] 148))
          fun e w' => e = .returned (.tuple #[]) ∧ Below B w w' ∧ ∃ nv rv rs', stOf rs' = (.un p X.T, X.n + p.n) :: stOf r ∧ Bst B w' bb nv rv rs' (lsOf rs') room ∧ (lsOf rs').length = (lsOf rs).length + 1 := by
          have hrep := rep_un1 (t := 148) (p := p) (HXR.out.keep gA.out) (HNX.out _ (by simp; omega)) hk8
          have gB : ((w1.alloc (.cells #[.iface tx ux, .int .i64 X.n] 167)).alloc (.cells #[.iface tx ux] 143)).grownBy (((w1.alloc (.cells #[.iface tx ux, .int .i64 X.n] 167)).alloc (.cells #[.iface tx ux] 143)).alloc (.cells #[.iface tx ux] 148)) none := World.grownBy_alloc _ _ _
          have hpost := post_un1 (t := 148) (p := p) (HXR.out.keep gA.out) (PXR.out.keep HXR.out gA.out) 146 (by omega)
          have hnw := (HS1.out.keep gA.out).once.new 146 ((w1.alloc (.cells #[.iface tx ux, .int .i64 X.n] 167)).alloc (.cells #[.iface tx ux] 143)).heap.size (Nat.le_refl _)
          have := put_any B _ bb nv rv1 r (lsOf rs) room ⟨_, .un p X.T, X.n, _⟩ ((HS1.out.keep gA.out).keep gB) hrep hpost (fun t b e => by cases e; exact ⟨⟨HNX.out _ (by simp; omega), _, _, heap_alloc_new _ _⟩, hnw⟩) (by simp; omega) hrl hln
          simp only [World.size_alloc] at this
          refine this.mono ?_
          rintro e w' ⟨rfl, nv', rv', hS', fr'⟩
          have hls : lsOf (r ++ [(⟨.iface 146 (.pointer (some ⟨w1.heap.size + 1 + 1, 0, none⟩)), .un p X.T, X.n, X.l ++ [.iface 146 (.pointer (some ⟨w1.heap.size + 1 + 1, 0, none⟩))]⟩ : Mk)]) = lsOf rs ++ [.iface 146 (.pointer (some ⟨w1.heap.size + 1 + 1, 0, none⟩))] := by
            rw [lsOf_app, lsOf_one, hlr.out]; simp
          exact ⟨rfl, ((HFr.out.grown gA.out hB).grown gB hB).bel.trans fr'.bel, nv', rv', r ++ [(⟨.iface 146 (.pointer (some ⟨w1.heap.size + 1 + 1, 0, none⟩)), .un p X.T, X.n, X.l ++ [.iface 146 (.pointer (some ⟨w1.heap.size + 1 + 1, 0, none⟩))]⟩ : Mk)], by rw [stOf_snoc, hpn]; simp, by rw [hls]; exact hS', by rw [hls]; simp⟩
        clear hk8 HXR PXR HS1 HFr HNX hpn
        go_wp2_with fail
        refine FIN.mono ?_
        rintro e w4 ⟨rfl, bel4, h4⟩
        go_wp2
        go_ret
        refine ⟨bel4, ?_⟩
        rw [HF2.out]
        exact ⟨rfl, h4⟩
      · have e8 : (p.k == 8) = false := by rw [hk7]; rfl
        have FIN : Calls Tryd.prog 82 #[.pointer (some ⟨bb, 0, none⟩), .iface 141 (.pointer (some ⟨w1.heap.size + 1 + 1, 0, none⟩)), .int .i64 (X.n + p.n)] (((w1.alloc (.cells #[.iface tx ux, .int .i64 X.n] 167)).alloc (.cells #[.iface tx ux] 143)).alloc (.cells #[.iface tx ux, .int .i64 p.n] 145))
          fun e w' => e = .returned (.tuple #[]) ∧ Below B w w' ∧ ∃ nv rv rs', stOf rs' = (.un p X.T, X.n + p.n) :: stOf r ∧ Bst B w' bb nv rv rs' (lsOf rs') room ∧ (lsOf rs').length = (lsOf rs).length + 1 := by
          have hrep := rep_un2 (t := 145) (p := p) (nv := .int .i64 p.n) (HXR.out.keep gA.out) (HNX.out _ (by simp; omega)) hk7
          have gB : ((w1.alloc (.cells #[.iface tx ux, .int .i64 X.n] 167)).alloc (.cells #[.iface tx ux] 143)).grownBy (((w1.alloc (.cells #[.iface tx ux, .int .i64 X.n] 167)).alloc (.cells #[.iface tx ux] 143)).alloc (.cells #[.iface tx ux, .int .i64 p.n] 145)) none := World.grownBy_alloc _ _ _
          have hpost := post_un2 (t := 145) (p := p) (HXR.out.keep gA.out) (PXR.out.keep HXR.out gA.out) 141 
          have hnw := (HS1.out.keep gA.out).once.new 141 ((w1.alloc (.cells #[.iface tx ux, .int .i64 X.n] 167)).alloc (.cells #[.iface tx ux] 143)).heap.size (Nat.le_refl _)
          have := put_any B _ bb nv rv1 r (lsOf rs) room ⟨_, .un p X.T, X.n + p.n, _⟩ ((HS1.out.keep gA.out).keep gB) hrep hpost (fun t b e => by cases e; exact ⟨⟨HNX.out _ (by simp; omega), _, _, heap_alloc_new _ _⟩, hnw⟩) (by simp; omega) hrl hln
          simp only [World.size_alloc] at this
          refine this.mono ?_
          rintro e w' ⟨rfl, nv', rv', hS', fr'⟩
          have hls : lsOf (r ++ [(⟨.iface 141 (.pointer (some ⟨w1.heap.size + 1 + 1, 0, none⟩)), .un p X.T, X.n + p.n, X.l ++ [.iface 141 (.pointer (some ⟨w1.heap.size + 1 + 1, 0, none⟩))]⟩ : Mk)]) = lsOf rs ++ [.iface 141 (.pointer (some ⟨w1.heap.size + 1 + 1, 0, none⟩))] := by
            rw [lsOf_app, lsOf_one, hlr.out]; simp
          exact ⟨rfl, ((HFr.out.grown gA.out hB).grown gB hB).bel.trans fr'.bel, nv', rv', r ++ [(⟨.iface 141 (.pointer (some ⟨w1.heap.size + 1 + 1, 0, none⟩)), .un p X.T, X.n + p.n, X.l ++ [.iface 141 (.pointer (some ⟨w1.heap.size + 1 + 1, 0, none⟩))]⟩ : Mk)], by rw [stOf_snoc], by rw [hls]; exact hS', by rw [hls]; simp⟩
        clear hk7 HXR PXR HS1 HFr HNX
        go_wp2_with fail
        refine FIN.mono ?_
        rintro e w4 ⟨rfl, bel4, h4⟩
        go_wp2
        go_ret
        refine ⟨bel4, ?_⟩
        rw [HF2.out]
        exact ⟨rfl, h4⟩

end Go.Proofs.YtbiiopiaglkicaaDoor
