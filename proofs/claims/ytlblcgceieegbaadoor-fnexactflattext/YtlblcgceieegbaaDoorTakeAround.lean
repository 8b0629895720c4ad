import Derived.Test.YtlblcgceieegbaaDoorTakePair
namespace Go.Proofs.YtlblcgceieegbaaDoor
open Go.RowKit

set_option maxHeartbeats 2000000 in
set_option maxRecDepth 100000 in
theorem takeAround_any (B : Nat) (w : World) (bb : Nat) (rv : Value) (rs : List Mk) (room : Int) (p : Pc) (hS : Bst B w bb rv rs room) (hk : (p.k = 8 ∧ p.n = 0) ∨ p.k = 7) (hB : B ≤ w.heap.size) (hl : rs.length ≤ 1048576) (hg : ∀ x ∈ rs, 0 ≤ x.n ∧ x.n ≤ 4000) :
    Calls Tryd.prog 39 #[.pointer (some ⟨bb, 0, none⟩), .int .i64 p.k, .int .i64 p.n] w fun e w' => TakeSays B w bb (aroundStep room (stOf rs) p) e w' := by
  have c0 := hS.c0
  obtain ⟨ra, rcap, hrv, hrc, hrm⟩ := row_form hS.row
  by_cases h2 : rs.length < 1
  · have HF : Hid (aroundStep room (stOf rs) p = none) := by
      have := stOf_len rs
      unfold Hid aroundStep
      rcases hst : stOf rs with _ | ⟨y, r⟩
      · rfl
      · rw [hst] at this; simp at this; omega
    subst hrv
    clear hS hrm
    go_enter Tryd.func39, Tryd.ntmps39
    go_wp2
    go_ret
    exact ⟨Below.refl _ _, by rw [HF.out]; rfl⟩
  · obtain ⟨r, X, hrs⟩ := snoc1 rs h2
    have hrl : r.length ≤ 1048576 := by rw [hrs] at hl; simp at hl; omega
    obtain ⟨hX0, hX1⟩ := hg X (by rw [hrs]; simp)
    have HF : Hid (aroundStep room (stOf rs) p = if p.n < 0 ∨ 4000 - X.n < p.n then none else some (room, (.un p X.T, X.n + p.n) :: stOf r)) := by
      unfold Hid; rw [hrs, stOf_snoc]; rfl
    have hS' := hS
    rw [hrs] at hS'
    have hX := hS'.rep X (by simp)
    obtain ⟨tx, ux, hxv⟩ := hX.form
    have hpop := pop_any B w bb rv r room X hS' hB hrl
    have HX : Hid (Rep (Xof bb rv) B w X.v X.T) := hX
    rw [hxv] at hpop
    subst hrv
    clear hS hS' hX hrs hg
    by_cases hbad : p.n < 0 ∨ 4000 - X.n < p.n
    · have HF2 : Hid (aroundStep room (stOf rs) p = none) := by unfold Hid; rw [HF.out, if_pos hbad]
      clear HF
      by_cases hn0 : p.n < 0
      · clear hbad
        go_enter Tryd.func39, Tryd.ntmps39
        go_wp2_with fail
        refine hpop.mono ?_
        rintro e w1 ⟨rfl, rv1, hS1, fr1⟩
        have HB : Hid (Below B w (w1.alloc (.cells #[.iface tx ux, .int .i64 X.n] 72))) := (fr1.grown (World.grownBy_alloc _ _ _) hB).bel
        clear hS1 fr1
        go_wp2
        go_ret
        exact ⟨HB.out, by rw [HF2.out]; rfl⟩
      · have hn4 : 4000 - X.n < p.n := by omega
        clear hbad
        go_enter Tryd.func39, Tryd.ntmps39
        go_wp2_with fail
        refine hpop.mono ?_
        rintro e w1 ⟨rfl, rv1, hS1, fr1⟩
        have HB : Hid (Below B w (w1.alloc (.cells #[.iface tx ux, .int .i64 X.n] 72))) := (fr1.grown (World.grownBy_alloc _ _ _) hB).bel
        clear hS1 fr1
        go_wp2
        go_ret
        exact ⟨HB.out, by rw [HF2.out]; rfl⟩
    · have hn0 : ¬ p.n < 0 := by omega
      have hn4 : ¬ 4000 - X.n < p.n := by omega
      have HF2 : Hid (aroundStep room (stOf rs) p = some (room, (.un p X.T, X.n + p.n) :: stOf r)) := by unfold Hid; rw [HF.out, if_neg hbad]
      clear HF hbad
      have HK := hk
      clear hk
      go_enter Tryd.func39, Tryd.ntmps39
      go_wp2_with fail
      refine hpop.mono ?_
      rintro e w1 ⟨rfl, rv1, hS1, fr1⟩
      have hB1 := fr1.bel.size
      have HFr : Hid (Fr B bb (Value.slice ra rs.length rcap) rv1 w w1) := fr1
      have HS1 : Hid (Bst B w1 bb rv1 r room) := hS1
      have hnx1 : ∀ b, w1.heap.size ≤ b → ¬ Xof bb rv1 b := new_out hS1
      have HNX : Hid (∀ b, w1.heap.size ≤ b → ¬ Xof bb rv1 b) := hnx1
      have HXr := fr1.rep HX.out
      rw [hxv] at HXr
      have HXR : Hid (Rep (Xof bb rv1) B w1 (.iface tx ux) X.T) := HXr
      have gA : Hid (w1.grownBy ((w1.alloc (.cells #[.iface tx ux, .int .i64 X.n] 72)).alloc (.cells #[.iface tx ux] 94)) none) := grown_trans (World.grownBy_alloc _ _ _) (World.grownBy_alloc _ _ _)
      clear hS1 fr1 hnx1 HXr hpop HX
      rcases HK with ⟨hk8, hpn⟩ | hk7
      · have e8 : (p.k == 8) = true := by rw [hk8]; rfl
        have FIN : Calls Tryd.prog 36 #[.pointer (some ⟨bb, 0, none⟩), .iface 95 (.pointer (some ⟨w1.heap.size + 1 + 1, 0, none⟩)), .int .i64 X.n] (((w1.alloc (.cells #[.iface tx ux, .int .i64 X.n] 72)).alloc (.cells #[.iface tx ux] 94)).alloc (.cells #[.iface tx ux] 97))
          fun e w' => e = .returned (.tuple #[]) ∧ Below B w w' ∧ ∃ rv rs', stOf rs' = (.un p X.T, X.n + p.n) :: stOf r ∧ Bst B w' bb rv rs' room := by
          have hrep := rep_un1 (t := 97) (p := p) (HXR.out.keep gA.out) (HNX.out _ (by simp; omega)) hk8
          have gB : ((w1.alloc (.cells #[.iface tx ux, .int .i64 X.n] 72)).alloc (.cells #[.iface tx ux] 94)).grownBy (((w1.alloc (.cells #[.iface tx ux, .int .i64 X.n] 72)).alloc (.cells #[.iface tx ux] 94)).alloc (.cells #[.iface tx ux] 97)) none := World.grownBy_alloc _ _ _
          have := put_any B _ bb rv1 r room ⟨_, .un p X.T, X.n⟩ ((HS1.out.keep gA.out).keep gB) hrep (by simp; omega) hrl
          simp only [World.size_alloc] at this
          refine this.mono ?_
          rintro e w' ⟨rfl, rv', hS', fr'⟩
          exact ⟨rfl, ((HFr.out.grown gA.out hB).grown gB hB).bel.trans fr'.bel, rv', _, by rw [stOf_snoc, hpn]; simp, hS'⟩
        clear hk8 HXR HS1 HFr HNX hpn
        go_wp2_with fail
        refine FIN.mono ?_
        rintro e w4 ⟨rfl, bel4, h4⟩
        go_wp2
        go_ret
        refine ⟨bel4, ?_⟩
        rw [HF2.out]
        exact ⟨rfl, h4⟩
      · have e8 : (p.k == 8) = false := by rw [hk7]; rfl
        have FIN : Calls Tryd.prog 36 #[.pointer (some ⟨bb, 0, none⟩), .iface 98 (.pointer (some ⟨w1.heap.size + 1 + 1, 0, none⟩)), .int .i64 (X.n + p.n)] (((w1.alloc (.cells #[.iface tx ux, .int .i64 X.n] 72)).alloc (.cells #[.iface tx ux] 94)).alloc (.cells #[.iface tx ux, .int .i64 p.n] 100))
          fun e w' => e = .returned (.tuple #[]) ∧ Below B w w' ∧ ∃ rv rs', stOf rs' = (.un p X.T, X.n + p.n) :: stOf r ∧ Bst B w' bb rv rs' room := by
          have hrep := rep_un2 (t := 100) (p := p) (nv := .int .i64 p.n) (HXR.out.keep gA.out) (HNX.out _ (by simp; omega)) hk7
          have gB : ((w1.alloc (.cells #[.iface tx ux, .int .i64 X.n] 72)).alloc (.cells #[.iface tx ux] 94)).grownBy (((w1.alloc (.cells #[.iface tx ux, .int .i64 X.n] 72)).alloc (.cells #[.iface tx ux] 94)).alloc (.cells #[.iface tx ux, .int .i64 p.n] 100)) none := World.grownBy_alloc _ _ _
          have := put_any B _ bb rv1 r room ⟨_, .un p X.T, X.n + p.n⟩ ((HS1.out.keep gA.out).keep gB) hrep (by simp; omega) hrl
          simp only [World.size_alloc] at this
          refine this.mono ?_
          rintro e w' ⟨rfl, rv', hS', fr'⟩
          exact ⟨rfl, ((HFr.out.grown gA.out hB).grown gB hB).bel.trans fr'.bel, rv', _, by rw [stOf_snoc], hS'⟩
        clear hk7 HXR HS1 HFr HNX
        go_wp2_with fail
        refine FIN.mono ?_
        rintro e w4 ⟨rfl, bel4, h4⟩
        go_wp2
        go_ret
        refine ⟨bel4, ?_⟩
        rw [HF2.out]
        exact ⟨rfl, h4⟩

end Go.Proofs.YtlblcgceieegbaaDoor
