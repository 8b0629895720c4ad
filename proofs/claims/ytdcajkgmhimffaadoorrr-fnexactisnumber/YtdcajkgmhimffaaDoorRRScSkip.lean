import Derived.Test.YtdcajkgmhimffaaDoorRRScMore
namespace Go.Proofs.YtdcajkgmhimffaaDoorRR
open Go.RowKit

/-- A function value that asks P of a point. -/
structure Asks (cf : Nat) (P : Int → Bool) : Prop where
  call : ∀ (p : Int) (W : World), Calls Tryd.prog cf #[.int .i32 p] W fun e w' => e = .returned (.bool (P p)) ∧ W = w'
  enter : ∀ (args : Array Value) (W : World), (callFunc cf args).run Tryd.prog W = .ok (.enter cf args) W

theorem Tab.row {w w' : World} {sb : Nat} (h : Tab w) (hsb : 0 < sb) (hg : w.grownBy w' (some sb)) : Tab w' :=
  have e : some 0 ≠ some sb := by simp; omega
  ⟨hg.cell h.c0 e, hg.cell h.c1 e, hg.cell h.c2 e, hg.cell h.c3 e, hg.cell h.c4 e⟩
def atOf (sb : Nat) (w : World) : Nat := match w.cell? ⟨sb, 1, none⟩ with
  | some v => (intOf v).toNat
  | none => 0
theorem Sc.atOf {sb : Nat} {w : World} {tv : Value} {n : Nat} (h : Sc sb w tv n) : atOf sb w = n := by
  unfold Go.Proofs.YtdcajkgmhimffaaDoorRR.atOf
  rw [h.c1]
  simp [intOf]

set_option maxHeartbeats 2000000 in
set_option maxRecDepth 100000 in
theorem skip_any (cf : Nat) (P : Int → Bool) (hP : Asks cf P) (sb n : Nat) (tv : Value) (zs : List Int) (w : World) (hsb : 0 < sb) (hT : Tab w) (h : Sc sb w tv n) (ht : Tx sb w tv zs) (hn : n ≤ zs.length) :
    Calls Tryd.prog 29 #[.pointer (some ⟨sb, 0, none⟩), .func (.func cf) #[] #[]] w fun e w' => e = .returned (.bool (decide (n < skN P zs (zs.length + 1) n))) ∧ Sc sb w' tv (skN P zs (zs.length + 1) n) ∧ skN P zs (zs.length + 1) n ≤ zs.length ∧ w.grownBy w' (some sb) := by
  have hlen := ht.len
  have h1 := h.c1
  have HC := hide hP.call
  have hE' := hP.enter
  have HP0 := hide (peek_any sb n tv zs w hT h ht hn)
  have HS := hide h
  have HTx := hide ht
  have HT := hide hT
  clear h ht hP hT
  go_enter Tryd.func29, Tryd.ntmps29
  go_wp2_with (go_at_call 41; refine HP0.out.mono ?_; rintro e w1 ⟨rfl, g1⟩)
  go_loopw [6] (fun p wr => ∃ (k f : Nat), n ≤ k ∧ k ≤ zs.length ∧ p = .int .i32 (nxP zs k) ∧ Sc sb wr tv k ∧ Tx sb wr tv zs ∧ Tab wr ∧ w.grownBy wr (some sb) ∧ zs.length - k < f ∧ skN P zs f k = skN P zs (zs.length + 1) n)
    (fun _ wr => zs.length - atOf sb wr)
  case atStart => exact ⟨n, zs.length + 1, Nat.le_refl _, hn, rfl, HS.out.keep g1, HTx.out.keep g1, HT.out.keep g1, grown_row g1, by omega, rfl⟩
  case round =>
    obtain ⟨k, f, hnk, hk, rfl, hs, ht, hT, hg, hf, hsk⟩ := hrel
    have c1 := hs.c1
    have hat := hide hs.atOf
    obtain ⟨f', rfl⟩ : ∃ f', f = f' + 1 := ⟨f - 1, by omega⟩
    by_cases hgo : nxP zs k ≠ -1 ∧ P (nxP zs k) = true
    · have hpos := nxS_pos hgo.1
      have hle := nxS_le zs k hk
      have HSK := hide ((skN_go (f := f') hgo.1 hgo.2).symm.trans hsk)
      have e1 : (nxP zs k != -1) = true := by simpa using hgo.1
      have HN := hide (next_any sb k tv zs wr hT hs ht hk)
      have HPk := hide (fun W h => peek_any sb (k + nxS zs k) tv zs W h)
      have HQ := hide hgo.2
      have hq := HC.out (nxP zs k) wr
      rw [hgo.2] at hq
      have HTk := hide hT
      have HTxk := hide ht
      have HG := hide hg
      clear hs ht hT hg hsk hgo h1
      generalize nxP zs k = p at e1 hq HN
      generalize nxS zs k = m at HN HSK HPk hpos hle
      go_wp2_with fail
      refine hq.mono ?_
      rintro e w2 ⟨rfl, rfl⟩
      clear hq
      go_wp2_with fail
      refine HN.out.mono ?_
      rintro e w2 ⟨rfl, hs2, g2⟩
      have ht2 := HTxk.out.beside (Nat.le_refl _) g2
      have hT2 := HTk.out.row hsb g2
      go_wp2_with fail
      refine (HPk.out _ hT2 hs2 ht2 hle).mono ?_
      rintro e w3 ⟨rfl, g3⟩
      go_wp2
      go_roundw
      case rel => exact ⟨k + m, f', by omega, hle, rfl, hs2.keep g3, ht2.keep g3, hT2.keep g3, grown_trans (grown_trans HG.out g2) (grown_row g3), by omega, HSK.out⟩
      case measure => rw [(hs2.keep g3).atOf, hat.out]; omega
    · have HSK : Hid (skN P zs (zs.length + 1) n = k) := by
        rw [Hid, ← hsk, skN, if_neg hgo]
      have HS2 := hide hs
      have HG := hide hg
      have hfin : ∀ w', wr.grownBy w' none → Sc sb w' tv (skN P zs (zs.length + 1) n) ∧ skN P zs (zs.length + 1) n ≤ zs.length ∧ w.grownBy w' (some sb) := fun w' g => by
        rw [HSK.out]
        exact ⟨HS2.out.keep g, hk, grown_trans HG.out (grown_row g)⟩
      have HFIN := hide hfin
      have HD : Hid (decide (n < skN P zs (zs.length + 1) n) = decide (n < k)) := by rw [Hid, HSK.out]
      by_cases hm : nxP zs k = -1
      · have e1 : (nxP zs k != -1) = false := by rw [hm]; rfl
        clear hs ht hT hg hsk hgo h1 hfin hm
        generalize nxP zs k = p at e1
        go_wp2
        go_ret
        exact ⟨by rw [HD.out]; rfl, HFIN.out _ (World.grownBy.refl _ _)⟩
      · have e1 : (nxP zs k != -1) = true := by simpa using hm
        have hq := HC.out (nxP zs k) wr
        have hpf : P (nxP zs k) = false := by
          cases hh : P (nxP zs k)
          · rfl
          · exact absurd ⟨hm, hh⟩ hgo
        rw [hpf] at hq
        clear hs ht hT hg hsk hgo h1 hfin hm hpf
        generalize nxP zs k = p at e1 hq
        go_wp2_with fail
        refine hq.mono ?_
        rintro e w2 ⟨rfl, rfl⟩
        clear hq
        go_wp2
        go_ret
        exact ⟨by rw [HD.out]; rfl, HFIN.out _ (World.grownBy.refl _ _)⟩

end Go.Proofs.YtdcajkgmhimffaaDoorRR
