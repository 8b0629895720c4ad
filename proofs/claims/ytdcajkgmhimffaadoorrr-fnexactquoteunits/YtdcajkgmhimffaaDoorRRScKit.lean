import Derived.Test.YtdcajkgmhimffaaDoorRRScPure
import Derived.Deep.RegionWith
namespace Go.Proofs.YtdcajkgmhimffaaDoorRR
open Go.RowKit

/-- The scanner at block sb: its text, its place. -/
structure Sc (sb : Nat) (w : World) (tv : Value) (n : Nat) : Prop where
  c0 : w.cell? ⟨sb, 0, none⟩ = some tv
  c1 : w.cell? ⟨sb, 1, none⟩ = some (.int .i64 n)
  fz : ∀ j, w.frozen? ⟨sb, j, none⟩ = false
theorem Sc.lt {sb : Nat} {w : World} {tv : Value} {n : Nat} (h : Sc sb w tv n) : sb < w.heap.size := World.block_lt_of_cell? w _ h.c0
theorem Sc.keep {sb : Nat} {w w' : World} {tv : Value} {n : Nat} (h : Sc sb w tv n) (hg : w.grownBy w' none) : Sc sb w' tv n :=
  ⟨hg.cell h.c0 (by simp), hg.cell h.c1 (by simp), fun j => (World.frozen?_of_block (hg.block sb h.lt (by simp))).trans (h.fz j)⟩
theorem Sc.put {sb : Nat} {w : World} {tv : Value} {n : Nat} (h : Sc sb w tv n) (m : Int) (k : Nat) (hk : m = k) : Sc sb (w.setCell ⟨sb, 1, none⟩ (.int .i64 m)) tv k := by
  subst hk
  have h0 := h.c0
  have h1 := h.c1
  have hf := h.fz
  exact ⟨by simp [go_sem, h0], by simp [go_sem, h1], fun j => by simpa using hf j⟩

/-- The text, in blocks below B. -/
structure Tx (B : Nat) (w : World) (tv : Value) (zs : List Int) : Prop where
  rd : RdB B w tv zs
  sl : Sl tv zs.length
  by_ : Bys zs
  len : zs.length ≤ 1048576
theorem Tx.keep {B : Nat} {w w' : World} {tv : Value} {zs : List Int} (h : Tx B w tv zs) (hg : w.grownBy w' none) : Tx B w' tv zs := ⟨h.rd.keep hg, h.sl, h.by_, h.len⟩
theorem Tx.beside {B sb : Nat} {w w' : World} {tv : Value} {zs : List Int} (h : Tx B w tv zs) (hB : B ≤ sb) (hg : w.grownBy w' (some sb)) : Tx B w' tv zs :=
  ⟨h.rd.beside hg (fun k e => by cases e; exact hB), h.sl, h.by_, h.len⟩
theorem grown_set1 (w : World) (sb j : Nat) (x : Value) : w.grownBy (w.setCell ⟨sb, j, none⟩ x) (some sb) := by
  refine ⟨rfl, rfl, rfl, by simp, fun i hi hn => ?_⟩
  exact Below.heap_setCell _ _ _ _ (fun e => hn (by rw [e]))

theorem grown_drew1 {a b : World} {r : Option Nat} (h : a.grownBy b r) : a.grownBy b.drew r := ⟨h.os, h.tape, h.output, h.size, h.block⟩
theorem grown_row {a b : World} {r : Option Nat} (h : a.grownBy b none) : a.grownBy b r := ⟨h.os, h.tape, h.output, h.size, fun i hi _ => h.block i hi (by simp)⟩

set_option maxHeartbeats 400000 in
theorem ended_any (sb n : Nat) (tv : Value) (zs : List Int) (w : World) (h : Sc sb w tv n) (ht : Tx sb w tv zs) :
    Calls Tryd.prog 18 #[.pointer (some ⟨sb, 0, none⟩)] w fun e w' => e = .returned (.bool ((n : Int) == (zs.length : Int))) ∧ w.grownBy w' none := by
  obtain ⟨a, cap, rfl, _⟩ := ht.rd
  have h0 := h.c0
  have h1 := h.c1
  go_enter Tryd.func18, Tryd.ntmps18
  go_wp2_with fail
  go_quiet (fail)
  go_wp2
  go_ret
  exact ⟨rfl, grown_drewN (World.grownBy.refl _ _) _⟩

set_option maxHeartbeats 1000000 in
set_option maxRecDepth 100000 in
theorem next_any (sb n : Nat) (tv : Value) (zs : List Int) (w : World) (hT : Tab w) (h : Sc sb w tv n) (ht : Tx sb w tv zs) (hn : n ≤ zs.length) :
    Calls Tryd.prog 42 #[.pointer (some ⟨sb, 0, none⟩)] w fun e w' => e = .returned (.int .i32 (nxP zs n)) ∧ Sc sb w' tv (n + nxS zs n) ∧ w.grownBy w' (some sb) := by
  have hE := ended_any sb n tv zs w h ht
  have HSC := hide h
  have h0 := h.c0
  have h1 := h.c1
  have h2 := h.fz
  have hlt := h.lt
  have hlen := ht.len
  have hby := ht.by_
  clear h
  by_cases hlt2 : n < zs.length
  · have hne : ((n : Int) == (zs.length : Int)) = false := by simp; omega
    obtain ⟨a, cap, rfl, hr⟩ := ht.rd
    obtain ⟨b, off, rfl, hb, hc⟩ := hr (fun e => by simp [e] at hlt2)
    obtain ⟨a', cap', hve, hcap, hcm⟩ := ht.sl
    have hce : cap = cap' := by simp at hve; exact hve.2
    subst hce
    unfold maxLen at hcm
    have hbw : b < w.heap.size := by omega
    obtain ⟨s, hs⟩ : ∃ s, s = zs.drop n := ⟨_, rfl⟩
    have hsl : s.length = zs.length - n := by rw [hs, List.length_drop]
    have hrs : ∀ W, w.grownBy W none → RdB W.heap.size W (.slice (some ⟨b, off + n, none⟩) (zs.length - n) (cap - n)) s := by
      intro W hW
      refine ⟨some ⟨b, off + n, none⟩, cap - n, by rw [hsl], fun _ => ⟨b, off + n, rfl, by have := hW.size; omega, fun j hj => ?_⟩⟩
      rw [Nat.add_assoc, hW.cell (hc (n + j) (by omega)) (by simp), hs, drop_at]
    have hbs : Bys s := fun z hz => hby z (by rw [hs] at hz; exact List.mem_of_mem_drop hz)
    have HFP := fun W hW => firstPoint_any _ s W (hT.keep hW) (hrs W hW) hbs (by omega) (by omega)
    have HP : Hid (nxP zs n = fpP s) := by rw [Hid, nxP_in hlt2, hs]
    have HS : Hid (nxS zs n = fsize s) := by rw [Hid, nxS_in hlt2, hs]
    have hf4 : fsize s ≤ zs.length := by have := fsize_le s; omega
    have hck : ¬ cap = n := by omega
    clear hr hc hve hs hrs hbs
    generalize fpP s = p at HFP HP
    generalize fsize s = m at HFP HS hf4
    go_enter Tryd.func42, Tryd.ntmps42
    go_wp2_with fail
    refine hE.mono ?_
    rintro e w0 ⟨rfl, g0⟩
    rw [hne]
    have c0 := g0.cell h0 (by simp)
    have c1 := g0.cell h1 (by simp)
    have HF := hide (HFP w0.drew (grown_drew1 g0))
    clear h0 h1 h2 HFP
    go_wp2_with fail
    go_region_with (go_at_call 48; refine HF.out.mono ?_; rintro e w1 ⟨rfl, hb1⟩)
    all_goals
      have g1 := grown_trans (grown_drew1 g0) (grown_of_below hb1)
      have k := HSC.out.keep g1
      have k0 := k.c0
      have k1 := k.c1
      have k2 := k.fz
      have HK := hide k
      clear k hb1
      go_wp2
      go_ret
      refine ⟨by rw [HP.out]; rfl, by rw [HS.out]; exact HK.out.put _ _ (by go_num), grown_trans (grown_row g1) (grown_set1 _ _ _ _)⟩
  · have hne : ((n : Int) == (zs.length : Int)) = true := by simp; omega
    go_enter Tryd.func42, Tryd.ntmps42
    go_wp2_with fail
    refine hE.mono ?_
    rintro e w1 ⟨rfl, g1⟩
    rw [hne]
    go_wp2
    go_ret
    exact ⟨by rw [nxP_end hlt2]; rfl, by rw [nxS_end hlt2]; exact HSC.out.keep g1, grown_row g1⟩

end Go.Proofs.YtdcajkgmhimffaaDoorRR
