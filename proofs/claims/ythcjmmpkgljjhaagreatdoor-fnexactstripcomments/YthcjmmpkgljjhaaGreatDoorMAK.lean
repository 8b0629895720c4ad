import Derived.Handy
import Derived.Test.YthcjmmpkgljjhaaGreatDoorMAA
import Derived.Test.YthcjmmpkgljjhaaGreatDoorMAG
namespace Go.Proofs.YthcjmmpkgljjhaaGreatDoor
open Go.RowKit

set_option maxHeartbeats 400000 in
theorem isUnit_any (p : Int) (w : World) : Calls Tryz.prog 75 #[.int .i64 p] w fun e w' => e = .returned (.bool (isUn p)) ∧ w = w' := by
  by_cases h0 : 0 ≤ p
  · by_cases h1 : p < 65536
    · have HI : Hid (isUn p = true) := by simp [Hid, isUn, h0, h1]
      go_enter Tryz.func75, Tryz.ntmps75
      go_wp2
      go_ret
      exact ⟨by rw [HI.out]; rfl, rfl⟩
    · have HI : Hid (isUn p = false) := by simp [Hid, isUn]; omega
      go_enter Tryz.func75, Tryz.ntmps75
      go_wp2
      go_ret
      exact ⟨by rw [HI.out]; rfl, rfl⟩
  · have HI : Hid (isUn p = false) := by simp [Hid, isUn]; omega
    go_enter Tryz.func75, Tryz.ntmps75
    go_wp2
    go_ret
    exact ⟨by rw [HI.out]; rfl, rfl⟩

end Go.Proofs.YthcjmmpkgljjhaaGreatDoor

namespace Go.Proofs.YthcjmmpkgljjhaaGreatDoor
open Go.RowKit

/-- The checker in memory: the nodes that are still to be read, how many comments and how many elements there may still be. -/
structure Ck (w : World) (h : Nat) (v : Value) (c r : Int) : Prop where
  n : w.cell? ⟨h, 0, none⟩ = some v
  c : w.cell? ⟨h, 1, none⟩ = some (.int .i64 c)
  r : w.cell? ⟨h, 2, none⟩ = some (.int .i64 r)
  fn : w.frozen? ⟨h, 0, none⟩ = false
  fc : w.frozen? ⟨h, 1, none⟩ = false
  fr : w.frozen? ⟨h, 2, none⟩ = false

theorem grown_bothK {W w1 : World} {a : Addr} {v : Value} (hg : W.grownBy w1 none) (h : W.cell? a = some v) (hf : W.frozen? a = false) : w1.cell? a = some v ∧ w1.frozen? a = false :=
  ⟨hg.cell h (by simp), (World.frozen?_of_block (hg.block a.block (World.block_lt_of_cell? W a h) (by simp))).trans hf⟩
theorem grown_setK (w : World) (a : Addr) (u : Value) : w.grownBy (w.setCell a u) (some a.block) :=
  ⟨rfl, rfl, rfl, by simp, fun i _ hn => Below.heap_setCell _ _ _ _ (fun e => hn (by rw [e]))⟩
theorem grown_rowK {a b : World} (h : a.grownBy b none) (r : Option Nat) : a.grownBy b r := ⟨h.os, h.tape, h.output, h.size, fun k hk _ => h.block k hk (by simp)⟩
theorem grown_transK {a b c : World} {r : Option Nat} (h : a.grownBy b r) (k : b.grownBy c r) : a.grownBy c r :=
  ⟨k.os.trans h.os, k.tape.trans h.tape, k.output.trans h.output, Nat.le_trans h.size k.size, fun i hi hn => (k.block i (Nat.lt_of_lt_of_le hi h.size) hn).trans (h.block i hi hn)⟩
theorem Ck.lt {w : World} {h : Nat} {v : Value} {c r : Int} (k : Ck w h v c r) : h < w.heap.size := World.block_lt_of_cell? w _ k.n
theorem Ck.keep {w w' : World} {h : Nat} {v : Value} {c r : Int} (k : Ck w h v c r) (g : w.grownBy w' none) : Ck w' h v c r :=
  ⟨(grown_bothK g k.n k.fn).1, (grown_bothK g k.c k.fc).1, (grown_bothK g k.r k.fr).1, (grown_bothK g k.n k.fn).2, (grown_bothK g k.c k.fc).2, (grown_bothK g k.r k.fr).2⟩
theorem Ck.setR {w : World} {h : Nat} {v : Value} {c r : Int} (k : Ck w h v c r) (r' : Int) : Ck (w.setCell ⟨h, 2, none⟩ (.int .i64 r')) h v c r' := by
  have a1 := k.n; have a2 := k.c; have a3 := k.r; have b1 := k.fn; have b2 := k.fc; have b3 := k.fr
  exact ⟨by simp [go_sem, a1], by simp [go_sem, a2], by simp [go_sem, a3], by simp [go_sem, b1], by simp [go_sem, b2], by simp [go_sem, b3]⟩
theorem Ck.setC {w : World} {h : Nat} {v : Value} {c r : Int} (k : Ck w h v c r) (c' : Int) : Ck (w.setCell ⟨h, 1, none⟩ (.int .i64 c')) h v c' r := by
  have a1 := k.n; have a2 := k.c; have a3 := k.r; have b1 := k.fn; have b2 := k.fc; have b3 := k.fr
  exact ⟨by simp [go_sem, a1], by simp [go_sem, a2], by simp [go_sem, a3], by simp [go_sem, b1], by simp [go_sem, b2], by simp [go_sem, b3]⟩
theorem Ck.setN {w : World} {h : Nat} {v : Value} {c r : Int} (k : Ck w h v c r) (v' : Value) : Ck (w.setCell ⟨h, 0, none⟩ v') h v' c r := by
  have a1 := k.n; have a2 := k.c; have a3 := k.r; have b1 := k.fn; have b2 := k.fc; have b3 := k.fr
  exact ⟨by simp [go_sem, a1], by simp [go_sem, a2], by simp [go_sem, a3], by simp [go_sem, b1], by simp [go_sem, b2], by simp [go_sem, b3]⟩

/-- What a method of the checker keeps. -/
abbrev CkEnds (w : World) (h : Nat) (v : Value) (c r : Int) (w' : World) : Prop := Ck w' h v c r ∧ w.grownBy w' (some h)

set_option maxHeartbeats 2000000 in
set_option maxRecDepth 100000 in
theorem takeText_any (h : Nat) (v : Value) (a : Option Addr) (n cap : Nat) (c r : Int) (w : World) (hk : Ck w h v c r) (hn : n ≤ 1048576) (hr : -1048576000 ≤ r ∧ r ≤ 1048576) :
    Calls Tryz.prog 56 #[.pointer (some ⟨h, 0, none⟩), .slice a n cap] w fun e w' => e = .returned (.bool (decide ((n : Int) ≤ r))) ∧ CkEnds w h v c (r - n) w' := by
  have a3 := hk.r; have b3 := hk.fr
  have HE : Hid (CkEnds w h v c (r - n) (w.setCell ⟨h, 2, none⟩ (.int .i64 (r - n)))) := ⟨hk.setR _, grown_setK w ⟨h, 2, none⟩ _⟩
  clear hk
  go_enter Tryz.func56, Tryz.ntmps56
  go_wp2
  go_ret
  exact ⟨rfl, HE.out⟩

theorem all_takeI {α : Type} (f : α → Bool) (cs : List α) (k : Nat) (hk : k < cs.length) (h : (cs.take k).all f = true) (h2 : f cs[k] = true) : (cs.take (k + 1)).all f = true := by
  rw [List.take_add_one, List.getElem?_eq_getElem hk, List.all_append, h]
  simp [h2]
theorem all_badI {α : Type} (f : α → Bool) (cs : List α) (k : Nat) (hk : k < cs.length) (h2 : f cs[k] = false) : cs.all f = false := by
  rw [List.all_eq_false]
  exact ⟨cs[k], List.getElem_mem hk, by rw [h2]; simp⟩

set_option maxHeartbeats 4000000 in
set_option maxRecDepth 100000 in
theorem takeUnits_any (h : Nat) (v uv : Value) (zs : List Int) (c r : Int) (w : World) (hk : Ck w h v c r) (B : Nat) (hv : RdI B w uv zs) (hB : B ≤ h) (hn : zs.length ≤ 1048576) (hr : 0 ≤ r ∧ r ≤ 1048576) :
    Calls Tryz.prog 65 #[.pointer (some ⟨h, 0, none⟩), uv] w fun e w' => e = .returned (.bool (decide ((zs.length : Int) ≤ r) && zs.all isUn)) ∧ CkEnds w h v c (r - zs.length) w' := by
  obtain ⟨a, cap, hv0, hrr⟩ := id hv
  have a3 := hk.r; have b3 := hk.fr
  have HE : Hid (CkEnds w h v c (r - zs.length) (w.setCell ⟨h, 2, none⟩ (.int .i64 (r - zs.length)))) := ⟨hk.setR _, grown_setK w ⟨h, 2, none⟩ _⟩
  have HV : Hid (RdI B (w.setCell ⟨h, 2, none⟩ (.int .i64 (r - zs.length))) uv zs) := hv.beside (grown_setK w ⟨h, 2, none⟩ _) (fun k e => by cases e; exact hB)
  subst hv0
  clear hk hv hrr
  by_cases hc : (zs.length : Int) ≤ r
  · have hc2 : ¬ r - (zs.length : Int) < 0 := by omega
    rw [decide_eq_true hc, Bool.true_and]
    go_enter Tryz.func65, Tryz.ntmps65
    go_wp2
    obtain ⟨W1, hW1⟩ : ∃ W1, W1 = w.setCell ⟨h, 2, none⟩ (.int .i64 (r - zs.length)) := ⟨_, rfl⟩
    rw [← hW1] at HE HV ⊢
    have HW := hide hW1
    clear hW1 a3 b3
    go_loopw [23] (fun i wr => ∃ k : Nat, k ≤ zs.length ∧ i = .int .i64 k ∧ Hid ((zs.take k).all isUn = true) ∧ W1.grownBy wr none) (fun i _ => zs.length - (intOf i).toNat)
    case atStart => exact ⟨0, Nat.zero_le _, rfl, by simp [Hid], World.grownBy.refl _ _⟩
    case round =>
      obtain ⟨k, hk, rfl, HA, hgr⟩ := hrel
      have HE2 : Hid (CkEnds w h v c (r - zs.length) wr) := ⟨HE.out.1.keep hgr, grown_transK HE.out.2 (grown_rowK hgr _)⟩
      have HG := hide hgr
      by_cases hlt : k < zs.length
      · obtain ⟨a', cap', hva, hrr⟩ := HV.out.keep hgr
        obtain ⟨b, off, ha', hbl, hcl⟩ := hrr (fun e => by rw [e] at hlt; simp at hlt)
        have hb1 : a = some ⟨b, off, none⟩ := by simp only [Value.slice.injEq] at hva; rw [hva.1]; exact ha'
        subst hb1
        have hck := hcl k hlt
        have hkl : (k : Int) < zs.length := by omega
        have hgk : zs[k]?.getD 0 = zs[k] := by simp [hlt]
        rw [hgk] at hck
        have HU := hide (fun w => isUnit_any zs[k] w)
        clear hgr hva hrr hcl
        cases hu : isUn zs[k] with
        | true =>
          have HN := hide (all_takeI isUn zs k hlt HA.out hu)
          rw [hu] at HU
          clear hu hgk
          generalize zs[k] = p at *
          go_wp2_with fail
          refine (HU.out _).mono ?_
          rintro e w2 ⟨rfl, rfl⟩
          go_wp2
          go_roundw
          case rel => exact ⟨k + 1, by omega, by go_num, HN, HG.out⟩
          case measure => simp [intOf]; omega
        | false =>
          have HF := hide (all_badI isUn zs k hlt hu)
          rw [hu] at HU
          clear hu hgk
          generalize zs[k] = p at *
          go_wp2_with fail
          refine (HU.out _).mono ?_
          rintro e w2 ⟨rfl, rfl⟩
          go_wp2
          go_ret
          exact ⟨by rw [HF.out]; rfl, HE2.out⟩
      · have HF : Hid (zs.all isUn = true) := by
          have := HA.out
          rw [show k = zs.length by omega, List.take_length] at this
          exact this
        clear hgr
        go_wp2
        go_ret
        exact ⟨by rw [HF.out]; rfl, HE2.out⟩
  · have hc2 : r - (zs.length : Int) < 0 := by omega
    rw [decide_eq_false hc, Bool.false_and]
    go_enter Tryz.func65, Tryz.ntmps65
    go_wp2
    go_ret
    exact ⟨rfl, HE.out⟩

end Go.Proofs.YthcjmmpkgljjhaaGreatDoor

