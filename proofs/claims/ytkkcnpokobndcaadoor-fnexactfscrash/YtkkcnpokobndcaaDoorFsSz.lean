import Derived.Test.YtkkcnpokobndcaaDoorFsKit
namespace Go.Proofs.YtkkcnpokobndcaaDoor
open Go.RowKit

/-- What is left of 'left' behind n; below nought: -1. -/
def szB (n : Nat) (left : Int) : Int := if left - n < 0 then -1 else left - n
theorem szB_bd (n : Nat) (left : Int) (h1 : left ≤ 1048576) : -1 ≤ szB n left ∧ szB n left ≤ 1048576 := by
  unfold szB; split <;> omega
theorem szB_pos {n : Nat} {left : Int} (h : ¬ szB n left < 0) : szB n left = left - n ∧ (n : Int) ≤ left := by
  unfold szB at h ⊢; split at h <;> simp_all <;> omega
theorem szB_neg {n : Nat} {left : Int} (h : left < n) : szB n left = -1 := by unfold szB; rw [if_pos (by omega)]

set_option maxHeartbeats 400000 in
theorem szByteS_any (a : Option Addr) (n cap : Nat) (left : Int) (w : World) (hn : n ≤ 9223372036854775807) (h0 : 0 ≤ left) (h1 : left ≤ 1048576) :
    Calls Tryd.prog 60 #[.slice a n cap, .int .i64 left] w fun e w' => e = .returned (.int .i64 (szB n left)) ∧ w = w' := by
  by_cases h : left - n < 0
  · have HF : Hid (szB n left = -1) := by unfold Hid szB; rw [if_pos h]
    go_enter Tryd.func60, Tryd.ntmps60
    go_wp2
    go_ret
    exact ⟨by rw [HF.out]; rfl, rfl⟩
  · have HF : Hid (szB n left = left - n) := by unfold Hid szB; rw [if_neg h]
    go_enter Tryd.func60, Tryd.ntmps60
    go_wp2
    go_ret
    exact ⟨by rw [HF.out]; rfl, rfl⟩

set_option maxHeartbeats 1000000 in
theorem szFsFile_any (a1 : Option Addr) (n1 c1 : Nat) (a2 : Option Addr) (n2 c2 : Nat) (s : Value) (left : Int) (w : World) (hn1 : n1 ≤ 9223372036854775807) (hn2 : n2 ≤ 9223372036854775807) (h0 : 0 ≤ left) (h1 : left ≤ 1048576) :
    Calls Tryd.prog 49 #[.agg #[.slice a1 n1 c1, .slice a2 n2 c2, s], .int .i64 left] w fun e w' => e = .returned (.int .i64 (szB (n1 + n2) left)) ∧ w.grownBy w' none := by
  have hb := szB_bd n1 left h1
  have hs := fun w => szByteS_any a1 n1 c1 left w hn1 h0 h1
  by_cases hr : szB n1 left < 0
  · have hr1 : szB n1 left = -1 := by omega
    have HF : Hid (szB (n1 + n2) left = -1) := by unfold Hid; apply szB_neg; unfold szB at hr; split at hr <;> omega
    rw [hr1] at hs
    have HS := hide hs
    clear hs hr hr1 hb
    go_enter Tryd.func49, Tryd.ntmps49
    go_wp2_with fail
    refine (HS.out _).mono ?_
    rintro e w1 ⟨rfl, rfl⟩
    go_wp2
    go_ret
    exact ⟨by rw [HF.out]; rfl, World.grownBy_alloc _ _ _⟩
  · obtain ⟨hr1, hr2⟩ := szB_pos hr
    have hs2 := fun w => szByteS_any a2 n2 c2 (szB n1 left) w hn2 (by omega) (by omega)
    have HF : Hid (szB (n1 + n2) left = szB n2 (szB n1 left)) := by
      unfold Hid; rw [hr1]; unfold szB
      by_cases hx : left - (n1 : Int) - n2 < 0
      · rw [if_pos (by omega), if_pos hx]
      · rw [if_neg (by omega), if_neg hx]; omega
    have hb2 := szB_bd n2 (szB n1 left) hb.2
    generalize szB n2 (szB n1 left) = r2 at *
    have HS := hide hs
    have HS2 := hide hs2
    clear hs hs2 hr1 hr2
    generalize szB n1 left = r at *
    go_enter Tryd.func49, Tryd.ntmps49
    go_wp2_with fail
    refine (HS.out _).mono ?_
    rintro e w1 ⟨rfl, rfl⟩
    go_wp2_with fail
    refine (HS2.out _).mono ?_
    rintro e w1 ⟨rfl, rfl⟩
    by_cases hr3 : r2 < 0
    · have : r2 = -1 := by omega
      subst this
      go_wp2
      go_ret
      exact ⟨by rw [HF.out]; rfl, World.grownBy_alloc _ _ _⟩
    · go_wp2
      go_ret
      exact ⟨by rw [HF.out]; rfl, World.grownBy_alloc _ _ _⟩

/-- The bytes of all files. -/
def tot : List Fl → Nat
  | [] => 0
  | f :: fs => f.n.length + f.d.length + tot fs
theorem tot_take : ∀ (fs : List Fl) (k : Nat) (hk : k < fs.length), tot (fs.take (k + 1)) = tot (fs.take k) + (fs[k].n.length + fs[k].d.length)
  | f :: fs, 0, _ => by simp [tot]
  | f :: fs, k + 1, h => by
    have := tot_take fs k (by simpa using h)
    simp only [List.take_succ_cons, tot, this, List.getElem_cons_succ]
    omega
theorem tot_le : ∀ (fs : List Fl) (k : Nat), tot (fs.take k) ≤ tot fs
  | [], k => by simp
  | f :: fs, 0 => by simp [tot]
  | f :: fs, k + 1 => by have := tot_le fs k; simp only [List.take_succ_cons, tot]; omega
theorem tot_mem : ∀ (fs : List Fl) (f : Fl), f ∈ fs → f.n.length + f.d.length ≤ tot fs
  | g :: fs, f, h => by
    simp only [List.mem_cons] at h
    rcases h with rfl | h
    · simp only [tot]; omega
    · have := tot_mem fs f h; simp only [tot]; omega

set_option maxHeartbeats 2000000 in
set_option maxRecDepth 100000 in
theorem szFsFileS_any (v : Value) (fs : List Fl) (left : Int) (w : World) (hv : RdF w.heap.size w v fs) (h0 : 0 ≤ left) (h1 : left ≤ 1048576) :
    Calls Tryd.prog 27 #[v, .int .i64 left] w fun e w' => e = .returned (.int .i64 (szB (fs.length + tot fs) left)) ∧ w.grownBy w' none := by
  obtain ⟨a, cap, hv0, hcap, hmax, _⟩ := id hv
  unfold maxLen at hmax
  by_cases h : left - fs.length < 0
  · have HF : Hid (szB (fs.length + tot fs) left = -1) := szB_neg (by omega)
    subst hv0
    clear hv
    go_enter Tryd.func27, Tryd.ntmps27
    go_wp2
    go_ret
    exact ⟨by rw [HF.out]; rfl, World.grownBy.refl _ _⟩
  · subst hv0
    go_enter Tryd.func27, Tryd.ntmps27
    go_wp2
    go_loopw [1, 5] (fun lf i wr => ∃ (k : Nat) (l : Int), k ≤ fs.length ∧ i = .int .i64 k ∧ lf = .int .i64 l ∧ 0 ≤ l ∧ Hid (l = left - fs.length - tot (fs.take k)) ∧ w.grownBy wr none)
      (fun _ i _ => fs.length - (intOf i).toNat)
    case atStart => exact ⟨0, left - fs.length, Nat.zero_le _, rfl, by go_num, by omega, by unfold Hid; simp [tot], World.grownBy.refl _ _⟩
    case round =>
      obtain ⟨k, l, hk, rfl, rfl, hl0, HL, hgr⟩ := hrel
      have hl1 : l ≤ 1048576 := by have := HL.out; omega
      by_cases hlt : k < fs.length
      · obtain ⟨b, off, cap', x, hva, hb, hp⟩ := (hv.keep hgr).at k hlt
        cases hva
        obtain ⟨x1, x2⟩ := x
        have z0 := hp.n; have z1 := hp.d; have z2 := hp.s
        have htk := tot_take fs k hlt
        have hle := tot_le fs (k + 1)
        obtain ⟨na, ncap, hnv, hn1, hn2⟩ := hp.sn
        obtain ⟨da, dcap, hdv, hd1, hd2⟩ := hp.sd
        unfold maxLen at hn2 hd2
        subst hnv hdv
        have hsz := fun w => szFsFile_any na fs[k].n.length ncap da fs[k].d.length dcap (.int .i64 fs[k].s) l w (by omega) (by omega) hl0 hl1
        have hbd := szB_bd (fs[k].n.length + fs[k].d.length) l hl1
        by_cases hr : szB (fs[k].n.length + fs[k].d.length) l < 0
        · have HR : Hid (szB (fs.length + tot fs) left = -1) := by
            have := HL.out
            apply szB_neg
            unfold szB at hr
            split at hr <;> omega
          rw [show szB (fs[k].n.length + fs[k].d.length) l = -1 by omega] at hsz
          have HS := hide hsz
          clear hv hp hsz hbd hr htk hle HL
          generalize fs[k] = p at *
          go_wp2_with (go_at_call 49; refine (HS.out _).mono ?_; rintro e w1 ⟨rfl, g1⟩)
          go_ret
          exact ⟨by rw [HR.out]; rfl, grown_trans hgr g1⟩
        · obtain ⟨e1, e2⟩ := szB_pos hr
          have HN : Hid (szB (fs[k].n.length + fs[k].d.length) l = left - fs.length - tot (fs.take (k + 1))) := by have := HL.out; unfold Hid; omega
          have HS := hide hsz
          clear hv hp hsz htk hle HL e1 e2
          generalize szB (fs[k].n.length + fs[k].d.length) l = r at *
          generalize fs[k] = p at *
          go_wp2_with (go_at_call 49; refine (HS.out _).mono ?_; rintro e w1 ⟨rfl, g1⟩)
          go_roundw
          case rel => exact ⟨k + 1, r, by omega, by go_num, rfl, by omega, HN, grown_trans hgr g1⟩
          case measure => simp [intOf]; omega
      · have hkn : k = fs.length := by omega
        have HR : Hid (szB (fs.length + tot fs) left = l) := by
          have := HL.out
          rw [hkn, List.take_length] at this
          unfold Hid szB
          rw [if_neg (by omega)]; omega
        go_wp2
        go_ret
        exact ⟨by rw [HR.out]; rfl, hgr⟩

set_option maxHeartbeats 1000000 in
theorem szFs_any (v : Value) (fs : List Fl) (left : Int) (w : World) (hv : RdF w.heap.size w v fs) (h0 : 0 ≤ left) (h1 : left ≤ 1048576) :
    Calls Tryd.prog 8 #[.agg #[v], .int .i64 left] w fun e w' => e = .returned (.int .i64 (szB (fs.length + tot fs) left)) ∧ w.grownBy w' none := by
  obtain ⟨a, cap, hv0, _⟩ := id hv
  have hs := fun w' (hg : w.grownBy w' none) => szFsFileS_any v fs left w' (hv.now hg) h0 h1
  have hb := szB_bd (fs.length + tot fs) left h1
  have HS := hide hs
  clear hs hv
  generalize szB (fs.length + tot fs) left = r at *
  subst hv0
  by_cases hr : r < 0
  · have : r = -1 := by omega
    subst this
    go_enter Tryd.func8, Tryd.ntmps8
    go_wp2_with fail
    refine (HS.out _ (World.grownBy_alloc _ _ _)).mono ?_
    rintro e w1 ⟨rfl, g1⟩
    go_wp2
    go_ret
    exact ⟨rfl, grown_trans (World.grownBy_alloc _ _ _) g1⟩
  · go_enter Tryd.func8, Tryd.ntmps8
    go_wp2_with fail
    refine (HS.out _ (World.grownBy_alloc _ _ _)).mono ?_
    rintro e w1 ⟨rfl, g1⟩
    go_wp2
    go_ret
    exact ⟨rfl, grown_trans (World.grownBy_alloc _ _ _) g1⟩

end Go.Proofs.YtkkcnpokobndcaaDoor
