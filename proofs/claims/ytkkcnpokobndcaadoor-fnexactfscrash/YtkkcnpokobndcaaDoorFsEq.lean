import Derived.Test.YtkkcnpokobndcaaDoorFsKit
import Derived.Test.YtkkcnpokobndcaaDoorEqB
import Derived.Handy
import Derived.Deep.RegionWith
namespace Go.Proofs.YtkkcnpokobndcaaDoor
open Go.RowKit

set_option maxHeartbeats 1000000 in
set_option maxRecDepth 100000 in
theorem eqFsFile_same (p : Fl) (n1 d1 n2 d2 : Value) (w : World) (h1 : RdB w.heap.size w n1 p.n) (h2 : RdB w.heap.size w d1 p.d) (h3 : RdB w.heap.size w n2 p.n) (h4 : RdB w.heap.size w d2 p.d) (hn : p.n.length ≤ 4194304) (hd : p.d.length ≤ 4194304) :
    Calls Tryd.prog 58 #[.agg #[n1, d1, .int .i64 p.s], .agg #[n2, d2, .int .i64 p.s]] w fun e w' => e = .returned (.bool true) ∧ w.grownBy w' none := by
  obtain ⟨a1, c1, e1, _⟩ := id h1
  obtain ⟨a2, c2, e2, _⟩ := id h2
  obtain ⟨a3, c3, e3, _⟩ := id h3
  obtain ⟨a4, c4, e4, _⟩ := id h4
  have hg : ∀ o1 o2 : Obj, w.grownBy ((w.alloc o1).alloc o2) none := fun _ _ => grown_trans (World.grownBy_alloc _ _ _) (World.grownBy_alloc _ _ _)
  have hss : (p.s != p.s) = false := by simp
  have HN : Hid (∀ w', w.grownBy w' none → Calls Tryd.prog 13 #[n1, n2] w' fun e w'' => e = .returned (.bool (decide (p.n = p.n))) ∧ ∃ m, w'' = w'.drewN m) := fun w' g => eqByteS_any _ _ p.n p.n _ (h1.keep g).now (h3.keep g).now (by omega)
  have HD : Hid (∀ w', w.grownBy w' none → Calls Tryd.prog 13 #[d1, d2] w' fun e w'' => e = .returned (.bool (decide (p.d = p.d))) ∧ ∃ m, w'' = w'.drewN m) := fun w' g => eqByteS_any _ _ p.d p.d _ (h2.keep g).now (h4.keep g).now (by omega)
  subst e1 e2 e3 e4
  clear h1 h2 h3 h4
  go_enter Tryd.func58, Tryd.ntmps58
  go_wp2_with fail
  refine (HN.out _ (hg _ _)).mono ?_
  rintro e w1 ⟨rfl, m, rfl⟩
  simp only [decide_true]
  go_wp2_with fail
  refine (HD.out _ (grown_drewN (hg _ _) m)).mono ?_
  rintro e w1 ⟨rfl, m2, rfl⟩
  simp only [decide_true]
  go_wp2
  go_ret
  exact ⟨rfl, grown_drewN (hg _ _) (m + m2)⟩

set_option maxHeartbeats 2000000 in
set_option maxRecDepth 100000 in
theorem eqFsFileS_same (va vb : Value) (fs : List Fl) (w : World) (ha : RdF w.heap.size w va fs) (hb : RdF w.heap.size w vb fs) (hn : fs.length ≤ 4194304) (ht : ∀ p ∈ fs, p.n.length ≤ 4194304 ∧ p.d.length ≤ 4194304) :
    Calls Tryd.prog 37 #[va, vb] w fun e w' => e = .returned (.bool true) ∧ w.grownBy w' none := by
  obtain ⟨a1, cap1, hva, _⟩ := id ha
  obtain ⟨a2, cap2, hvb, _⟩ := id hb
  have hll : ((fs.length : Int) != (fs.length : Int)) = false := by simp
  subst hva hvb
  go_enter Tryd.func37, Tryd.ntmps37
  go_wp2
  go_loopw [5] (fun i wr => ∃ k : Nat, k ≤ fs.length ∧ i = .int .i64 k ∧ w.grownBy wr none) (fun i _ => fs.length - (intOf i).toNat)
  case atStart => exact ⟨0, Nat.zero_le _, rfl, World.grownBy.refl _ _⟩
  case round =>
    obtain ⟨k, hk, rfl, hgr⟩ := hrel
    by_cases hlt : k < fs.length
    · obtain ⟨b1, off1, cap1', x1, hva1, hb1, hp1⟩ := (ha.now hgr).at k hlt
      obtain ⟨b2, off2, cap2', x2, hva2, hb2, hp2⟩ := (hb.now hgr).at k hlt
      cases hva1
      cases hva2
      obtain ⟨n1, d1⟩ := x1
      obtain ⟨n2, d2⟩ := x2
      have k1 := hp1.n; have t1 := hp1.d; have s1 := hp1.s
      have k2 := hp2.n; have t2 := hp2.d; have s2 := hp2.s
      have hpt := ht _ (List.getElem_mem hlt)
      have H : Hid (∀ w' : World, wr.grownBy w' none → Calls Tryd.prog 58 #[.agg #[n1, d1, .int .i64 fs[k].s], .agg #[n2, d2, .int .i64 fs[k].s]] w' fun e w'' => e = .returned (.bool true) ∧ w'.grownBy w'' none) := by
        intro w' hg'
        exact eqFsFile_same fs[k] _ _ _ _ w' (hp1.rn.keep hg').now (hp1.rd.keep hg').now (hp2.rn.keep hg').now (hp2.rd.keep hg').now hpt.1 hpt.2
      obtain ⟨q1, r1, f1, _, _⟩ := hp1.sn
      obtain ⟨q2, r2, f2, _, _⟩ := hp1.sd
      obtain ⟨q3, r3, f3, _, _⟩ := hp2.sn
      obtain ⟨q4, r4, f4, _, _⟩ := hp2.sd
      have HG : Hid (w.grownBy wr none) := hgr
      clear hp1 hp2 hgr ht ha hb
      subst f1 f2 f3 f4
      generalize fs[k] = p at *
      go_wp2
      have HD : Hid (wr.grownBy wr.drew none) := ⟨rfl, rfl, rfl, Nat.le_refl _, fun _ _ _ => rfl⟩
      go_region_with (go_at_call 58; refine (H.out wr.drew HD.out).mono ?_; rintro e w1 ⟨rfl, g1⟩)
      all_goals
        go_wp2
        go_roundw
        case rel => exact ⟨k + 1, by omega, by go_num, grown_trans (grown_trans HG.out HD.out) g1⟩
        case measure => simp [intOf]; omega
    · go_wp2
      go_ret
      exact ⟨rfl, hgr⟩

set_option maxHeartbeats 1000000 in
theorem eqFs_same (va vb : Value) (fs : List Fl) (w : World) (ha : RdF w.heap.size w va fs) (hb : RdF w.heap.size w vb fs) (hn : fs.length ≤ 4194304) (ht : ∀ p ∈ fs, p.n.length ≤ 4194304 ∧ p.d.length ≤ 4194304) :
    Calls Tryd.prog 14 #[.agg #[va], .agg #[vb]] w fun e w' => e = .returned (.bool true) ∧ w.grownBy w' none := by
  obtain ⟨a1, cap1, hva, _⟩ := id ha
  obtain ⟨a2, cap2, hvb, _⟩ := id hb
  have hg : ∀ o1 o2 : Obj, w.grownBy ((w.alloc o1).alloc o2) none := fun _ _ => grown_trans (World.grownBy_alloc _ _ _) (World.grownBy_alloc _ _ _)
  have HS : Hid (∀ w', w.grownBy w' none → Calls Tryd.prog 37 #[va, vb] w' fun e w'' => e = .returned (.bool true) ∧ w'.grownBy w'' none) := fun w' g => eqFsFileS_same va vb fs w' (ha.now g) (hb.now g) hn ht
  subst hva hvb
  clear ha hb
  go_enter Tryd.func14, Tryd.ntmps14
  go_wp2_with fail
  refine (HS.out _ (hg _ _)).mono ?_
  rintro e w1 ⟨rfl, g1⟩
  go_wp2
  go_ret
  exact ⟨rfl, grown_trans (hg _ _) g1⟩

end Go.Proofs.YtkkcnpokobndcaaDoor
