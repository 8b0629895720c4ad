import Derived.Test.YtbiiopiaglkicaaDoorPcKit
import Derived.Test.YtbiiopiaglkicaaDoorEqB
import Derived.Handy
import Derived.Deep.RegionWith
namespace Go.Proofs.YtbiiopiaglkicaaDoor
open Go.RowKit

set_option maxHeartbeats 1000000 in
set_option maxRecDepth 100000 in
theorem eqPiece_same (p : Pc) (ta tb : Value) (w : World) (ha : RdB w.heap.size w ta p.t) (hb : RdB w.heap.size w tb p.t) (hn : p.t.length ≤ 1048576) :
    Calls Tryd.prog 44 #[.agg #[.int .i64 p.k, ta, .int .i64 p.n], .agg #[.int .i64 p.k, tb, .int .i64 p.n]] w fun e w' => e = .returned (.bool true) ∧ w.grownBy w' none := by
  obtain ⟨a1, cap1, hva, _⟩ := id ha
  obtain ⟨a2, cap2, hvb, _⟩ := id hb
  have hg : ∀ o1 o2 : Obj, w.grownBy ((w.alloc o1).alloc o2) none := fun _ _ => grown_trans (World.grownBy_alloc _ _ _) (World.grownBy_alloc _ _ _)
  have hkk : (p.k != p.k) = false := by simp
  have hnn : (p.n != p.n) = false := by simp
  subst hva hvb
  go_enter Tryd.func44, Tryd.ntmps44
  go_wp2_with fail
  refine (eqByteS_any _ _ p.t p.t _ (ha.keep (hg _ _)).now (hb.keep (hg _ _)).now (by omega)).mono ?_
  rintro e w1 ⟨rfl, m, rfl⟩
  simp only [decide_true]
  go_wp2
  go_ret
  exact ⟨rfl, grown_drewN (hg _ _) m⟩

set_option maxHeartbeats 2000000 in
set_option maxRecDepth 100000 in
theorem eqPieceS_same (va vb : Value) (doc : List Pc) (w : World) (ha : RdP w.heap.size w va doc) (hb : RdP w.heap.size w vb doc) (hn : doc.length ≤ 1048576) (ht : ∀ p ∈ doc, p.t.length ≤ 1048576) :
    Calls Tryd.prog 15 #[va, vb] w fun e w' => e = .returned (.bool true) ∧ w.grownBy w' none := by
  obtain ⟨a1, cap1, hva, _⟩ := id ha
  obtain ⟨a2, cap2, hvb, _⟩ := id hb
  have hll : ((doc.length : Int) != (doc.length : Int)) = false := by simp
  subst hva hvb
  go_enter Tryd.func15, Tryd.ntmps15
  go_wp2
  go_loopw [5] (fun i wr => ∃ k : Nat, k ≤ doc.length ∧ i = .int .i64 k ∧ w.grownBy wr none) (fun i _ => doc.length - (intOf i).toNat)
  case atStart => exact ⟨0, Nat.zero_le _, rfl, World.grownBy.refl _ _⟩
  case round =>
    obtain ⟨k, hk, rfl, hgr⟩ := hrel
    by_cases hlt : k < doc.length
    · obtain ⟨b1, off1, cap1', tv1, hva1, hb1, hp1⟩ := (ha.keep hgr).at k hlt
      obtain ⟨b2, off2, cap2', tv2, hva2, hb2, hp2⟩ := (hb.keep hgr).at k hlt
      cases hva1
      cases hva2
      have k1 := hp1.k; have t1 := hp1.t; have n1 := hp1.n
      have k2 := hp2.k; have t2 := hp2.t; have n2 := hp2.n
      have rd1 := hp1.rd; have rd2 := hp2.rd
      obtain ⟨ta1, tcap1, htv1, _, _⟩ := hp1.sl
      obtain ⟨ta2, tcap2, htv2, _, _⟩ := hp2.sl
      have hpt := ht _ (List.getElem_mem hlt)
      have hgs := hgr.size
      clear ha hb hp1 hp2 ht
      subst htv1 htv2
      generalize doc[k] = p at k1 t1 n1 k2 t2 n2 rd1 rd2 hpt
      have H : Hid (∀ w' : World, wr.grownBy w' none → Calls Tryd.prog 44 #[.agg #[.int .i64 p.k, .slice ta1 p.t.length tcap1, .int .i64 p.n], .agg #[.int .i64 p.k, .slice ta2 p.t.length tcap2, .int .i64 p.n]] w' fun e w'' => e = .returned (.bool true) ∧ w'.grownBy w'' none) := by
        intro w' hg'
        exact eqPiece_same p _ _ w' (rd1.wide hgs |>.keep hg').now (rd2.wide hgs |>.keep hg').now hpt
      have HG : Hid (w.grownBy wr none) := hgr
      clear rd1 rd2 hgr
      go_wp2
      have HD : Hid (wr.grownBy wr.drew none) := ⟨rfl, rfl, rfl, Nat.le_refl _, fun _ _ _ => rfl⟩
      go_region_with (go_at_call 44; refine (H.out wr.drew HD.out).mono ?_; rintro e w1 ⟨rfl, g1⟩)
      all_goals
        go_wp2
        go_roundw
        case rel => exact ⟨k + 1, by omega, by go_num, grown_trans (grown_trans HG.out HD.out) g1⟩
        case measure => simp [intOf]; omega
    · go_wp2
      go_ret
      exact ⟨rfl, hgr⟩

end Go.Proofs.YtbiiopiaglkicaaDoor
