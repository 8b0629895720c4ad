import Derived.RangeFuncNested
import Derived.RangeFuncBound
import Derived.RangeFuncCalls
import Derived.RangeFuncLeaves
import Derived.RangeFuncBox
import Derived.Shelf.Abstract
import Derived.Shelf.RegionOpen
import Derived.WalkKit
import Derived.OwnWalkIn
import Derived.TacticsInMore
import Derived.LoopNIn
import Derived.LoopIn
import Derived.Maps.AppendAt
import Derived.Test.YthcjmmpkgljjhaaGreatDoorMAB
import Derived.Test.YthcjmmpkgljjhaaGreatDoorMAD
namespace Go.Proofs.YthcjmmpkgljjhaaGreatDoor
open Go.RowKit Go.Shelf
attribute [local go_sem] Oper.semAt_some

/-- What a round that goes on keeps: whatever lay below n₀, and the block Bx. -/
def KpB (n₀ Bx : Nat) (W W' : World) : Prop := Below n₀ W W' ∧ W'.heap[Bx]? = W.heap[Bx]?
theorem kpB_t {n₀ Bx : Nat} {A B C : World} (h : KpB n₀ Bx A B) (k : KpB n₀ Bx B C) : KpB n₀ Bx A C := ⟨h.1.trans k.1, k.2.trans h.2⟩
theorem kpB_b {n₀ Bx : Nat} {w : World} (hn : n₀ ≤ w.heap.size) (hx : Bx < w.heap.size) (W : World) (l : Nat) (o o' : Obj) (hl : w.heap.size ≤ l) (h : W.heap[l]? = some o) (h1 : o.isCells = false) (h2 : o.isWalk = false) : KpB n₀ Bx W (W.putObj l o') :=
  ⟨belowK_b hn W l o o' hl h h1 h2, World.putObj_heap_other (by omega)⟩

set_option maxRecDepth 100000 in
set_option maxHeartbeats 2000000 in
theorem pointsOf1_in (n : Nat) (hn : 1 ≤ n) (l Bx n₀ : Nat) (v : Value) (zs : List Int) (hby : Bys zs) (hm : zs.length ≤ 4194304) (hs : Sl v zs.length) (J Jx : List (Int × Int) → World → Prop) (W : World)
    (hJ : AbidesFrom W.heap.size J)
    (hY : ∀ pre x W, J pre W → pre.length < zs.length → YieldAt Fence.wide (n - 1) Tryz.prog l #[.int .i64 x.1, .int .i32 x.2] W fun e W' =>
      (e = .returned (.bool true) ∧ J (pre ++ [x]) W' ∧ KpB n₀ Bx W W') ∨ (e = .returned (.bool false) ∧ Jx (pre ++ [x]) W'))
    (hBx : Boxed W Bx 40 v) (hn₀ : n₀ ≤ W.heap.size) (hv : RdB n₀ W v zs) (hT : Tab W) (hp : 0 < n₀) (h0 : J [] W) :
    CallsIn Fence.wide n Tryz.prog 78 #[.func (.yield l) #[] #[], .pointer (some ⟨Bx, 0, none⟩)] W fun e W' => (∃ v, e = .returned v) ∧
      ((∃ ys, ys = seqR zs ∧ J ys W') ∨ (∃ pre, pre <+: seqR zs ∧ Jx pre W')) := by
  obtain ⟨a, cap, rfl, hlc, hcm⟩ := hs
  unfold maxLen at hcm
  have hnot : ∀ (x : Bool) (w : World), (Op.unary .not (.bool x)).run Tryz.prog w = .ok (.bool (!x)) w := fun _ _ => rfl
  refine callsIn_of_wp Tryz.func78 rfl trivial ?_ rfl
  simp only [Tryz.ntmps78, List.size_toArray, List.length_cons, List.length_nil, Nat.reduceAdd, Nat.reduceSub, Array.replicate_succ, Array.replicate_zero, List.push_toArray, List.append_toArray, List.nil_append, List.cons_append]
  gi_wp2
  gi_loopw [3] (fun i wr => ∃ (k : Nat) (pre : List (Int × Int)), i = .int .i64 k ∧ MidS zs pre k ∧ J pre wr ∧ Boxed wr Bx 40 (.slice a zs.length cap) ∧ n₀ ≤ wr.heap.size ∧ RdB n₀ wr (.slice a zs.length cap) zs ∧ Tab wr)
    (fun i _ => zs.length - (intOf i).toNat)
  case atStart => exact ⟨0, [], rfl, MidS.start zs, h0, hBx, hn₀, hv, hT⟩
  case round =>
    obtain ⟨k, pre, rfl, hmid, hJs, hbx, hsz, hrd, htab⟩ := hrel
    have hc := hbx.cell
    have hkl := hmid.1
    have HM : Hid (MidS zs pre k) := hmid
    clear hmid
    by_cases hlt : k < zs.length
    · obtain ⟨a', cap', hve, hrr⟩ := hrd
      obtain ⟨b, off, ha', hbn, hcl⟩ := hrr (fun h => by simp [h] at hlt)
      have hae : a = some ⟨b, off, none⟩ := by simp at hve; rw [hve.1]; exact ha'
      subst hae
      obtain ⟨s, hs⟩ : ∃ s, s = zs.drop k := ⟨_, rfl⟩
      have hsl : s.length = zs.length - k := by rw [hs, List.length_drop]
      have hrs : RdB wr.heap.size wr (.slice (some ⟨b, off + k, none⟩) (zs.length - k) (cap - k)) s := by
        refine ⟨some ⟨b, off + k, none⟩, cap - k, by rw [hsl], fun _ => ⟨b, off + k, rfl, by omega, fun j hj => ?_⟩⟩
        rw [Nat.add_assoc, hcl (k + j) (by omega), hs, drop_at]
      have hbs : Bys s := fun z hz => hby z (by rw [hs] at hz; exact List.mem_of_mem_drop hz)
      have HR : Hid (RdB n₀ wr (.slice (some ⟨b, off, none⟩) zs.length cap) zs) := ⟨_, cap, rfl, fun _ => ⟨b, off, rfl, hbn, hcl⟩⟩
      have HS : Hid (s = zs.drop k) := hs
      have hck : ¬ cap = k := by omega
      have hfp := firstPoint_any _ s wr htab hrs hbs (by omega) (by omega)
      have HFP := hfp
      clear hve hrr ha' hcl hs hrs hbs hfp
      gi_wp2_with fail
      refine ⟨trivial, (callsIn_wide.2 HFP).mono ?_⟩
      rintro e W1 ⟨rfl, hb1⟩
      have g1 := grown_of_below hb1
      have hJ1 := hJ pre wr W1 none hJs g1 (fun r e => by cases e)
      have hbx1 := hbx.kept g1 (by simp)
      have HR1 : Hid (RdB n₀ W1 (.slice (some ⟨b, off, none⟩) zs.length cap) zs) := HR.out.below (hb1.mono hsz)
      have HT1 : Hid (Tab W1) := htab.keep g1
      have hsz1 : n₀ ≤ W1.heap.size := Nat.le_trans hsz g1.size
      have hpl := HM.out.2.1
      have hYt := hY pre ((k : Int), fpP s) W1 hJ1 (by omega)
      have HJ := hJ
      have HY := hY
      clear hJs hbx htab HFP hc hb1 g1 hJ1 HR hsz
      by_cases hf : fsize s = 0
      · have HB : Hid (pre ++ [((k : Int), fpP s)] = seqR zs) := by
          have h := HM.out.bad hlt (by rw [← HS.out]; exact hf)
          rw [← HS.out] at h
          exact h
        have hfe : (fpP s == -1) = true := by rw [fp_none hf]; rfl
        obtain ⟨fn, tmps, assign, body, hy, hR⟩ := hYt
        dsimp only at hy
        clear hf
        generalize fpP s = p at hy HB hfe hR
        gi_wp2
        refine hR.mono ?_
        rintro e W3 (⟨rfl, hJ3, hk3⟩ | ⟨rfl, hJx3⟩)
        · gi_wp2
          refine bodyPost_ret (results_none rfl _ _ _) rfl ?_
          exact ⟨⟨_, rfl⟩, .inl ⟨_, HB.out, hJ3⟩⟩
        · gi_wp2
          refine bodyPost_ret (results_none rfl _ _ _) rfl ?_
          exact ⟨⟨_, rfl⟩, .inr ⟨_, by rw [HB.out]; exact List.prefix_refl _, hJx3⟩⟩
      · have HB : Hid (MidS zs (pre ++ [((k : Int), fpP s)]) (k + fsize s)) := by
          have h := HM.out.step hlt (by rw [← HS.out]; exact hf)
          rw [← HS.out] at h
          exact h
        have hfe : (fpP s == -1) = false := by have := fp_pos hf; simp; omega
        have hkf := HB.out.1
        obtain ⟨fn, tmps, assign, body, hy, hR⟩ := hYt
        dsimp only at hy
        generalize fpP s = p at hy HB hfe hR
        generalize fsize s = m at HB hkf hf
        gi_wp2
        refine hR.mono ?_
        rintro e W3 (⟨rfl, hJ3, hk3⟩ | ⟨rfl, hJx3⟩)
        · gi_wp2
          go_roundw
          case rel => exact ⟨k + m, _, by go_num, HB.out, hJ3, hk3.2.trans hbx1, Nat.le_trans hsz1 hk3.1.size, HR1.out.below hk3.1, HT1.out.below hk3.1 hp⟩
          case measure => simp [intOf]; omega
        · gi_wp2
          refine bodyPost_ret (results_none rfl _ _ _) rfl ?_
          exact ⟨⟨_, rfl⟩, .inr ⟨_, HB.out.prefix, hJx3⟩⟩
    · gi_wp2
      go_end0
      exact ⟨⟨_, rfl⟩, .inl ⟨pre, HM.out.done hlt, hJs⟩⟩

set_option maxHeartbeats 400000 in
theorem pointsOf_in (n : Nat) (a : Option Addr) (len cap : Nat) (w : World) :
    CallsIn Fence.wide n Tryz.prog 67 #[.slice a len cap] w fun e w' => e = .returned (.func (.func 78) #[] #[.pointer (some ⟨w.heap.size, 0, none⟩)]) ∧ w.alloc (.cells #[.slice a len cap] 40) = w' := by
  refine callsIn_of_wp Tryz.func67 rfl trivial ?_ rfl
  simp only [Tryz.ntmps67, List.size_toArray, List.length_cons, List.length_nil, Nat.reduceAdd, Nat.reduceSub, Array.replicate_succ, Array.replicate_zero, List.push_toArray, List.append_toArray, List.nil_append, List.cons_append]
  gi_wp2
  go_ret
  exact ⟨rfl, rfl⟩

theorem pointsOf_stops (n : Nat) (hn : 1 ≤ n) (Bx n₀ : Nat) (v : Value) (zs : List Int) (w : World) (hby : Bys zs) (hm : zs.length ≤ 4194304) (hs : Sl v zs.length) (hBx : Boxed w Bx 40 v) (hn₀ : n₀ ≤ w.heap.size)
    (hv : RdB n₀ w v zs) (hT : Tab w) (hp : 0 < n₀) :
    SeqStopsK Fence.wide n Tryz.prog 78 #[.pointer (some ⟨Bx, 0, none⟩)] (fun x : Int × Int => #[Value.int .i64 x.1, Value.int .i32 x.2]) (KpB n₀ Bx) (fun ys => ys = seqR zs) (fun pre => pre <+: seqR zs) zs.length w := fun l J Jx W hW hJ _ hY h0 =>
  pointsOf1_in n hn l Bx n₀ v zs hby hm hs J Jx W hJ hY (hBx.kept (grown_of_below hW) (by simp)) (Nat.le_trans hn₀ hW.size) (hv.below (hW.mono hn₀)) (hT.below hW hT.pos) hp h0

end Go.Proofs.YthcjmmpkgljjhaaGreatDoor

