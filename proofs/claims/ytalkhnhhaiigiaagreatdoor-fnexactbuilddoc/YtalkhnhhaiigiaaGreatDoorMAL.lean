import Derived.RangeFuncNested
import Derived.RangeFuncBound
import Derived.RangeFuncCalls
import Derived.RangeFuncLeaves
import Derived.RangeFuncBox
import Derived.Shelf.Abstract
import Derived.Shelf.RegionOpen
import Derived.WalkKit
import Derived.OwnWalkIn
import Derived.TacticsInMore
import Derived.LoopNIn
import Derived.LoopIn
import Derived.Maps.AppendAt
import Derived.Handy
import Derived.Shelf.Bytes.SlIndexSmall
import Derived.Shelf.Bytes.SlIndexWhole
import Derived.Test.YtalkhnhhaiigiaaGreatDoorMAA
import Derived.Test.YtalkhnhhaiigiaaGreatDoorMAC
import Derived.Test.YtalkhnhhaiigiaaGreatDoorMAD
import Derived.Test.YtalkhnhhaiigiaaGreatDoorMAI
namespace Go.Proofs.YtalkhnhhaiigiaaGreatDoor
open Go.RowKit

set_option maxHeartbeats 400000 in
theorem isUnit_any (p : Int) (w : World) : Calls Tryz.prog 119 #[.int .i64 p] w fun e w' => e = .returned (.bool (isUn p)) ∧ w = w' := by
  by_cases h0 : 0 ≤ p
  · by_cases h1 : p < 65536
    · have HI : Hid (isUn p = true) := by simp [Hid, isUn, h0, h1]
      go_enter Tryz.func119, Tryz.ntmps119
      go_wp2
      go_ret
      exact ⟨by rw [HI.out]; rfl, rfl⟩
    · have HI : Hid (isUn p = false) := by simp [Hid, isUn]; omega
      go_enter Tryz.func119, Tryz.ntmps119
      go_wp2
      go_ret
      exact ⟨by rw [HI.out]; rfl, rfl⟩
  · have HI : Hid (isUn p = false) := by simp [Hid, isUn]; omega
    go_enter Tryz.func119, Tryz.ntmps119
    go_wp2
    go_ret
    exact ⟨by rw [HI.out]; rfl, rfl⟩

end Go.Proofs.YtalkhnhhaiigiaaGreatDoor

namespace Go.Proofs.YtalkhnhhaiigiaaGreatDoor
open Go.RowKit Go.Shelf
attribute [local go_sem] Oper.semAt_some

/-- What a round that goes on keeps: whatever lay below n₀, and the block Bx. -/
def KpB (n₀ Bx : Nat) (W W' : World) : Prop := Below n₀ W W' ∧ W'.heap[Bx]? = W.heap[Bx]?
theorem kpB_t {n₀ Bx : Nat} {A B C : World} (h : KpB n₀ Bx A B) (k : KpB n₀ Bx B C) : KpB n₀ Bx A C := ⟨h.1.trans k.1, k.2.trans h.2⟩
theorem kpB_b {n₀ Bx : Nat} {w : World} (hn : n₀ ≤ w.heap.size) (hx : Bx < w.heap.size) (W : World) (l : Nat) (o o' : Obj) (hl : w.heap.size ≤ l) (h : W.heap[l]? = some o) (h1 : o.isCells = false) (h2 : o.isWalk = false) : KpB n₀ Bx W (W.putObj l o') :=
  ⟨belowK_b hn W l o o' hl h h1 h2, World.putObj_heap_other (by omega)⟩

set_option maxRecDepth 100000 in
set_option maxHeartbeats 2000000 in
theorem pointsOf1_in (n : Nat) (hn : 1 ≤ n) (l Bx n₀ : Nat) (v : Value) (zs : List Int) (hby : Bys zs) (hm : zs.length ≤ 4194304) (hs : Sl v zs.length) (J Jx : List (Int × Int) → World → Prop) (W : World)
    (hJ : AbidesFrom W.heap.size J)
    (hY : ∀ pre x W, J pre W → pre.length < zs.length → YieldAt Fence.wide (n - 1) Tryz.prog l #[.int .i64 x.1, .int .i32 x.2] W fun e W' =>
      (e = .returned (.bool true) ∧ J (pre ++ [x]) W' ∧ KpB n₀ Bx W W') ∨ (e = .returned (.bool false) ∧ Jx (pre ++ [x]) W'))
    (hBx : Boxed W Bx 57 v) (hn₀ : n₀ ≤ W.heap.size) (hv : RdB n₀ W v zs) (hT : Tab W) (hp : 0 < n₀) (h0 : J [] W) :
    CallsIn Fence.wide n Tryz.prog 122 #[.func (.yield l) #[] #[], .pointer (some ⟨Bx, 0, none⟩)] W fun e W' => (∃ v, e = .returned v) ∧
      ((∃ ys, ys = seqR zs ∧ J ys W') ∨ (∃ pre, pre <+: seqR zs ∧ Jx pre W')) := by
  obtain ⟨a, cap, rfl, hlc, hcm⟩ := hs
  unfold maxLen at hcm
  have hnot : ∀ (x : Bool) (w : World), (Op.unary .not (.bool x)).run Tryz.prog w = .ok (.bool (!x)) w := fun _ _ => rfl
  refine callsIn_of_wp Tryz.func122 rfl trivial ?_ rfl
  simp only [Tryz.ntmps122, List.size_toArray, List.length_cons, List.length_nil, Nat.reduceAdd, Nat.reduceSub, Array.replicate_succ, Array.replicate_zero, List.push_toArray, List.append_toArray, List.nil_append, List.cons_append]
  gi_wp2
  gi_loopw [3] (fun i wr => ∃ (k : Nat) (pre : List (Int × Int)), i = .int .i64 k ∧ MidS zs pre k ∧ J pre wr ∧ Boxed wr Bx 57 (.slice a zs.length cap) ∧ n₀ ≤ wr.heap.size ∧ RdB n₀ wr (.slice a zs.length cap) zs ∧ Tab wr)
    (fun i _ => zs.length - (intOf i).toNat)
  case atStart => exact ⟨0, [], rfl, MidS.start zs, h0, hBx, hn₀, hv, hT⟩
  case round =>
    obtain ⟨k, pre, rfl, hmid, hJs, hbx, hsz, hrd, htab⟩ := hrel
    have hc := hbx.cell
    have hkl := hmid.1
    have HM : Hid (MidS zs pre k) := hmid
    clear hmid
    by_cases hlt : k < zs.length
    · obtain ⟨a', cap', hve, hrr⟩ := hrd
      obtain ⟨b, off, ha', hbn, hcl⟩ := hrr (fun h => by simp [h] at hlt)
      have hae : a = some ⟨b, off, none⟩ := by simp at hve; rw [hve.1]; exact ha'
      subst hae
      obtain ⟨s, hs⟩ : ∃ s, s = zs.drop k := ⟨_, rfl⟩
      have hsl : s.length = zs.length - k := by rw [hs, List.length_drop]
      have hrs : RdB wr.heap.size wr (.slice (some ⟨b, off + k, none⟩) (zs.length - k) (cap - k)) s := by
        refine ⟨some ⟨b, off + k, none⟩, cap - k, by rw [hsl], fun _ => ⟨b, off + k, rfl, by omega, fun j hj => ?_⟩⟩
        rw [Nat.add_assoc, hcl (k + j) (by omega), hs, drop_at]
      have hbs : Bys s := fun z hz => hby z (by rw [hs] at hz; exact List.mem_of_mem_drop hz)
      have HR : Hid (RdB n₀ wr (.slice (some ⟨b, off, none⟩) zs.length cap) zs) := ⟨_, cap, rfl, fun _ => ⟨b, off, rfl, hbn, hcl⟩⟩
      have HS : Hid (s = zs.drop k) := hs
      have hck : ¬ cap = k := by omega
      have hfp := firstPoint_any _ s wr htab hrs hbs (by omega) (by omega)
      have HFP := hfp
      clear hve hrr ha' hcl hs hrs hbs hfp
      gi_wp2_with fail
      refine ⟨trivial, (callsIn_wide.2 HFP).mono ?_⟩
      rintro e W1 ⟨rfl, hb1⟩
      have g1 := grown_of_below hb1
      have hJ1 := hJ pre wr W1 none hJs g1 (fun r e => by cases e)
      have hbx1 := hbx.kept g1 (by simp)
      have HR1 : Hid (RdB n₀ W1 (.slice (some ⟨b, off, none⟩) zs.length cap) zs) := HR.out.below (hb1.mono hsz)
      have HT1 : Hid (Tab W1) := htab.keep g1
      have hsz1 : n₀ ≤ W1.heap.size := Nat.le_trans hsz g1.size
      have hpl := HM.out.2.1
      have hYt := hY pre ((k : Int), fpP s) W1 hJ1 (by omega)
      have HJ := hJ
      have HY := hY
      clear hJs hbx htab HFP hc hb1 g1 hJ1 HR hsz
      by_cases hf : fsize s = 0
      · have HB : Hid (pre ++ [((k : Int), fpP s)] = seqR zs) := by
          have h := HM.out.bad hlt (by rw [← HS.out]; exact hf)
          rw [← HS.out] at h
          exact h
        have hfe : (fpP s == -1) = true := by rw [fp_none hf]; rfl
        obtain ⟨fn, tmps, assign, body, hy, hR⟩ := hYt
        dsimp only at hy
        clear hf
        generalize fpP s = p at hy HB hfe hR
        gi_wp2
        refine hR.mono ?_
        rintro e W3 (⟨rfl, hJ3, hk3⟩ | ⟨rfl, hJx3⟩)
        · gi_wp2
          refine bodyPost_ret (results_none rfl _ _ _) rfl ?_
          exact ⟨⟨_, rfl⟩, .inl ⟨_, HB.out, hJ3⟩⟩
        · gi_wp2
          refine bodyPost_ret (results_none rfl _ _ _) rfl ?_
          exact ⟨⟨_, rfl⟩, .inr ⟨_, by rw [HB.out]; exact List.prefix_refl _, hJx3⟩⟩
      · have HB : Hid (MidS zs (pre ++ [((k : Int), fpP s)]) (k + fsize s)) := by
          have h := HM.out.step hlt (by rw [← HS.out]; exact hf)
          rw [← HS.out] at h
          exact h
        have hfe : (fpP s == -1) = false := by have := fp_pos hf; simp; omega
        have hkf := HB.out.1
        obtain ⟨fn, tmps, assign, body, hy, hR⟩ := hYt
        dsimp only at hy
        generalize fpP s = p at hy HB hfe hR
        generalize fsize s = m at HB hkf hf
        gi_wp2
        refine hR.mono ?_
        rintro e W3 (⟨rfl, hJ3, hk3⟩ | ⟨rfl, hJx3⟩)
        · gi_wp2
          go_roundw
          case rel => exact ⟨k + m, _, by go_num, HB.out, hJ3, hk3.2.trans hbx1, Nat.le_trans hsz1 hk3.1.size, HR1.out.below hk3.1, HT1.out.below hk3.1 hp⟩
          case measure => simp [intOf]; omega
        · gi_wp2
          refine bodyPost_ret (results_none rfl _ _ _) rfl ?_
          exact ⟨⟨_, rfl⟩, .inr ⟨_, HB.out.prefix, hJx3⟩⟩
    · gi_wp2
      go_end0
      exact ⟨⟨_, rfl⟩, .inl ⟨pre, HM.out.done hlt, hJs⟩⟩

set_option maxHeartbeats 400000 in
theorem pointsOf_in (n : Nat) (a : Option Addr) (len cap : Nat) (w : World) :
    CallsIn Fence.wide n Tryz.prog 103 #[.slice a len cap] w fun e w' => e = .returned (.func (.func 122) #[] #[.pointer (some ⟨w.heap.size, 0, none⟩)]) ∧ w.alloc (.cells #[.slice a len cap] 57) = w' := by
  refine callsIn_of_wp Tryz.func103 rfl trivial ?_ rfl
  simp only [Tryz.ntmps103, List.size_toArray, List.length_cons, List.length_nil, Nat.reduceAdd, Nat.reduceSub, Array.replicate_succ, Array.replicate_zero, List.push_toArray, List.append_toArray, List.nil_append, List.cons_append]
  gi_wp2
  go_ret
  exact ⟨rfl, rfl⟩

theorem pointsOf_stops (n : Nat) (hn : 1 ≤ n) (Bx n₀ : Nat) (v : Value) (zs : List Int) (w : World) (hby : Bys zs) (hm : zs.length ≤ 4194304) (hs : Sl v zs.length) (hBx : Boxed w Bx 57 v) (hn₀ : n₀ ≤ w.heap.size)
    (hv : RdB n₀ w v zs) (hT : Tab w) (hp : 0 < n₀) :
    SeqStopsK Fence.wide n Tryz.prog 122 #[.pointer (some ⟨Bx, 0, none⟩)] (fun x : Int × Int => #[Value.int .i64 x.1, Value.int .i32 x.2]) (KpB n₀ Bx) (fun ys => ys = seqR zs) (fun pre => pre <+: seqR zs) zs.length w := fun l J Jx W hW hJ _ hY h0 =>
  pointsOf1_in n hn l Bx n₀ v zs hby hm hs J Jx W hJ hY (hBx.kept (grown_of_below hW) (by simp)) (Nat.le_trans hn₀ hW.size) (hv.below (hW.mono hn₀)) (hT.below hW hT.pos) hp h0

end Go.Proofs.YtalkhnhhaiigiaaGreatDoor

namespace Go.Proofs.YtalkhnhhaiigiaaGreatDoor
open Go.RowKit

/-- The checker in memory: the nodes that are still to be read, how many comments and how many elements there may still be. -/
structure Ck (w : World) (h : Nat) (v : Value) (c r : Int) : Prop where
  n : w.cell? ⟨h, 0, none⟩ = some v
  c : w.cell? ⟨h, 1, none⟩ = some (.int .i64 c)
  r : w.cell? ⟨h, 2, none⟩ = some (.int .i64 r)
  fn : w.frozen? ⟨h, 0, none⟩ = false
  fc : w.frozen? ⟨h, 1, none⟩ = false
  fr : w.frozen? ⟨h, 2, none⟩ = false

theorem grown_bothK {W w1 : World} {a : Addr} {v : Value} (hg : W.grownBy w1 none) (h : W.cell? a = some v) (hf : W.frozen? a = false) : w1.cell? a = some v ∧ w1.frozen? a = false :=
  ⟨hg.cell h (by simp), (World.frozen?_of_block (hg.block a.block (World.block_lt_of_cell? W a h) (by simp))).trans hf⟩
theorem grown_setK (w : World) (a : Addr) (u : Value) : w.grownBy (w.setCell a u) (some a.block) :=
  ⟨rfl, rfl, rfl, by simp, fun i _ hn => Below.heap_setCell _ _ _ _ (fun e => hn (by rw [e]))⟩
theorem grown_rowK {a b : World} (h : a.grownBy b none) (r : Option Nat) : a.grownBy b r := ⟨h.os, h.tape, h.output, h.size, fun k hk _ => h.block k hk (by simp)⟩
theorem grown_transK {a b c : World} {r : Option Nat} (h : a.grownBy b r) (k : b.grownBy c r) : a.grownBy c r :=
  ⟨k.os.trans h.os, k.tape.trans h.tape, k.output.trans h.output, Nat.le_trans h.size k.size, fun i hi hn => (k.block i (Nat.lt_of_lt_of_le hi h.size) hn).trans (h.block i hi hn)⟩
theorem Ck.lt {w : World} {h : Nat} {v : Value} {c r : Int} (k : Ck w h v c r) : h < w.heap.size := World.block_lt_of_cell? w _ k.n
theorem Ck.keep {w w' : World} {h : Nat} {v : Value} {c r : Int} (k : Ck w h v c r) (g : w.grownBy w' none) : Ck w' h v c r :=
  ⟨(grown_bothK g k.n k.fn).1, (grown_bothK g k.c k.fc).1, (grown_bothK g k.r k.fr).1, (grown_bothK g k.n k.fn).2, (grown_bothK g k.c k.fc).2, (grown_bothK g k.r k.fr).2⟩
theorem Ck.setR {w : World} {h : Nat} {v : Value} {c r : Int} (k : Ck w h v c r) (r' : Int) : Ck (w.setCell ⟨h, 2, none⟩ (.int .i64 r')) h v c r' := by
  have a1 := k.n; have a2 := k.c; have a3 := k.r; have b1 := k.fn; have b2 := k.fc; have b3 := k.fr
  exact ⟨by simp [go_sem, a1], by simp [go_sem, a2], by simp [go_sem, a3], by simp [go_sem, b1], by simp [go_sem, b2], by simp [go_sem, b3]⟩
theorem Ck.setC {w : World} {h : Nat} {v : Value} {c r : Int} (k : Ck w h v c r) (c' : Int) : Ck (w.setCell ⟨h, 1, none⟩ (.int .i64 c')) h v c' r := by
  have a1 := k.n; have a2 := k.c; have a3 := k.r; have b1 := k.fn; have b2 := k.fc; have b3 := k.fr
  exact ⟨by simp [go_sem, a1], by simp [go_sem, a2], by simp [go_sem, a3], by simp [go_sem, b1], by simp [go_sem, b2], by simp [go_sem, b3]⟩
theorem Ck.setN {w : World} {h : Nat} {v : Value} {c r : Int} (k : Ck w h v c r) (v' : Value) : Ck (w.setCell ⟨h, 0, none⟩ v') h v' c r := by
  have a1 := k.n; have a2 := k.c; have a3 := k.r; have b1 := k.fn; have b2 := k.fc; have b3 := k.fr
  exact ⟨by simp [go_sem, a1], by simp [go_sem, a2], by simp [go_sem, a3], by simp [go_sem, b1], by simp [go_sem, b2], by simp [go_sem, b3]⟩

/-- What a method of the checker keeps. -/
abbrev CkEnds (w : World) (h : Nat) (v : Value) (c r : Int) (w' : World) : Prop := Ck w' h v c r ∧ w.grownBy w' (some h)

set_option maxHeartbeats 2000000 in
set_option maxRecDepth 100000 in
theorem takeText_any (h : Nat) (v : Value) (a : Option Addr) (n cap : Nat) (c r : Int) (w : World) (hk : Ck w h v c r) (hn : n ≤ 1048576) (hr : -1048576000 ≤ r ∧ r ≤ 1048576) :
    Calls Tryz.prog 78 #[.pointer (some ⟨h, 0, none⟩), .slice a n cap] w fun e w' => e = .returned (.bool (decide ((n : Int) ≤ r))) ∧ CkEnds w h v c (r - n) w' := by
  have a3 := hk.r; have b3 := hk.fr
  have HE : Hid (CkEnds w h v c (r - n) (w.setCell ⟨h, 2, none⟩ (.int .i64 (r - n)))) := ⟨hk.setR _, grown_setK w ⟨h, 2, none⟩ _⟩
  clear hk
  go_enter Tryz.func78, Tryz.ntmps78
  go_wp2
  go_ret
  exact ⟨rfl, HE.out⟩

theorem all_takeI {α : Type} (f : α → Bool) (cs : List α) (k : Nat) (hk : k < cs.length) (h : (cs.take k).all f = true) (h2 : f cs[k] = true) : (cs.take (k + 1)).all f = true := by
  rw [List.take_add_one, List.getElem?_eq_getElem hk, List.all_append, h]
  simp [h2]
theorem all_badI {α : Type} (f : α → Bool) (cs : List α) (k : Nat) (hk : k < cs.length) (h2 : f cs[k] = false) : cs.all f = false := by
  rw [List.all_eq_false]
  exact ⟨cs[k], List.getElem_mem hk, by rw [h2]; simp⟩

set_option maxHeartbeats 4000000 in
set_option maxRecDepth 100000 in
theorem takeUnits_any (h : Nat) (v uv : Value) (zs : List Int) (c r : Int) (w : World) (hk : Ck w h v c r) (B : Nat) (hv : RdI B w uv zs) (hB : B ≤ h) (hn : zs.length ≤ 1048576) (hr : 0 ≤ r ∧ r ≤ 1048576) :
    Calls Tryz.prog 101 #[.pointer (some ⟨h, 0, none⟩), uv] w fun e w' => e = .returned (.bool (decide ((zs.length : Int) ≤ r) && zs.all isUn)) ∧ CkEnds w h v c (r - zs.length) w' := by
  obtain ⟨a, cap, hv0, hrr⟩ := id hv
  have a3 := hk.r; have b3 := hk.fr
  have HE : Hid (CkEnds w h v c (r - zs.length) (w.setCell ⟨h, 2, none⟩ (.int .i64 (r - zs.length)))) := ⟨hk.setR _, grown_setK w ⟨h, 2, none⟩ _⟩
  have HV : Hid (RdI B (w.setCell ⟨h, 2, none⟩ (.int .i64 (r - zs.length))) uv zs) := hv.beside (grown_setK w ⟨h, 2, none⟩ _) (fun k e => by cases e; exact hB)
  subst hv0
  clear hk hv hrr
  by_cases hc : (zs.length : Int) ≤ r
  · have hc2 : ¬ r - (zs.length : Int) < 0 := by omega
    rw [decide_eq_true hc, Bool.true_and]
    go_enter Tryz.func101, Tryz.ntmps101
    go_wp2
    obtain ⟨W1, hW1⟩ : ∃ W1, W1 = w.setCell ⟨h, 2, none⟩ (.int .i64 (r - zs.length)) := ⟨_, rfl⟩
    rw [← hW1] at HE HV ⊢
    have HW := hide hW1
    clear hW1 a3 b3
    go_loopw [23] (fun i wr => ∃ k : Nat, k ≤ zs.length ∧ i = .int .i64 k ∧ Hid ((zs.take k).all isUn = true) ∧ W1.grownBy wr none) (fun i _ => zs.length - (intOf i).toNat)
    case atStart => exact ⟨0, Nat.zero_le _, rfl, by simp [Hid], World.grownBy.refl _ _⟩
    case round =>
      obtain ⟨k, hk, rfl, HA, hgr⟩ := hrel
      have HE2 : Hid (CkEnds w h v c (r - zs.length) wr) := ⟨HE.out.1.keep hgr, grown_transK HE.out.2 (grown_rowK hgr _)⟩
      have HG := hide hgr
      by_cases hlt : k < zs.length
      · obtain ⟨a', cap', hva, hrr⟩ := HV.out.keep hgr
        obtain ⟨b, off, ha', hbl, hcl⟩ := hrr (fun e => by rw [e] at hlt; simp at hlt)
        have hb1 : a = some ⟨b, off, none⟩ := by simp only [Value.slice.injEq] at hva; rw [hva.1]; exact ha'
        subst hb1
        have hck := hcl k hlt
        have hkl : (k : Int) < zs.length := by omega
        have hgk : zs[k]?.getD 0 = zs[k] := by simp [hlt]
        rw [hgk] at hck
        have HU := hide (fun w => isUnit_any zs[k] w)
        clear hgr hva hrr hcl
        cases hu : isUn zs[k] with
        | true =>
          have HN := hide (all_takeI isUn zs k hlt HA.out hu)
          rw [hu] at HU
          clear hu hgk
          generalize zs[k] = p at *
          go_wp2_with fail
          refine (HU.out _).mono ?_
          rintro e w2 ⟨rfl, rfl⟩
          go_wp2
          go_roundw
          case rel => exact ⟨k + 1, by omega, by go_num, HN, HG.out⟩
          case measure => simp [intOf]; omega
        | false =>
          have HF := hide (all_badI isUn zs k hlt hu)
          rw [hu] at HU
          clear hu hgk
          generalize zs[k] = p at *
          go_wp2_with fail
          refine (HU.out _).mono ?_
          rintro e w2 ⟨rfl, rfl⟩
          go_wp2
          go_ret
          exact ⟨by rw [HF.out]; rfl, HE2.out⟩
      · have HF : Hid (zs.all isUn = true) := by
          have := HA.out
          rw [show k = zs.length by omega, List.take_length] at this
          exact this
        clear hgr
        go_wp2
        go_ret
        exact ⟨by rw [HF.out]; rfl, HE2.out⟩
  · have hc2 : r - (zs.length : Int) < 0 := by omega
    rw [decide_eq_false hc, Bool.false_and]
    go_enter Tryz.func101, Tryz.ntmps101
    go_wp2
    go_ret
    exact ⟨rfl, HE.out⟩

end Go.Proofs.YtalkhnhhaiigiaaGreatDoor

namespace Go.Proofs.YtalkhnhhaiigiaaGreatDoor
open Go.RowKit Go.Shelf

def conRen : Go.Shelf.Ren := ⟨fun | 186 => 105 | 185 => 124 | 187 => 137 | 115 => 138 | 253 => 139 | 224 => 140 | 254 => 141 | 255 => 155 | 291 => 156 | n => n, fun | 37 => 57 | 4 => 4 | 3 => 3 | 0 => 0 | 5 => 5 | 46 => 158 | 9 => 9 | 146 => 165 | 51 => 164 | n => n, fun | 1 => 1 | n => n⟩
theorem conLays : Go.Proofs.Lays.n186 Tryz.prog conRen := {
  mixed := by kernel_rfl
  f115 := Tryz.func138.trans (congrArg some (by kernel_rfl))
  f185 := Tryz.func124.trans (congrArg some (by kernel_rfl))
  f186 := Tryz.func105.trans (congrArg some (by kernel_rfl))
  f187 := Tryz.func137.trans (congrArg some (by kernel_rfl))
  f224 := Tryz.func140.trans (congrArg some (by kernel_rfl))
  f253 := Tryz.func139.trans (congrArg some (by kernel_rfl))
  f254 := Tryz.func141.trans (congrArg some (by kernel_rfl))
  f255 := Tryz.func155.trans (congrArg some (by kernel_rfl))
  f291 := Tryz.func156.trans (congrArg some (by kernel_rfl))
  t0 := Tryz.underlying0
  a0 := Tryz.isAgg0
  z0 := Tryz.sizeOf0
  v0 := Tryz.zeroValue0
  t3 := Tryz.underlying3
  a3 := Tryz.isAgg3
  z3 := Tryz.sizeOf3
  v3 := Tryz.zeroValue3
  t4 := Tryz.underlying4
  a4 := Tryz.isAgg4
  z4 := Tryz.sizeOf4
  v4 := Tryz.zeroValue4
  t5 := Tryz.underlying5
  a5 := Tryz.isAgg5
  z5 := Tryz.sizeOf5
  v5 := Tryz.zeroValue5
  t9 := Tryz.underlying9
  a9 := Tryz.isAgg9
  z9 := Tryz.sizeOf9
  v9 := Tryz.zeroValue9
  t37 := Tryz.underlying57
  a37 := Tryz.isAgg57
  z37 := Tryz.sizeOf57
  v37 := Tryz.zeroValue57
  t46 := Tryz.underlying158
  a46 := Tryz.isAgg158
  z46 := Tryz.sizeOf158
  v46 := Tryz.zeroValue158
  t51 := Tryz.underlying164
  a51 := Tryz.isAgg164
  z51 := Tryz.sizeOf164
  v51 := Tryz.zeroValue164
  t146 := Tryz.underlying165
  a146 := Tryz.isAgg165
  z146 := Tryz.sizeOf165
  v146 := Tryz.zeroValue165
  g1 := by kernel_rfl }

/-- Two bytes, '*' and '/', one behind the other. -/
def hasSE : List Int → Bool
  | a :: b :: l => (decide (a = 42) && decide (b = 47)) || hasSE (b :: l)
  | _ => false

theorem u8_of {z : Int} (hz : 0 ≤ z ∧ z ≤ 255) (k : Nat) (hk : k ≤ 255) : (UInt8.ofNat k == z.toNat.toUInt8) = decide (z = k) := by
  rw [Bool.eq_iff_iff]
  simp only [beq_iff_eq, decide_eq_true_eq]
  constructor
  · intro h
    have := congrArg UInt8.toNat h
    simp only [UInt8.toNat_ofNat', Nat.toUInt8] at this
    omega
  · intro h
    subst h
    rfl
theorem index_se : ∀ (zs : List Int), Bys zs → (0 ≤ Lib.index (Lib.bytesOf zs) [42, 47] ↔ hasSE zs = true)
  | [], _ => by decide
  | [z], _ => by
    have : Lib.index (Lib.bytesOf [z]) [42, 47] = -1 := by
      simp [Lib.bytesOf, Lib.index, List.isPrefixOf]
    rw [this]
    simp [hasSE]
  | a :: b :: l, h => by
    have ih := index_se (b :: l) (fun z hz => h z (by simp [hz]))
    have ha := u8_of (h a (by simp)) 42 (by omega)
    have hb := u8_of (h b (by simp)) 47 (by omega)
    have hge := Lib.index_ge (Lib.bytesOf (b :: l)) [42, 47]
    have e1 : Lib.bytesOf (a :: b :: l) = a.toNat.toUInt8 :: Lib.bytesOf (b :: l) := rfl
    have e2 : ([42, 47] : List UInt8).isPrefixOf (a.toNat.toUInt8 :: Lib.bytesOf (b :: l)) = (decide (a = 42) && decide (b = 47)) := by
      show ((UInt8.ofNat 42 == a.toNat.toUInt8) && ((UInt8.ofNat 47 == b.toNat.toUInt8) && true)) = _
      rw [ha, hb, Bool.and_true]
      rfl
    rw [e1]
    unfold Lib.index hasSE
    rw [e2]
    cases hd : (decide (a = 42) && decide (b = 47)) with
    | true => simp
    | false =>
      rw [Bool.false_or, ← ih]
      by_cases hn : Lib.index (Lib.bytesOf (b :: l)) [42, 47] = -1
      · simp [hn]
      · have hb2 : (Lib.index (Lib.bytesOf (b :: l)) [42, 47] == -1) = false := by simpa using hn
        simp only [Bool.false_eq_true, if_false, hb2]
        omega
theorem contains_se (zs : List Int) (h : Bys zs) : Lib.contains (Lib.bytesOf zs) (Lib.bytesOf [42, 47]) = hasSE zs := by
  have := index_se zs h
  unfold Lib.contains
  show decide (0 ≤ Lib.index (Lib.bytesOf zs) [42, 47]) = _
  rw [Bool.eq_iff_iff, decide_eq_true_eq]
  exact this

/-- bytes.Contains at a text and the two bytes in a block of their own. -/
theorem contains_any (v : Value) (zs : List Int) (b2 : Nat) (m : Int) (w : World) (hv : RdB w.heap.size w v zs) (hs : Sl v zs.length) (hby : Bys zs) (hn : zs.length ≤ 1048576)
    (h0 : w.cell? ⟨b2, 0, none⟩ = some (.int .u8 42)) (h1 : w.cell? ⟨b2, 1, none⟩ = some (.int .u8 47)) (hm : w.cell? ⟨1, 0, none⟩ = some (.int .i64 m)) (c2 : Nat) :
    Calls Tryz.prog 105 #[v, .slice (some ⟨b2, 0, none⟩) 2 c2] w fun e w' => e = .returned (.bool (hasSE zs)) ∧ ∃ q, w' = w.drewN q := by
  obtain ⟨a, cap, rfl, hrr⟩ := id hv
  obtain ⟨a', cap', e, hcap, hmx⟩ := hs
  simp only [Value.slice.injEq] at e
  obtain ⟨rfl, _, rfl⟩ := e
  by_cases hl : zs.length < 2
  · refine (Any.bytes_Contains_longer conLays a (some ⟨b2, 0, none⟩) zs.length cap 2 c2 w (by omega) hl (by omega)).mono ?_
    rintro e w' ⟨rfl, rfl⟩
    refine ⟨?_, 0, rfl⟩
    have : hasSE zs = false := by
      match zs, hl with
      | [], _ => rfl
      | [z], _ => rfl
    rw [this]
  · obtain ⟨b, off, rfl, hb, hc⟩ := hrr (fun e => by rw [e] at hl; simp at hl)
    rw [← contains_se zs hby]
    refine (Any.bytes_Contains_at conLays ⟨b, off, none⟩ ⟨b2, 0, none⟩ zs.length cap 2 c2 zs [42, 47] m w rfl rfl (fun x hx => by have := hby x hx; omega) (fun y hy' => ?_) (fun i hi => ?_) (fun i hi => ?_) hcap (by omega) (by omega) hm).mono fun e w' h => h
    · simp at hy'
      rcases hy' with rfl | rfl <;> omega
    · rw [Addr.add_lit, hc i hi]; simp [List.getD]
    · rw [Addr.add_lit]
      match i, hi with
      | 0, _ => simpa using h0
      | 1, _ => simpa using h1

end Go.Proofs.YtalkhnhhaiigiaaGreatDoor

