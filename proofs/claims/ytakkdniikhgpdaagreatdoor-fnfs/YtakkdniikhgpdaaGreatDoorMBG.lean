import Derived.Maps.AppendAt
import Derived.Lib.BufferMore
import Derived.Deep.Slices
import Derived.Handy
import Derived.Deep.RegionWith
import Derived.Test.YtakkdniikhgpdaaGreatDoorMAA
import Derived.Test.YtakkdniikhgpdaaGreatDoorMAF
import Derived.Test.YtakkdniikhgpdaaGreatDoorMAG
import Derived.Test.YtakkdniikhgpdaaGreatDoorMAJ
import Derived.Test.YtakkdniikhgpdaaGreatDoorMAS
import Derived.Test.YtakkdniikhgpdaaGreatDoorMBF
namespace Go.Proofs.YtakkdniikhgpdaaGreatDoor
open Go.RowKit
attribute [-go_sem] Builtin.append_

/-- An empty row that has just been laid. -/
theorem row_newF (w : World) (e : TypeId) (size : Nat) : (w.alloc (Obj.cells #[] e)).ownsRow w.heap.size e size (.slice (some ⟨w.heap.size, 0, none⟩) 0 0) 0 [] :=
  ⟨by simp, .inr ⟨w.heap.size, 0, #[], rfl, Nat.le_refl _, by show (w.heap.push _)[w.heap.size]? = _; simp, Nat.le_refl _, by unfold maxLen; omega, by simp, by simp⟩⟩

set_option maxHeartbeats 1000000 in
set_option maxRecDepth 100000 in
theorem bytesClone_any (v : Value) (zs : List Int) (w : World) (hv : RdB w.heap.size w v zs) (hn : zs.length ≤ 4194304) :
    Calls Tryz.prog 49 #[v] w fun e w' => ∃ v', e = .returned v' ∧ OwB w.heap.size w' v' zs ∧ w.grownBy w' none := by
  obtain ⟨a, cap, hv0, hr⟩ := id hv
  cases a with
  | none =>
    have hz : zs = [] := by
      rcases zs with _ | ⟨z, zs⟩
      · rfl
      · obtain ⟨b, off, ha, _⟩ := hr (by simp); cases ha
    subst hz hv0
    clear hv hr
    have hnil : ∀ w : World, (binOp .eql 22 (.slice none 0 cap) (.slice none 0 0)).run Tryz.prog w = .ok (.bool true) w := fun w => Lib.run_eql_slice_nil_nil w _ _ Tryz.underlying22
    simp only [List.length_nil]
    go_enter Tryz.func49, Tryz.ntmps49
    go_wp2
    go_ret
    exact ⟨_, rfl, ⟨by simp, .inl ⟨rfl, rfl⟩⟩, World.grownBy.refl _ _⟩
  | some ad =>
    subst hv0
    have hnil : ∀ w : World, (binOp .eql 22 (.slice (some ad) zs.length cap) (.slice none 0 0)).run Tryz.prog w = .ok (.bool false) w := fun w => Lib.run_eql_slice_some_nil w _ _ _ Tryz.underlying22
    obtain ⟨v', w', hrun, o', g', _⟩ := append_bytesF w.heap.size w.heap.size (w.alloc (Obj.cells #[] 5)) (.slice (some ⟨w.heap.size, 0, none⟩) 0 0) (.slice (some ad) zs.length cap) [] zs (by simpa [OwB, Ow] using row_newF w 5 1) (hv.keep (World.grownBy_alloc _ _ _)) (by simp) (by simp; omega)
    simp only [List.nil_append] at o'
    have g2 : w.grownBy w' none := grown_new (World.grownBy_alloc w (Obj.cells #[] 5) none) g' (fun j e => by cases e; exact Nat.le_refl _)
    clear hv hr g'
    go_enter Tryz.func49, Tryz.ntmps49
    go_wp2
    go_ret
    exact ⟨_, rfl, o', g2⟩

/-- The cells of files that are read. -/
theorem rdF_cells {B : Nat} {w : World} {v : Value} {fs : List Fl} (h : RdF B w v fs) : ∃ (a : Option Addr) (cap : Nat) (xs : List (Value × Value)), v = .slice a fs.length cap ∧ xs.length = fs.length ∧
    (∀ ad, a = some ad → ∀ j u, (cellsF fs xs)[j]? = some u → w.cell? (ad.add j) = some u) ∧ (a = none → fs = []) ∧
    (∀ (j : Nat) (p : Fl) (x : Value × Value), fs[j]? = some p → xs[j]? = some x → RdB B w x.1 p.n ∧ Sl x.1 p.n.length ∧ RdB B w x.2 p.d ∧ Sl x.2 p.d.length) := by
  obtain ⟨a, cap, hv, h1, h2, hh⟩ := h
  by_cases h0 : fs = []
  · subst h0
    exact ⟨a, cap, [], hv, rfl, fun ad _ j u hj => by simp [cellsF] at hj, fun _ => rfl, fun j p x hp => by simp at hp⟩
  · obtain ⟨b, off, ha, hb, hc⟩ := hh h0
    have each : ∀ j, j < fs.length → ∃ x : Value × Value, ∀ p, fs[j]? = some p → FlAt B w b (off + j * 3) p x := fun j hj => by
      obtain ⟨x, hx⟩ := hc j fs[j] (by simp [hj])
      exact ⟨x, fun p hp => by simp [hj] at hp; subst hp; exact hx⟩
    haveI : Inhabited (Value × Value) := ⟨(.bool false, .bool false)⟩
    obtain ⟨q, hq⟩ := Deep.choose_lt each
    refine ⟨a, cap, (List.range fs.length).map q, hv, by simp, fun ad had j u hj => ?_, fun e => (by rw [ha] at e; cases e), fun j p x hp hx => ?_⟩
    · rw [ha] at had
      cases had
      have hjl := (List.getElem?_eq_some_iff.1 hj).1
      rw [cellsF_len _ _ (by simp)] at hjl
      obtain ⟨i, r, rfl, hr3⟩ : ∃ i r, j = i * 3 + r ∧ r < 3 := ⟨j / 3, j % 3, by omega, by omega⟩
      have hi : i < fs.length := by omega
      have hpi : fs[i]? = some fs[i] := by simp [hi]
      obtain ⟨x, hx, c0, c1, c2⟩ := cellsF_at fs ((List.range fs.length).map q) i _ (by simp) hpi
      have hxq : q i = x := by simpa [hi] using hx
      have hf := hq i hi _ hpi
      rw [hxq] at hf
      rw [Addr.add_lit, ← Nat.add_assoc]
      match r, hr3 with
      | 0, _ => rw [Nat.add_zero, c0] at hj; cases hj; exact hf.n
      | 1, _ => rw [c1] at hj; cases hj; exact hf.d
      | 2, _ => rw [c2] at hj; cases hj; exact hf.s
    · have hj := (List.getElem?_eq_some_iff.1 hp).1
      have hxq : q j = x := by simpa [hj] using hx
      have hf := hq j hj p hp
      rw [hxq] at hf
      exact ⟨hf.rn, hf.sn, hf.rd, hf.sd⟩

theorem cellsF_one : ∀ (fs : List Fl) (xs : List (Value × Value)), (∀ (j : Nat) (p : Fl) (x : Value × Value), fs[j]? = some p → xs[j]? = some x → Sl x.1 p.n.length ∧ Sl x.2 p.d.length) → ∀ u ∈ cellsF fs xs, u.oneCell' = true
  | [], _, _, u, hu => by simp [cellsF] at hu
  | _ :: _, [], _, u, hu => by simp [cellsF] at hu
  | p :: ps, x :: xs, h, u, hu => by
    have h0 := h 0 p x rfl rfl
    obtain ⟨⟨a1, c1, e1, _⟩, ⟨a2, c2, e2, _⟩⟩ := h0
    simp only [cellsF, List.mem_cons] at hu
    rcases hu with rfl | rfl | rfl | hu
    · rw [e1]; rfl
    · rw [e2]; rfl
    · rfl
    · exact cellsF_one ps xs (fun j q y hq hy => h (j + 1) q y (by simpa using hq) (by simpa using hy)) u hu


set_option maxHeartbeats 1000000 in
set_option maxRecDepth 100000 in
theorem filesClone_any (v : Value) (fs : List Fl) (w : World) (hv : RdF w.heap.size w v fs) (hn : fs.length ≤ 1048576) :
    Calls Tryz.prog 48 #[v] w fun e w' => ∃ v', e = .returned v' ∧ RoF w.heap.size w.heap.size w' v' fs ∧ w.grownBy w' none := by
  obtain ⟨a, cap, xs, hv0, hl, hcel, hnone, htx⟩ := rdF_cells hv
  cases a with
  | none =>
    obtain rfl := hnone rfl
    subst hv0
    clear hv hcel htx
    have hnil : ∀ w : World, (binOp .eql 23 (.slice none 0 cap) (.slice none 0 0)).run Tryz.prog w = .ok (.bool true) w := fun w => Lib.run_eql_slice_nil_nil w _ _ Tryz.underlying23
    simp only [List.length_nil]
    go_enter Tryz.func48, Tryz.ntmps48
    go_wp2
    go_ret
    exact ⟨_, rfl, RoF.nil _ _ _, World.grownBy.refl _ _⟩
  | some ad =>
    subst hv0
    have hnil : ∀ w : World, (binOp .eql 23 (.slice (some ad) fs.length cap) (.slice none 0 0)).run Tryz.prog w = .ok (.bool false) w := fun w => Lib.run_eql_slice_some_nil w _ _ _ Tryz.underlying23
    obtain ⟨i0, hi, hz0, hz1, hz2⟩ := info_parts infoFl
    obtain ⟨v', w', hrun, h3, h4, _, h5⟩ := run_append_own_at (P := Tryz.prog) (w.alloc (Obj.cells #[] 45)) w.heap.size 23 23 45 i0 (.agg #[.slice none 0 0, .slice none 0 0, .int .i64 0]) 3 56 Tryz.underlying23 hi hz0 hz1 hz2 rfl (by decide)
      (.slice (some ⟨w.heap.size, 0, none⟩) 0 0) 0 [] (row_newF w 45 3) ad fs.length cap (cellsF fs xs) (cellsF_len fs xs hl) (fun j u hj => (World.grownBy_alloc w (Obj.cells #[] 45) none).cell (hcel ad rfl j u hj) (by simp))
      (cellsF_one fs xs (fun j p x hp hx => ⟨(htx j p x hp hx).2.1, (htx j p x hp hx).2.2.2⟩)) (by unfold maxLen; omega) (by omega) (by simp)
    have g2 : w.grownBy w' none := grown_new (World.grownBy_alloc w (Obj.cells #[] 45) none) h4 (fun j e => by cases e; exact Nat.le_refl _)
    have hro : RoF w.heap.size w.heap.size w' v' fs := by
      refine ⟨xs, hl, by simpa using h3, fun j p x hp hx => ?_⟩
      obtain ⟨r1, r2, r3, r4⟩ := htx j p x hp hx
      exact ⟨r1.keep g2, r2, r3.keep g2, r4⟩
    clear hv hcel htx h3 h4 h5 hl
    go_enter Tryz.func48, Tryz.ntmps48
    go_wp2
    go_ret
    exact ⟨_, rfl, hro, g2⟩

end Go.Proofs.YtakkdniikhgpdaaGreatDoor

namespace Go.Proofs.YtakkdniikhgpdaaGreatDoor
open Go.RowKit

/-- Two cells of a file are set. -/
theorem cellsF_set2 : ∀ (L : List Fl) (xs : List (Value × Value)) (k : Nat) (u1 u2 : Value), xs.length = L.length → k < L.length → cellsF L (xs.set k (u1, u2)) = ((cellsF L xs).set (k * 3) u1).set (k * 3 + 1) u2
  | _ :: _, _ :: _, 0, u1, u2, _, _ => by simp [cellsF]
  | p :: L, x :: xs, k + 1, u1, u2, h, hk => by
    simp only [List.length_cons, Nat.add_right_cancel_iff] at h
    have ih := cellsF_set2 L xs k u1 u2 h (by simpa using hk)
    simp only [List.set_cons_succ, cellsF, ih]
    rw [show (k + 1) * 3 = k * 3 + 3 by omega, show k * 3 + 3 + 1 = k * 3 + 1 + 3 by omega]
    simp
  | [], _, _, _, _, _, hk => by simp at hk
  | _ :: _, [], _, _, _, h, _ => by simp at h

/-- One more file, whose texts lie behind C. -/
theorem TxF.snoc2 {B C : Nat} {w : World} {g : Option Nat} {fs : List Fl} {xs : List (Value × Value)} {p : Fl} {x : Value × Value} (h : TxF B w g fs xs) (hBC : B ≤ C) (hlow : ∀ v ∈ pairs xs, ∀ k, v.ownBlock = some k → k < C) (hgs : ∀ k, g = some k → k < C)
    (o1 : OwB C w x.1 p.n) (o2 : OwB C w x.2 p.d) (ha : Apt x.1 x.2) : TxF B w g (fs ++ [p]) (xs ++ [x]) := by
  have hl := h.len
  refine ⟨by simp [hl], fun j q u h1 h2 => ?_, ?_⟩
  · by_cases hj : j < fs.length
    · rw [List.getElem?_append_left hj] at h1
      rw [List.getElem?_append_left (by omega)] at h2
      exact h.own j q u h1 h2
    · have hj2 : j = fs.length := by
        have := (List.getElem?_eq_some_iff.1 h1).1
        simp at this; omega
      subst hj2
      simp at h1
      rw [← hl] at h2
      simp at h2
      subst h1 h2
      refine ⟨row_base hBC o1, row_base hBC o2, fun k hk => ⟨fun e => ?_, fun e => ?_⟩⟩
      · have := World.ownsRow.lt o1 _ e; have := hgs k hk; omega
      · have := World.ownsRow.lt o2 _ e; have := hgs k hk; omega
  · rw [pairs_snoc, List.pairwise_append]
    refine ⟨h.apart, by simpa using ha, ?_⟩
    intro a hm b hb k hk hk2
    have h1 := hlow a hm k hk
    simp only [List.mem_cons, List.not_mem_nil, or_false] at hb
    rcases hb with rfl | rfl
    · have := World.ownsRow.lt o1 _ hk2; omega
    · have := World.ownsRow.lt o2 _ hk2; omega

/-- A row of files of one's own from block T on: the first k files' texts are of their own, the others' read below T. -/
def Mix (T : Nat) (w : World) (v : Value) (fs : List Fl) (k : Nat) : Prop :=
  ∃ xs : List (Value × Value), xs.length = fs.length ∧ w.ownsRow T 45 3 v fs.length (cellsF fs xs) ∧ TxF T w v.ownBlock (fs.take k) (xs.take k) ∧
    ∀ (j : Nat) (p : Fl) (x : Value × Value), k ≤ j → fs[j]? = some p → xs[j]? = some x → RdB T w x.1 p.n ∧ Sl x.1 p.n.length ∧ RdB T w x.2 p.d ∧ Sl x.2 p.d.length

theorem RoF.mix {T : Nat} {w : World} {v : Value} {fs : List Fl} (h : RoF T T w v fs) : Mix T w v fs 0 := by
  obtain ⟨xs, hl, ho, hx⟩ := h
  exact ⟨xs, hl, ho, ⟨by simp, fun j p x h _ => by simp at h, by simp [pairs]⟩, fun j p x _ hp hxj => hx j p x hp hxj⟩
theorem Mix.all {T : Nat} {w : World} {v : Value} {fs : List Fl} (h : Mix T w v fs fs.length) : OwF T w v fs := by
  obtain ⟨xs, hl, ho, ht, _⟩ := h
  rw [List.take_length, ← hl, List.take_length] at ht
  exact ⟨xs, ho, ht⟩
theorem Mix.low {T : Nat} {w : World} {v : Value} {fs : List Fl} {k : Nat} (h : Mix T w v fs k) : ∀ j, v.ownBlock = some j → T ≤ j ∧ j < w.heap.size := by
  obtain ⟨xs, hl, ho, _⟩ := h
  exact fun j hj => World.ownsRow.lt ho j hj

theorem Mix.step {T : Nat} {w : World} {g cap : Nat} {fs : List Fl} {k : Nat} (h : Mix T w (.slice (some ⟨g, 0, none⟩) fs.length cap) fs k) (hk : k < fs.length) (hT : T ≤ w.heap.size) :
    ∃ nv dv : Value, w.cell? ⟨g, k * 3, none⟩ = some nv ∧ w.frozen? ⟨g, k * 3, none⟩ = false ∧ RdB T w nv fs[k].n ∧ Sl nv fs[k].n.length ∧ w.cell? ⟨g, k * 3 + 1, none⟩ = some dv ∧ w.frozen? ⟨g, k * 3 + 1, none⟩ = false ∧ RdB T w dv fs[k].d ∧ Sl dv fs[k].d.length ∧
      ∀ (w1 w3 : World) (n1 d1 : Value), w.grownBy w1 none → OwB w.heap.size w1 n1 fs[k].n → (w1.setCell ⟨g, k * 3, none⟩ n1).grownBy w3 none → OwB (w1.setCell ⟨g, k * 3, none⟩ n1).heap.size w3 d1 fs[k].d →
        Mix T (w3.setCell ⟨g, k * 3 + 1, none⟩ d1) (.slice (some ⟨g, 0, none⟩) fs.length cap) fs (k + 1) := by
  obtain ⟨xs, hl, ho, ht, hx⟩ := h
  have hp : fs[k]? = some fs[k] := by simp [hk]
  obtain ⟨x, hxk, c0, c1, c2⟩ := cellsF_at fs xs k fs[k] hl hp
  obtain ⟨r1, s1, r2, s2⟩ := hx k fs[k] x (Nat.le_refl _) hp hxk
  have hgl := World.ownsRow.lt ho g rfl
  refine ⟨x.1, x.2, ?_, World.ownsRow.frozenAt ho _, r1, s1, ?_, World.ownsRow.frozenAt ho _, r2, s2, ?_⟩
  · rw [World.ownsRow.cellAt ho (k * 3) (by omega), c0]
  · rw [World.ownsRow.cellAt ho (k * 3 + 1) (by omega), c1]
  intro w1 w3 n1 d1 g1 o1 g3 o3
  have hs1 := g1.size
  have hs3 := g3.size
  have hss : (w1.setCell ⟨g, k * 3, none⟩ n1).heap.size = w1.heap.size := by simp
  rw [hss] at hs3 o3
  have gs1 := grown_setF w1 ⟨g, k * 3, none⟩ n1
  have gs3 := grown_setF w3 ⟨g, k * 3 + 1, none⟩ d1
  -- the row
  have ho1 : w1.ownsRow T 45 3 (.slice (some ⟨g, 0, none⟩) fs.length cap) fs.length (cellsF fs xs) := World.ownsRow.kept ho g1 (.inr (by simp [Value.ownBlock]))
  have ho2 := (World.ownsRow.stored ho1 (k * 3) n1).1
  have ho3 := World.ownsRow.kept ho2 g3 (.inr (by simp [Value.ownBlock]))
  have ho4 := (World.ownsRow.stored ho3 (k * 3 + 1) d1).1
  rw [← cellsF_set2 fs xs k n1 d1 hl hk] at ho4
  -- the texts
  have ht4 : TxF T (w3.setCell ⟨g, k * 3 + 1, none⟩ d1) (some g) (fs.take k) (xs.take k) := (((ht.keep g1).set (k * 3) n1).keep g3).set (k * 3 + 1) d1
  have on : OwB w.heap.size (w3.setCell ⟨g, k * 3 + 1, none⟩ d1) n1 fs[k].n := by
    refine Ow.setF (Ow.later (Ow.setF o1 ⟨g, k * 3, none⟩ n1 hgl.2) g3) ⟨g, k * 3 + 1, none⟩ d1 hgl.2
  have od : OwB w.heap.size (w3.setCell ⟨g, k * 3 + 1, none⟩ d1) d1 fs[k].d := Ow.setF (row_base hs1 o3) ⟨g, k * 3 + 1, none⟩ d1 hgl.2
  have hap : Apt n1 d1 := fun i e1 e2 => by have := World.ownsRow.lt o1 _ e1; have := World.ownsRow.lt o3 _ e2; omega
  refine ⟨xs.set k (n1, d1), by simp [hl], ho4, ?_, fun j p y hj hpj hy => ?_⟩
  · have e1 : fs.take (k + 1) = fs.take k ++ [fs[k]] := by rw [List.take_add_one]; simp [hk]
    have e2 : (xs.set k (n1, d1)).take (k + 1) = xs.take k ++ [(n1, d1)] := by
      rw [List.take_add_one, List.take_set_of_le (Nat.le_refl k)]
      simp [hl, hk]
    rw [e1, e2]
    exact ht4.snoc2 hT (fun v hv i hi => (ht.lt hv hi).2) (fun i hi => by cases hi; exact hgl.2) on od hap
  · rw [List.getElem?_set_ne (by omega)] at hy
    obtain ⟨q1, q2, q3, q4⟩ := hx j p y (by omega) hpj hy
    have tr : ∀ (v : Value) (zs : List Int), RdB T w v zs → RdB T (w3.setCell ⟨g, k * 3 + 1, none⟩ d1) v zs := fun v zs hv =>
      (((hv.keep g1).beside gs1 (fun i e => by cases e; exact hgl.1)).keep g3).beside gs3 (fun i e => by cases e; exact hgl.1)
    exact ⟨tr _ _ q1, q2, tr _ _ q3, q4⟩

end Go.Proofs.YtakkdniikhgpdaaGreatDoor

namespace Go.Proofs.YtakkdniikhgpdaaGreatDoor
open Go.RowKit

set_option maxHeartbeats 8000000 in
set_option maxRecDepth 100000 in
theorem copyFiles_any (v : Value) (fs : List Fl) (w : World) (hv : RdF w.heap.size w v fs) (hd : Fss fs) :
    Calls Tryz.prog 30 #[.agg #[v]] w fun e w' => ∃ (wr : World) (v' : Value), e = .returned (.pointer (some ⟨wr.heap.size, 0, none⟩)) ∧ OwF (w.heap.size + 1) wr v' fs ∧ w.grownBy wr none ∧ w' = wr.alloc (.cells #[v'] 81) := by
  obtain ⟨a, cap, hv0, _⟩ := id hv
  have HCl := hide (fun w' (g : w.grownBy w' none) => filesClone_any v fs w' (hv.now g) hd.len)
  have HT := hide hd.tlen
  have hlen := hd.len
  subst hv0
  clear hv hd
  go_enter Tryz.func30, Tryz.ntmps30
  go_wp2_with fail
  refine (HCl.out _ (World.grownBy_alloc _ _ _)).mono ?_
  rintro e w1 ⟨rv, rfl, o1, g1⟩
  rw [World.size_alloc] at o1
  have hs1 : w.heap.size + 1 ≤ w1.heap.size := by have := g1.size; rw [World.size_alloc] at this; exact this
  have HG1 : Hid (w.grownBy w1 none) := grown_trans (World.grownBy_alloc _ _ _) g1
  obtain ⟨ra, rcap, hrv, _⟩ := o1.rd hs1
  subst hrv
  have HM := hide o1.mix
  clear o1 g1
  go_wp2
  go_loopw [10] (fun i wr => ∃ (k : Nat), k ≤ fs.length ∧ i = .int .i64 k ∧ Hid (w.grownBy wr none) ∧ w.heap.size + 1 ≤ wr.heap.size ∧ Hid (Mix (w.heap.size + 1) wr (.slice ra fs.length rcap) fs k)) (fun i _ => fs.length - (intOf i).toNat)
  case atStart => exact ⟨0, Nat.zero_le _, rfl, HG1, hs1, HM⟩
  case round =>
    obtain ⟨k, hk, rfl, HGr, hsz, HMr⟩ := hrel
    by_cases hlt : k < fs.length
    · obtain ⟨g, rfl⟩ : ∃ g, ra = some ⟨g, 0, none⟩ := by
        obtain ⟨xs, hl, ho, _⟩ := HMr.out
        rcases ho.2 with ⟨h', h2⟩ | ⟨g, cap', cur, h', _⟩
        · omega
        · simp only [Value.slice.injEq] at h'; exact ⟨g, h'.1⟩
      have hgl := HMr.out.low g rfl
      obtain ⟨nv, dv, c0, f0, r0, s0, c1, f1, r1, s1, hst⟩ := HMr.out.step hlt hsz
      have HST := hide hst
      have hpt := HT.out fs[k] (List.getElem_mem hlt)
      have HC1 := hide (bytesClone_any nv fs[k].n wr (r0.wideF hsz) (by omega))
      have HC2 := hide (fun (w2 : World) (r : RdB w2.heap.size w2 dv fs[k].d) => bytesClone_any dv fs[k].d w2 r (by omega))
      have R1 := hide r1
      obtain ⟨na, ncap, hnv, _, _⟩ := s0
      obtain ⟨da, dcap, hdv, _, _⟩ := s1
      subst hnv hdv
      have hpl : (k : Int) < fs.length := by omega
      clear hst r0 r1
      generalize fs[k] = p at *
      go_wp2_with fail
      refine HC1.out.mono ?_
      rintro e w2 ⟨n1, rfl, o2, g2⟩
      obtain ⟨nb, ncap2, hn1, _, _⟩ := o2.sl
      subst hn1
      have c0b := (grown_bothF g2 c0 f0)
      have c1b := (grown_bothF g2 c1 f1)
      obtain ⟨c0c, f0c⟩ := c0b
      obtain ⟨c1c, f1c⟩ := c1b
      have hs2 := g2.size
      have G2 := hide g2
      have O2 := hide o2
      clear g2 o2
      go_wp2_with fail
      have g3a : w2.grownBy (w2.setCell ⟨g, k * 3, none⟩ (.slice nb p.n.length ncap2)) (some g) := grown_setF _ _ _
      refine (HC2.out _ (((R1.out.keep G2.out).beside g3a (fun i e => by cases e; exact hgl.1)).wideF (by simp; omega))).mono ?_
      rintro e w3 ⟨d1, rfl, o3, g3⟩
      obtain ⟨db, dcap2, hd1, _, _⟩ := o3.sl
      subst hd1
      have c1d : (w2.setCell ⟨g, k * 3, none⟩ (.slice nb p.n.length ncap2)).cell? ⟨g, k * 3 + 1, none⟩ = some (.slice da p.d.length dcap) := by simp [go_sem, c1c]
      have f1d : (w2.setCell ⟨g, k * 3, none⟩ (.slice nb p.n.length ncap2)).frozen? ⟨g, k * 3 + 1, none⟩ = false := by simp [go_sem, f1c]
      obtain ⟨c1e, f1e⟩ := grown_bothF g3 c1d f1d
      have HM2 : Hid (Mix (w.heap.size + 1) (w3.setCell ⟨g, k * 3 + 1, none⟩ (.slice db p.d.length dcap2)) (.slice (some ⟨g, 0, none⟩) fs.length rcap) fs (k + 1)) := HST.out _ _ _ _ G2.out O2.out g3 o3
      have HG4 : Hid (w.grownBy (w3.setCell ⟨g, k * 3 + 1, none⟩ (.slice db p.d.length dcap2)) none) := by
        have e1 := grown_new (grown_trans HGr.out G2.out) g3a (fun j e => by cases e; omega)
        exact grown_new (grown_trans e1 g3) (grown_setF _ _ _) (fun j e => by cases e; show _ ≤ g; omega)
      have hs4 : w.heap.size + 1 ≤ (w3.setCell ⟨g, k * 3 + 1, none⟩ (.slice db p.d.length dcap2)).heap.size := by
        have := g3.size
        simp only [World.size_setCell] at this ⊢
        omega
      clear g3 o3 g3a
      go_wp2
      go_roundw
      case rel => exact ⟨k + 1, by omega, by go_num, HG4, hs4, HM2⟩
      case measure => simp [intOf]; omega
    · have hkn : k = fs.length := by omega
      subst hkn
      go_wp2
      go_ret
      exact ⟨wr, _, rfl, HMr.out.all, HGr.out, rfl⟩

end Go.Proofs.YtakkdniikhgpdaaGreatDoor

namespace Go.Proofs.YtakkdniikhgpdaaGreatDoor
open Go.RowKit

/-- What is left of 'left' behind n; below nought: -1. -/
def szBF (n : Nat) (left : Int) : Int := if left - n < 0 then -1 else left - n
theorem szB_bdF (n : Nat) (left : Int) (h1 : left ≤ 1048576) : -1 ≤ szBF n left ∧ szBF n left ≤ 1048576 := by
  unfold szBF; split <;> omega
theorem szB_pos {n : Nat} {left : Int} (h : ¬ szBF n left < 0) : szBF n left = left - n ∧ (n : Int) ≤ left := by
  unfold szBF at h ⊢; split at h <;> simp_all <;> omega
theorem szB_neg {n : Nat} {left : Int} (h : left < n) : szBF n left = -1 := by unfold szBF; rw [if_pos (by omega)]

/-- The bytes of all files. -/
def tot : List Fl → Nat
  | [] => 0
  | f :: fs => f.n.length + f.d.length + tot fs
theorem tot_take : ∀ (fs : List Fl) (k : Nat) (hk : k < fs.length), tot (fs.take (k + 1)) = tot (fs.take k) + (fs[k].n.length + fs[k].d.length)
  | f :: fs, 0, _ => by simp [tot]
  | f :: fs, k + 1, h => by
    have := tot_take fs k (by simpa using h)
    simp only [List.take_succ_cons, tot, this, List.getElem_cons_succ]
    omega
theorem tot_le : ∀ (fs : List Fl) (k : Nat), tot (fs.take k) ≤ tot fs
  | [], k => by simp
  | f :: fs, 0 => by simp [tot]
  | f :: fs, k + 1 => by have := tot_le fs k; simp only [List.take_succ_cons, tot]; omega
theorem tot_mem : ∀ (fs : List Fl) (f : Fl), f ∈ fs → f.n.length + f.d.length ≤ tot fs
  | g :: fs, f, h => by
    simp only [List.mem_cons] at h
    rcases h with rfl | h
    · simp only [tot]; omega
    · have := tot_mem fs f h; simp only [tot]; omega

end Go.Proofs.YtakkdniikhgpdaaGreatDoor

namespace Go.Proofs.YtakkdniikhgpdaaGreatDoor
open Go.RowKit

end Go.Proofs.YtakkdniikhgpdaaGreatDoor

namespace Go.Proofs.YtakkdniikhgpdaaGreatDoor
open Go.RowKit

theorem rdB_belowB {B : Nat} {w w' : World} {v : Value} {zs : List Int} (hv : RdB B w v zs) (hb : Below B w w') : RdB B w' v zs := by
  obtain ⟨a, cap, e, hr⟩ := hv
  refine ⟨a, cap, e, fun h0 => ?_⟩
  obtain ⟨b, off, ha, hb2, hc⟩ := hr h0
  exact ⟨b, off, ha, hb2, fun j hj => (hb.cell hb2).trans (hc j hj)⟩

end Go.Proofs.YtakkdniikhgpdaaGreatDoor

namespace Go.Proofs.YtakkdniikhgpdaaGreatDoor
open Go.RowKit

end Go.Proofs.YtakkdniikhgpdaaGreatDoor

namespace Go.Proofs.YtakkdniikhgpdaaGreatDoor
open Go.RowKit

end Go.Proofs.YtakkdniikhgpdaaGreatDoor

namespace Go.Proofs.YtakkdniikhgpdaaGreatDoor
open Go.RowKit

/-- Blocks below B, and those from H on, are as they were. -/
structure FrP (B H : Nat) (w w' : World) : Prop where
  os : w'.os = w.os
  tape : w'.tape = w.tape
  output : w'.output = w.output
  size : w.heap.size ≤ w'.heap.size
  block : ∀ b, b < w.heap.size → (b < B ∨ H ≤ b) → w'.heap[b]? = w.heap[b]?
theorem FrP.refl (B H : Nat) (w : World) : FrP B H w w := ⟨rfl, rfl, rfl, Nat.le_refl _, fun _ _ _ => rfl⟩
theorem FrP.grown {B H : Nat} {w w1 w2 : World} (h : FrP B H w w1) {row : Option Nat} (hg : w1.grownBy w2 row) (hr : ∀ g, row = some g → B ≤ g ∧ g < H) : FrP B H w w2 :=
  ⟨hg.os.trans h.os, hg.tape.trans h.tape, hg.output.trans h.output, Nat.le_trans h.size hg.size, fun b hb hx => (hg.block b (Nat.lt_of_lt_of_le hb h.size) (fun e => by have := hr b e.symm; omega)).trans (h.block b hb hx)⟩
theorem FrP.below {B H : Nat} {w w' : World} (h : FrP B H w w') (hB : B ≤ w.heap.size) : Below B w w' :=
  ⟨h.os, h.tape, h.output, h.size, fun b hb => h.block b (by omega) (.inl hb)⟩
theorem FrP.row {B H b0 : Nat} {w w' : World} (h : FrP B H w w') {e : TypeId} {size n : Nat} {v : Value} {xs : List Value} (ho : w.ownsRow b0 e size v n xs) (hx : ∀ g, v.ownBlock = some g → g < B ∨ H ≤ g) : w'.ownsRow b0 e size v n xs := by
  refine ⟨ho.1, ?_⟩
  rcases ho.2 with h1 | ⟨g, cap, cur, hv, hb, hg, rest⟩
  · exact .inl h1
  · exact .inr ⟨g, cap, cur, hv, hb, (h.block g (Array.getElem?_eq_some_iff.1 hg).1 (hx g (by rw [hv]; rfl))).trans hg, rest⟩

/-- What a mark lays into a file. -/
def marked (t : Int) (p : Fl) : Fl := ⟨upto (markB t) p.n.length, upto (markB (t + p.n.length)) p.d.length, t + p.n.length + p.d.length⟩
def totM : List Fl → Int
  | [] => 0
  | p :: ps => p.n.length + p.d.length + 1 + totM ps
def mkF : Int → List Fl → List Fl
  | _, [] => []
  | s, p :: ps => marked s p :: mkF (s + (p.n.length + p.d.length + 1)) ps
theorem totM_snoc : ∀ (L : List Fl) (p : Fl), totM (L ++ [p]) = totM L + (p.n.length + p.d.length + 1)
  | [], p => by simp [totM]
  | q :: L, p => by simp only [List.cons_append, totM, totM_snoc L p]; omega
theorem mkF_snoc : ∀ (s : Int) (L : List Fl) (p : Fl), mkF s (L ++ [p]) = mkF s L ++ [marked (s + totM L) p]
  | s, [], p => by simp [mkF, totM]
  | s, q :: L, p => by
    simp only [List.cons_append, mkF, mkF_snoc _ L p, totM]
    rw [show s + (q.n.length + q.d.length + 1) + totM L = s + (q.n.length + q.d.length + 1 + totM L) by omega]
theorem mkF_len : ∀ (s : Int) (L : List Fl), (mkF s L).length = L.length
  | _, [] => rfl
  | s, q :: L => by simp [mkF, mkF_len _ L]
theorem totM_nonneg : ∀ L, 0 ≤ totM L
  | [] => by simp [totM]
  | q :: L => by have := totM_nonneg L; simp only [totM]; omega
theorem totM_take_le : ∀ (L : List Fl) (k : Nat), totM (L.take k) ≤ totM L
  | [], k => by simp
  | q :: L, 0 => by have := totM_nonneg (q :: L); simpa [totM] using this
  | q :: L, k + 1 => by have := totM_take_le L k; simp only [List.take_succ_cons, totM]; omega
def mixF (s : Int) (fs : List Fl) (k : Nat) : List Fl := mkF s (fs.take k) ++ fs.drop k
theorem mix_len (s : Int) (fs : List Fl) (k : Nat) : (mixF s fs k).length = fs.length := by simp [mixF, mkF_len]; omega
theorem mix_at (s : Int) (fs : List Fl) (k : Nat) (hk : k < fs.length) : (mixF s fs k)[k]? = some fs[k] := by
  unfold mixF
  rw [List.getElem?_append_right (by simp [mkF_len]; omega), List.drop_eq_getElem_cons hk]
  simp [mkF_len, Nat.min_eq_left (Nat.le_of_lt hk)]
theorem mix_step (s : Int) (fs : List Fl) (k : Nat) (hk : k < fs.length) : (mixF s fs k).set k (marked (s + totM (fs.take k)) fs[k]) = mixF s fs (k + 1) := by
  have hl : (mkF s (fs.take k)).length = k := by simp [mkF_len]; omega
  unfold mixF
  rw [List.take_add_one, List.getElem?_eq_getElem hk]
  show _ = mkF s (fs.take k ++ [fs[k]]) ++ _
  rw [mkF_snoc, List.set_append_right _ _ (by omega), show k - (mkF s (fs.take k)).length = 0 by omega, List.drop_eq_getElem_cons hk, List.set_cons_zero, List.append_assoc]
  rfl

/-- Texts at different places are apart. -/
theorem pairs_at : ∀ (xs : List (Value × Value)) (k : Nat) (x : Value × Value), xs[k]? = some x → (pairs xs)[2 * k]? = some x.1 ∧ (pairs xs)[2 * k + 1]? = some x.2
  | y :: ys, 0, x, h => by simp at h; subst h; simp [pairs]
  | y :: ys, k + 1, x, h => by
    have := pairs_at ys k x (by simpa using h)
    rw [show 2 * (k + 1) = 2 * k + 1 + 1 by omega, show 2 * k + 1 + 1 + 1 = 2 * k + 1 + 1 + 1 by omega]
    simpa [pairs] using this
  | [], _, _, h => by simp at h
theorem Apt.symm {a b : Value} (h : Apt a b) : Apt b a := fun g h1 h2 => h g h2 h1
theorem apt_at {l : List Value} (h : l.Pairwise Apt) {i j : Nat} {a b : Value} (hi : l[i]? = some a) (hj : l[j]? = some b) (hne : i ≠ j) : Apt a b := by
  obtain ⟨hi1, hi2⟩ := List.getElem?_eq_some_iff.1 hi
  obtain ⟨hj1, hj2⟩ := List.getElem?_eq_some_iff.1 hj
  rw [List.pairwise_iff_getElem] at h
  rcases Nat.lt_or_gt_of_ne hne with hlt | hlt
  · have := h i j hi1 hj1 hlt; rw [hi2, hj2] at this; exact this
  · have := h j i hj1 hi1 hlt; rw [hi2, hj2] at this; exact this.symm

theorem Ow.apart {q : IntKind} {t : TypeId} {B : Nat} {w w' : World} {v u : Value} {zs : List Int} (h : Ow q t B w v zs) (hg : w.grownBy w' u.ownBlock) (ha : Apt u v) : Ow q t B w' v zs :=
  h.beside hg (fun k hk j hj e => by subst e; exact ha k hj hk)

/-- The name of file k is written over. -/
theorem TxF.name {B : Nat} {w w' : World} {g : Option Nat} {L : List Fl} {xs : List (Value × Value)} {k : Nat} {p : Fl} {x : Value × Value} (h : TxF B w g L xs) (hp : L[k]? = some p) (hx : xs[k]? = some x) (hg : w.grownBy w' x.1.ownBlock) {n' : List Int} (ho : OwB B w' x.1 n') :
    TxF B w' g (L.set k ⟨n', p.d, p.s⟩) xs := by
  have hk := (List.getElem?_eq_some_iff.1 hp).1
  refine ⟨by simp [h.len], fun j q y hq hy => ?_, h.apart⟩
  by_cases hjk : k = j
  · subst hjk
    rw [hx] at hy; cases hy
    simp [hk] at hq
    subst hq
    obtain ⟨o1, o2, o3⟩ := h.own k p x hp hx
    exact ⟨ho, o2.apart hg (apt_at h.apart (pairs_at xs k x hx).1 (pairs_at xs k x hx).2 (by omega)), o3⟩
  · rw [List.getElem?_set_ne hjk] at hq
    obtain ⟨o1, o2, o3⟩ := h.own j q y hq hy
    exact ⟨o1.apart hg (apt_at h.apart (pairs_at xs k x hx).1 (pairs_at xs j y hy).1 (by omega)), o2.apart hg (apt_at h.apart (pairs_at xs k x hx).1 (pairs_at xs j y hy).2 (by omega)), o3⟩
theorem TxF.data {B : Nat} {w w' : World} {g : Option Nat} {L : List Fl} {xs : List (Value × Value)} {k : Nat} {p : Fl} {x : Value × Value} (h : TxF B w g L xs) (hp : L[k]? = some p) (hx : xs[k]? = some x) (hg : w.grownBy w' x.2.ownBlock) {d' : List Int} (ho : OwB B w' x.2 d') :
    TxF B w' g (L.set k ⟨p.n, d', p.s⟩) xs := by
  have hk := (List.getElem?_eq_some_iff.1 hp).1
  refine ⟨by simp [h.len], fun j q y hq hy => ?_, h.apart⟩
  by_cases hjk : k = j
  · subst hjk
    rw [hx] at hy; cases hy
    simp [hk] at hq
    subst hq
    obtain ⟨o1, o2, o3⟩ := h.own k p x hp hx
    exact ⟨o1.apart hg (apt_at h.apart (pairs_at xs k x hx).2 (pairs_at xs k x hx).1 (by omega)), ho, o3⟩
  · rw [List.getElem?_set_ne hjk] at hq
    obtain ⟨o1, o2, o3⟩ := h.own j q y hq hy
    exact ⟨o1.apart hg (apt_at h.apart (pairs_at xs k x hx).2 (pairs_at xs j y hy).1 (by omega)), o2.apart hg (apt_at h.apart (pairs_at xs k x hx).2 (pairs_at xs j y hy).2 (by omega)), o3⟩
theorem TxF.safe {B : Nat} {w : World} {g : Option Nat} {L : List Fl} {xs : List (Value × Value)} {k : Nat} {p : Fl} (h : TxF B w g L xs) (hp : L[k]? = some p) (s' : Int) : TxF B w g (L.set k ⟨p.n, p.d, s'⟩) xs := by
  have hk := (List.getElem?_eq_some_iff.1 hp).1
  refine ⟨by simp [h.len], fun j q y hq hy => ?_, h.apart⟩
  by_cases hjk : k = j
  · subst hjk
    simp [hk] at hq
    subst hq
    exact h.own k p y hp hy
  · rw [List.getElem?_set_ne hjk] at hq
    exact h.own j q y hq hy
theorem cellsF_same : ∀ (L : List Fl) (xs : List (Value × Value)) (k : Nat) (p p' : Fl), L[k]? = some p → p'.s = p.s → cellsF (L.set k p') xs = cellsF L xs
  | q :: L, x :: xs, 0, p, p', h, hs => by simp at h; subst h; simp [cellsF, hs]
  | q :: L, x :: xs, k + 1, p, p', h, hs => by simp only [List.set_cons_succ, cellsF, cellsF_same L xs k p p' (by simpa using h) hs]
  | _ :: _, [], 0, _, _, _, _ => rfl
  | _ :: _, [], _ + 1, _, _, _, _ => rfl
  | [], _, _, _, _, h, _ => by simp at h
theorem cellsF_setS : ∀ (L : List Fl) (xs : List (Value × Value)) (k : Nat) (p' : Fl), xs.length = L.length → k < L.length → cellsF (L.set k p') xs = (cellsF L xs).set (k * 3 + 2) (.int .i64 p'.s)
  | q :: L, x :: xs, 0, p', _, _ => rfl
  | q :: L, x :: xs, k + 1, p', h, hk => by
    rw [List.set_cons_succ]
    show x.1 :: x.2 :: Value.int .i64 q.s :: cellsF _ _ = _
    rw [cellsF_setS L xs k p' (by simpa using h) (by simpa using hk), show (k + 1) * 3 + 2 = k * 3 + 2 + 1 + 1 + 1 by omega]
    rfl
  | _ :: _, [], _, _, h, _ => by simp at h
  | [], _, _, _, _, hk => by simp at hk

/-- A row of files of one's own, all of whose blocks lie below H. -/
def OwFH (B H : Nat) (w : World) (v : Value) (fs : List Fl) : Prop :=
  ∃ xs : List (Value × Value), w.ownsRow B 45 3 v fs.length (cellsF fs xs) ∧ TxF B w v.ownBlock fs xs ∧ (∀ g, v.ownBlock = some g → g < H) ∧ ∀ u ∈ pairs xs, ∀ g, u.ownBlock = some g → g < H
theorem OwF.high {B : Nat} {w : World} {v : Value} {fs : List Fl} (h : OwF B w v fs) : OwFH B w.heap.size w v fs := by
  obtain ⟨xs, ho, ht⟩ := h
  exact ⟨xs, ho, ht, fun g hg => (World.ownsRow.lt ho g hg).2, fun u hu g hg => (ht.lt hu hg).2⟩
theorem OwFH.low {B H : Nat} {w : World} {v : Value} {fs : List Fl} (h : OwFH B H w v fs) : OwF B w v fs := by
  obtain ⟨xs, ho, ht, _⟩ := h
  exact ⟨xs, ho, ht⟩
theorem OwFH.later {B H : Nat} {w w' : World} {v : Value} {fs : List Fl} (h : OwFH B H w v fs) (hg : w.grownBy w' none) : OwFH B H w' v fs := by
  obtain ⟨xs, ho, ht, h1, h2⟩ := h
  exact ⟨xs, World.ownsRow.kept ho hg (by cases v.ownBlock <;> simp), ht.keep hg, h1, h2⟩
/-- .. where only other blocks were written. -/
theorem FrP.ofF {B H b0 : Nat} {w w' : World} (h : FrP B H w w') {v : Value} {fs : List Fl} (ho : OwF b0 w v fs) (hx : ∀ (b : Nat), b0 ≤ b → b < w.heap.size → b < B ∨ H ≤ b) : OwF b0 w' v fs := by
  obtain ⟨xs, hr, ht⟩ := ho
  refine ⟨xs, h.row hr (fun g hg => by have := World.ownsRow.lt hr g hg; exact hx g this.1 this.2), ht.len, fun j p x h1 h2 => ?_, ht.apart⟩
  obtain ⟨o1, o2, o3⟩ := ht.own j p x h1 h2
  exact ⟨h.row o1 (fun g hg => by have := World.ownsRow.lt o1 g hg; exact hx g this.1 this.2), h.row o2 (fun g hg => by have := World.ownsRow.lt o2 g hg; exact hx g this.1 this.2), o3⟩

end Go.Proofs.YtakkdniikhgpdaaGreatDoor

namespace Go.Proofs.YtakkdniikhgpdaaGreatDoor
open Go.RowKit

end Go.Proofs.YtakkdniikhgpdaaGreatDoor

namespace Go.Proofs.YtakkdniikhgpdaaGreatDoor
open Go.RowKit

theorem totM_bd : ∀ fs : List Fl, totM fs = fs.length + tot fs
  | [] => rfl
  | p :: ps => by simp only [totM, tot, totM_bd ps, List.length_cons]; omega
/-- Over a write into one block that is none of the row's and none of its texts'. -/
theorem owF_beside {B : Nat} {w w' : World} {v : Value} {fs : List Fl} {row : Option Nat} (h : OwF B w v fs) (hg : w.grownBy w' row) (hr : ∀ k, row = some k → ∀ b, B ≤ b → b < w.heap.size → b ≠ k) : OwF B w' v fs := by
  obtain ⟨xs, ho, ht⟩ := h
  have keep : ∀ {e : TypeId} {size n : Nat} {u : Value} {l : List Value}, w.ownsRow B e size u n l → w'.ownsRow B e size u n l := by
    intro e size n u l hu
    refine World.ownsRow.kept hu hg ?_
    cases hv : u.ownBlock with
    | none => exact .inl rfl
    | some k => exact .inr (fun e => by have := World.ownsRow.lt hu k hv; exact hr k e.symm k this.1 this.2 rfl)
  exact ⟨xs, keep ho, ht.len, fun j p x h1 h2 => by obtain ⟨o1, o2, o3⟩ := ht.own j p x h1 h2; exact ⟨keep o1, keep o2, o3⟩, ht.apart⟩

theorem grown_cellF {w w' : World} {row : Option Nat} (g : w.grownBy w' row) {b o : Nat} {u : Value} (hc : w.cell? ⟨b, o, none⟩ = some u) (hn : ∀ k, row = some k → k ≠ b) : w'.cell? ⟨b, o, none⟩ = some u :=
  g.cell hc (fun e => hn b e.symm rfl)
theorem FrP.cellF {B H : Nat} {w w' : World} (h : FrP B H w w') {b o : Nat} {u : Value} (hc : w.cell? ⟨b, o, none⟩ = some u) (hx : b < B ∨ H ≤ b) : w'.cell? ⟨b, o, none⟩ = some u :=
  (World.cell?_of_block (h.block b (World.block_lt_of_cell? w _ hc) hx)).trans hc
theorem OwFH.keepF {b0 h0 : Nat} {w w' : World} {v : Value} {fs : List Fl} (h : OwFH b0 h0 w v fs) (hk : ∀ {e : TypeId} {size n : Nat} {u : Value} {l : List Value}, w.ownsRow b0 e size u n l → (∀ g, u.ownBlock = some g → b0 ≤ g ∧ g < h0) → w'.ownsRow b0 e size u n l) : OwFH b0 h0 w' v fs := by
  obtain ⟨xs, ho, ht, h1, h2⟩ := h
  refine ⟨xs, hk ho (fun g hg => ⟨(World.ownsRow.lt ho g hg).1, h1 g hg⟩), ⟨ht.len, fun j p x hp hx => ?_, ht.apart⟩, h1, h2⟩
  obtain ⟨o1, o2, o3⟩ := ht.own j p x hp hx
  obtain ⟨m1, m2⟩ := pairs_at xs j x hx
  exact ⟨hk o1 (fun g hg => ⟨(World.ownsRow.lt o1 g hg).1, h2 _ (List.mem_of_getElem? m1) g hg⟩), hk o2 (fun g hg => ⟨(World.ownsRow.lt o2 g hg).1, h2 _ (List.mem_of_getElem? m2) g hg⟩), o3⟩
theorem FrP.ofFH {B H b0 h0 : Nat} {w w' : World} (h : FrP B H w w') {v : Value} {fs : List Fl} (ho : OwFH b0 h0 w v fs) (hx : h0 ≤ B ∨ H ≤ b0) : OwFH b0 h0 w' v fs :=
  ho.keepF (fun hu hg => h.row hu (fun g e => by have := hg g e; omega))
theorem owFH_beside {b0 h0 : Nat} {w w' : World} {v : Value} {fs : List Fl} {row : Option Nat} (h : OwFH b0 h0 w v fs) (hg : w.grownBy w' row) (hr : ∀ k, row = some k → k < b0 ∨ h0 ≤ k) : OwFH b0 h0 w' v fs :=
  h.keepF (fun {_ _ _ u _} hu hb => World.ownsRow.kept hu hg (by
    cases hv : u.ownBlock with
    | none => exact .inl rfl
    | some k => exact .inr (fun e => by have := hb k hv; have := hr k e.symm; omega)))

end Go.Proofs.YtakkdniikhgpdaaGreatDoor

