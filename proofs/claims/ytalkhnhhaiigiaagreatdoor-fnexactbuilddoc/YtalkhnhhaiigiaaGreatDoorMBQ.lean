import Derived.Handy
import Derived.Test.YtalkhnhhaiigiaaGreatDoorMAA
namespace Go.Proofs.YtalkhnhhaiigiaaGreatDoor
open Go.RowKit

/-! The trail of a mark: the addresses that it visits, in order, each with the kind of what lies there. -/

inductive Kd where
  | b
  | i
  | o
def mkV : Kd → Int → Value
  | .b, k => .int .u8 (k % 256)
  | .i, k => .int .i64 k
  | .o, k => .bool (decide (k % 3 = 0))
/-- The world that a mark leaves. -/
def mrk : World → Int → List (Addr × Kd) → World
  | w, _, [] => w
  | w, s, (a, q) :: l => mrk (w.setCell a (mkV q s)) (s + 1) l
theorem mrk_nil (w : World) (s : Int) : mrk w s [] = w := rfl
theorem mrk_app : ∀ (l1 l2 : List (Addr × Kd)) (w : World) (s : Int), mrk w s (l1 ++ l2) = mrk (mrk w s l1) (s + l1.length) l2
  | [], l2, w, s => by simp [mrk]
  | (a, q) :: l, l2, w, s => by
    simp only [List.cons_append, mrk, mrk_app l l2, List.length_cons]
    congr 1
    omega
theorem mrk_snoc (l : List (Addr × Kd)) (a : Addr) (q : Kd) (w : World) (s : Int) : mrk w s (l ++ [(a, q)]) = (mrk w s l).setCell a (mkV q (s + l.length)) := by
  rw [mrk_app]; rfl
theorem mrk_size : ∀ (l : List (Addr × Kd)) (w : World) (s : Int), (mrk w s l).heap.size = w.heap.size
  | [], w, s => rfl
  | (a, q) :: l, w, s => by simp only [mrk, mrk_size l]; simp
theorem mrk_frozen : ∀ (l : List (Addr × Kd)) (w : World) (s : Int) (x : Addr), (mrk w s l).frozen? x = w.frozen? x
  | [], w, s, x => rfl
  | (a, q) :: l, w, s, x => by simp only [mrk, mrk_frozen l]; simp
theorem mrk_far : ∀ (l : List (Addr × Kd)) (w : World) (s : Int) (x : Addr), (∀ y ∈ l, y.1 ≠ x) → (mrk w s l).cell? x = w.cell? x
  | [], w, s, x, _ => rfl
  | (a, q) :: l, w, s, x, h => by
    simp only [mrk]
    rw [mrk_far l _ _ x (fun y hy => h y (by simp [hy])), World.cell?_setCell_other _ _ _ _ (h (a, q) (by simp))]
theorem mrk_at : ∀ (l : List (Addr × Kd)) (w : World) (s : Int) (j : Nat) (y : Addr × Kd), (l.map (·.1)).Nodup → l[j]? = some y → (w.cell? y.1).isSome = true → (mrk w s l).cell? y.1 = some (mkV y.2 (s + j))
  | [], w, s, j, y, _, h, _ => by simp at h
  | (a, q) :: l, w, s, 0, y, hn, h, hs => by
    simp at h
    subst h
    simp only [List.map_cons, List.nodup_cons] at hn
    simp only [mrk]
    rw [mrk_far l _ _ a (fun y hy e => hn.1 (by rw [← e]; exact List.mem_map_of_mem hy)), World.cell?_setCell_same' _ _ _ hs]
    simp
  | (a, q) :: l, w, s, j + 1, y, hn, h, hs => by
    simp only [List.map_cons, List.nodup_cons] at hn
    simp at h
    have hne : a ≠ y.1 := fun e => hn.1 (by rw [e]; exact List.mem_map_of_mem (List.mem_of_getElem? h))
    simp only [mrk]
    rw [mrk_at l _ _ j y hn.2 h (by rw [World.cell?_setCell_other _ _ _ _ hne]; exact hs)]
    congr 2
    omega
theorem mrk_grown : ∀ (l : List (Addr × Kd)) (w : World) (s : Int) (B H : Nat), (∀ y ∈ l, B ≤ y.1.block ∧ y.1.block < H) → ∀ k, k < B ∨ H ≤ k → (mrk w s l).heap[k]? = w.heap[k]?
  | [], w, s, B, H, _, k, _ => rfl
  | (a, q) :: l, w, s, B, H, h, k, hk => by
    have h0 := h (a, q) (by simp)
    simp only at h0
    simp only [mrk]
    rw [mrk_grown l _ _ B H (fun y hy => h y (by simp [hy])) k hk]
    exact Below.heap_setCell _ _ _ _ (by omega)
theorem mrk_same : ∀ (l : List (Addr × Kd)) (w : World) (s : Int), (mrk w s l).os = w.os ∧ (mrk w s l).tape = w.tape ∧ (mrk w s l).output = w.output
  | [], w, s => ⟨rfl, rfl, rfl⟩
  | (a, q) :: l, w, s => by
    obtain ⟨h1, h2, h3⟩ := mrk_same l (w.setCell a (mkV q s)) (s + 1)
    exact ⟨h1, h2, h3⟩
end Go.Proofs.YtalkhnhhaiigiaaGreatDoor

namespace Go.Proofs.YtalkhnhhaiigiaaGreatDoor
open Go.RowKit

/-- What lies at an address is of the kind. -/
def KdAt (w : World) (x : Addr) : Kd → Prop
  | .b => ∃ z, w.cell? x = some (.int .u8 z)
  | .i => ∃ z, w.cell? x = some (.int .i64 z)
  | .o => ∃ t, w.cell? x = some (.bool t)
theorem KdAt.isS {w : World} {x : Addr} {q : Kd} (h : KdAt w x q) : (w.cell? x).isSome = true := by
  cases q <;> (obtain ⟨z, h⟩ := h; rw [h]; rfl)
theorem KdAt.uniq {w : World} {x : Addr} {q q' : Kd} (h : KdAt w x q) (h' : KdAt w x q') : q = q' := by
  cases q <;> cases q' <;> first | rfl | (obtain ⟨z, h⟩ := h; obtain ⟨z', h'⟩ := h'; rw [h] at h'; cases h')
theorem KdAt.mk {w : World} {x : Addr} {q : Kd} {s : Int} (h : w.cell? x = some (mkV q s)) : KdAt w x q := by
  cases q
  · exact ⟨_, h⟩
  · exact ⟨_, h⟩
  · exact ⟨_, h⟩
theorem KdAt.set {w : World} {x a : Addr} {q q' : Kd} {s : Int} (h : KdAt w x q) (ha : KdAt w a q') : KdAt (w.setCell a (mkV q' s)) x q := by
  by_cases e : a = x
  · subst e
    obtain rfl := h.uniq ha
    exact KdAt.mk (World.cell?_setCell_same' _ _ _ h.isS)
  · have := World.cell?_setCell_other w a x (mkV q' s) e
    cases q <;> (obtain ⟨z, h⟩ := h; exact ⟨z, this.trans h⟩)
/-- All that a trail visits is of its kind. -/
def TrOk (w : World) (l : List (Addr × Kd)) : Prop := ∀ y ∈ l, KdAt w y.1 y.2 ∧ w.frozen? y.1 = false
theorem mrk_kind : ∀ (l : List (Addr × Kd)) (w : World) (s : Int) (x : Addr) (q : Kd), TrOk w l → KdAt w x q → KdAt (mrk w s l) x q
  | [], w, s, x, q, _, h => h
  | (a, q') :: l, w, s, x, q, hl, h => by
    have h0 := (hl (a, q') (by simp)).1
    exact mrk_kind l _ _ x q (fun y hy => ⟨((hl y (by simp [hy])).1).set h0, by simp; exact (hl y (by simp [hy])).2⟩) (h.set h0)
theorem TrOk.mrk {w : World} {l l' : List (Addr × Kd)} (h : TrOk w l) (h' : TrOk w l') (s : Int) : TrOk (mrk w s l') l :=
  fun y hy => ⟨mrk_kind l' w s _ _ h' (h y hy).1, by rw [mrk_frozen]; exact (h y hy).2⟩
/-- What is of no kind stays. -/
theorem mrk_keeps {l : List (Addr × Kd)} {w : World} {s : Int} {x : Addr} (hl : TrOk w l) (h : ∀ q, ¬ KdAt w x q) : (mrk w s l).cell? x = w.cell? x :=
  mrk_far l w s x (fun y hy e => h y.2 (by rw [← e]; exact (hl y hy).1))
theorem mrk_slice {l : List (Addr × Kd)} {w : World} {s : Int} {x : Addr} {a : Option Addr} {n c : Nat} (hl : TrOk w l) (h : w.cell? x = some (.slice a n c)) : (mrk w s l).cell? x = some (.slice a n c) := by
  rw [mrk_keeps hl (fun q hq => by cases q <;> (obtain ⟨z, hq⟩ := hq; rw [h] at hq; cases hq)), h]

/-- The trail of a list of numbers. -/
def trL (q : Kd) : Option Addr → Nat → List (Addr × Kd)
  | none, _ => []
  | some a, n => (List.range n).map fun j => (a.add j, q)
theorem trL_len (q : Kd) (a : Addr) (n : Nat) : (trL q (some a) n).length = n := by simp [trL]
theorem trL_snoc (q : Kd) (a : Addr) (n : Nat) : trL q (some a) (n + 1) = trL q (some a) n ++ [(a.add n, q)] := by simp [trL, List.range_succ]
theorem trL_take {w : World} {q : Kd} {a : Addr} {n k : Nat} (h : TrOk w (trL q (some a) n)) (hk : k ≤ n) : TrOk w (trL q (some a) k) := fun y hy => by
  simp only [trL, List.mem_map, List.mem_range] at hy
  obtain ⟨j, hj, rfl⟩ := hy
  exact h _ (by simp only [trL, List.mem_map, List.mem_range]; exact ⟨j, by omega, rfl⟩)
theorem trL_at {w : World} {q : Kd} {a : Addr} {n k : Nat} (h : TrOk w (trL q (some a) n)) (hk : k < n) : KdAt w (a.add k) q ∧ w.frozen? (a.add k) = false :=
  h (a.add k, q) (by simp only [trL, List.mem_map, List.mem_range]; exact ⟨k, hk, rfl⟩)

set_option maxHeartbeats 1000000 in
set_option maxRecDepth 100000 in
theorem markByteS_tr (b off n cap : Nat) (s : Int) (w : World) (h : TrOk w (trL .b (some ⟨b, off, none⟩) n)) (hn : n ≤ 8388608) (h0 : 0 ≤ s) (h1 : s ≤ 4611686018427387904) :
    Calls Tryz.prog 29 #[.slice (some ⟨b, off, none⟩) n cap, .int .i64 s] w fun e w' => e = .returned (.int .i64 (s + n)) ∧ mrk w s (trL .b (some ⟨b, off, none⟩) n) = w' := by
  have HH := hide h
  clear h
  go_enter Tryz.func29, Tryz.ntmps29
  go_wp2
  go_loopw [1, 5] (fun t i W => ∃ k : Nat, k ≤ n ∧ i = .int .i64 k ∧ t = .int .i64 (s + k) ∧ W = mrk w s (trL .b (some ⟨b, off, none⟩) k)) (fun _ i _ => n - (intOf i).toNat)
  case atStart => exact ⟨0, Nat.zero_le _, rfl, by simp, rfl⟩
  case round =>
    obtain ⟨k, hk, rfl, rfl, hW⟩ := hrel
    by_cases hlt : k < n
    · have hat := trL_at (HH.out.mrk (trL_take HH.out hk) s) hlt
      rw [← hW, Addr.add_lit] at hat
      obtain ⟨⟨z, hc⟩, hf⟩ := hat
      have HS : Hid (wr.setCell ⟨b, off + k, none⟩ (mkV .b (s + k)) = mrk w s (trL .b (some ⟨b, off, none⟩) (k + 1))) := by
        unfold Hid
        rw [trL_snoc, mrk_snoc, trL_len, ← hW, Addr.add_lit]
      unfold mkV at HS
      clear hW
      go_wp2
      go_roundw
      case rel => exact ⟨k + 1, by omega, by go_num, by go_num, HS.out⟩
      case measure => simp [intOf]; omega
    · go_wp2
      go_ret
      have hkn : k = n := by omega
      subst hkn
      exact ⟨rfl, by first | rfl | exact hW.symm⟩

set_option maxHeartbeats 1000000 in
set_option maxRecDepth 100000 in
theorem markIntS_tr (b off n cap : Nat) (s : Int) (w : World) (h : TrOk w (trL .i (some ⟨b, off, none⟩) n)) (hn : n ≤ 8388608) (h0 : 0 ≤ s) (h1 : s ≤ 4611686018427387904) :
    Calls Tryz.prog 57 #[.slice (some ⟨b, off, none⟩) n cap, .int .i64 s] w fun e w' => e = .returned (.int .i64 (s + n)) ∧ mrk w s (trL .i (some ⟨b, off, none⟩) n) = w' := by
  have HH := hide h
  clear h
  go_enter Tryz.func57, Tryz.ntmps57
  go_wp2
  go_loopw [1, 5] (fun t i W => ∃ k : Nat, k ≤ n ∧ i = .int .i64 k ∧ t = .int .i64 (s + k) ∧ W = mrk w s (trL .i (some ⟨b, off, none⟩) k)) (fun _ i _ => n - (intOf i).toNat)
  case atStart => exact ⟨0, Nat.zero_le _, rfl, by simp, rfl⟩
  case round =>
    obtain ⟨k, hk, rfl, rfl, hW⟩ := hrel
    by_cases hlt : k < n
    · have hat := trL_at (HH.out.mrk (trL_take HH.out hk) s) hlt
      rw [← hW, Addr.add_lit] at hat
      obtain ⟨⟨z, hc⟩, hf⟩ := hat
      have HS : Hid (wr.setCell ⟨b, off + k, none⟩ (mkV .i (s + k)) = mrk w s (trL .i (some ⟨b, off, none⟩) (k + 1))) := by
        unfold Hid
        rw [trL_snoc, mrk_snoc, trL_len, ← hW, Addr.add_lit]
      unfold mkV at HS
      clear hW
      go_wp2
      go_roundw
      case rel => exact ⟨k + 1, by omega, by go_num, by go_num, HS.out⟩
      case measure => simp [intOf]; omega
    · go_wp2
      go_ret
      have hkn : k = n := by omega
      subst hkn
      exact ⟨rfl, by first | rfl | exact hW.symm⟩

end Go.Proofs.YtalkhnhhaiigiaaGreatDoor

namespace Go.Proofs.YtalkhnhhaiigiaaGreatDoor
open Go.RowKit

/-- Every address of a trail holds its mark. -/
def Holds (w : World) (s : Int) (l : List (Addr × Kd)) : Prop := ∀ (j : Nat) (y : Addr × Kd), l[j]? = some y → w.cell? y.1 = some (mkV y.2 (s + j))
theorem Holds.left {w : World} {s : Int} {l1 l2 : List (Addr × Kd)} (h : Holds w s (l1 ++ l2)) : Holds w s l1 := fun j y hj => h j y (by rw [List.getElem?_append_left (List.getElem?_eq_some_iff.1 hj).1]; exact hj)
theorem Holds.right {w : World} {s : Int} {l1 l2 : List (Addr × Kd)} (h : Holds w s (l1 ++ l2)) : Holds w (s + l1.length) l2 := fun j y hj => by
  have := h (l1.length + j) y (by rw [List.getElem?_append_right (by omega)]; simpa using hj)
  rw [this]
  congr 2
  omega
/-- A mark holds, if its trail visits no address twice. -/
theorem mrk_holds {w : World} {s : Int} {l : List (Addr × Kd)} (h : TrOk w l) (hn : (l.map (·.1)).Nodup) : Holds (mrk w s l) s l := fun j y hj =>
  mrk_at l w s j y hn hj (h y (List.mem_of_getElem? hj)).1.isS
theorem trL_get (q : Kd) (a : Addr) (n k : Nat) (h : k < n) : (trL q (some a) n)[k]? = some (a.add k, q) := by simp [trL, h]

set_option maxHeartbeats 1000000 in
set_option maxRecDepth 100000 in
theorem heldByteS_tr (b off n cap : Nat) (s : Int) (w : World) (h : Holds w s (trL .b (some ⟨b, off, none⟩) n)) (hn : n ≤ 8388608) (h0 : 0 ≤ s) (h1 : s ≤ 4611686018427387904) :
    Calls Tryz.prog 30 #[.slice (some ⟨b, off, none⟩) n cap, .int .i64 s] w fun e w' => e = .returned (.int .i64 (s + n)) ∧ w = w' := by
  have HH := hide h
  clear h
  go_enter Tryz.func30, Tryz.ntmps30
  go_wp2
  go_loopw [1, 5] (fun t i W => ∃ k : Nat, k ≤ n ∧ i = .int .i64 k ∧ t = .int .i64 (s + k) ∧ w = W) (fun _ i _ => n - (intOf i).toNat)
  case atStart => exact ⟨0, Nat.zero_le _, rfl, by simp, rfl⟩
  case round =>
    obtain ⟨k, hk, rfl, rfl, rfl⟩ := hrel
    by_cases hlt : k < n
    · have hc := HH.out k _ (trL_get .b _ n k hlt)
      rw [Addr.add_lit] at hc
      unfold mkV at hc
      simp only at hc
      have hne : ((s + (k : Int)) % 256 != (s + (k : Int)) % 256) = false := by simp
      go_wp2
      go_roundw
      case rel => exact ⟨k + 1, by omega, by go_num, by go_num, trivial⟩
      case measure => simp [intOf]; omega
    · go_wp2
      go_ret
      have hkn : k = n := by omega
      subst hkn
      exact ⟨rfl, rfl⟩

end Go.Proofs.YtalkhnhhaiigiaaGreatDoor

namespace Go.Proofs.YtalkhnhhaiigiaaGreatDoor
open Go.RowKit

/-- A list in memory: where it lies, how long it is, how long it may grow. -/
abbrev Lis := Option Addr × Nat × Nat
def Lis.v (x : Lis) : Value := .slice x.1 x.2.1 x.2.2
/-- A list that has elements lies somewhere. -/
def Lis.ok (x : Lis) : Prop := (x.2.1 = 0 ∨ ∃ b off, x.1 = some ⟨b, off, none⟩) ∧ x.2.1 ≤ 1048576
theorem trL_zero (q : Kd) (a : Option Addr) : trL q a 0 = [] := by cases a <;> simp [trL]

set_option maxHeartbeats 1000000 in
set_option maxRecDepth 100000 in
theorem markByteS_lis (x : Lis) (s : Int) (w : World) (hx : Lis.ok x) (h : TrOk w (trL .b x.1 x.2.1)) (h0 : 0 ≤ s) (h1 : s ≤ 4611686018427387904) :
    Calls Tryz.prog 29 #[x.v, .int .i64 s] w fun e w' => e = .returned (.int .i64 (s + x.2.1)) ∧ mrk w s (trL .b x.1 x.2.1) = w' := by
  obtain ⟨a, n, cap⟩ := x
  obtain ⟨hx, hn⟩ := hx
  simp only [Lis.v] at *
  rcases hx with rfl | ⟨b, off, rfl⟩
  · rw [trL_zero]
    clear h
    go_enter Tryz.func29, Tryz.ntmps29
    go_wp2
    refine wp_loop_rounds 1 ?_
    rw [rounds_succ]
    go_wp2
    go_ret
    exact ⟨by simp, rfl⟩
  · exact markByteS_tr b off n cap s w h (by omega) h0 h1
set_option maxHeartbeats 1000000 in
set_option maxRecDepth 100000 in
theorem markIntS_lis (x : Lis) (s : Int) (w : World) (hx : Lis.ok x) (h : TrOk w (trL .i x.1 x.2.1)) (h0 : 0 ≤ s) (h1 : s ≤ 4611686018427387904) :
    Calls Tryz.prog 57 #[x.v, .int .i64 s] w fun e w' => e = .returned (.int .i64 (s + x.2.1)) ∧ mrk w s (trL .i x.1 x.2.1) = w' := by
  obtain ⟨a, n, cap⟩ := x
  obtain ⟨hx, hn⟩ := hx
  simp only [Lis.v] at *
  rcases hx with rfl | ⟨b, off, rfl⟩
  · rw [trL_zero]
    clear h
    go_enter Tryz.func57, Tryz.ntmps57
    go_wp2
    refine wp_loop_rounds 1 ?_
    rw [rounds_succ]
    go_wp2
    go_ret
    exact ⟨by simp, rfl⟩
  · exact markIntS_tr b off n cap s w h (by omega) h0 h1

/-- The trail of comments. -/
def trC (b : Nat) : Nat → List Lis → List (Addr × Kd)
  | _, [] => []
  | off, x :: xs => (⟨b, off, none⟩, .o) :: (trL .b x.1 x.2.1 ++ trC b (off + 2) xs)
theorem trC_take (b : Nat) : ∀ (xs : List Lis) (off k : Nat) (hk : k < xs.length), trC b off (xs.take (k + 1)) = trC b off (xs.take k) ++ [(⟨b, off + k * 2, none⟩, .o)] ++ trL .b xs[k].1 xs[k].2.1
  | x :: xs, off, 0, _ => by simp [trC]
  | x :: xs, off, k + 1, hk => by
    have ih := trC_take b xs (off + 2) k (by simpa using hk)
    simp only [List.take_succ_cons, trC, ih, List.getElem_cons_succ, List.cons_append, List.append_assoc]
    rw [show off + 2 + k * 2 = off + (k + 1) * 2 by omega]
theorem trC_sub (b : Nat) (xs : List Lis) (off k : Nat) : ∀ y ∈ trC b off (xs.take k), y ∈ trC b off xs := by
  induction xs generalizing off k with
  | nil => simp
  | cons x xs ih =>
    cases k with
    | zero => simp [trC]
    | succ k =>
      intro y hy
      simp only [List.take_succ_cons, trC, List.mem_cons, List.mem_append] at hy ⊢
      rcases hy with h | h | h
      · exact .inl h
      · exact .inr (.inl h)
      · exact .inr (.inr (ih (off + 2) k y h))
end Go.Proofs.YtalkhnhhaiigiaaGreatDoor

namespace Go.Proofs.YtalkhnhhaiigiaaGreatDoor
open Go.RowKit

/-- Comments in memory: the texts' slices. -/
def ShC (w : World) (b off : Nat) (xs : List Lis) : Prop := ∀ (j : Nat) (x : Lis), xs[j]? = some x → w.cell? ⟨b, off + j * 2 + 1, none⟩ = some x.v ∧ x.ok

theorem trL_lis (q : Kd) (x : Lis) (h : x.ok) : (trL q x.1 x.2.1).length = x.2.1 := by
  rcases h.1 with h | ⟨b, off, h⟩
  · rw [h, trL_zero]; rfl
  · rw [h, trL_len]
theorem trC_le (b : Nat) : ∀ (xs : List Lis) (off k : Nat), (trC b off (xs.take k)).length ≤ (trC b off xs).length
  | [], off, k => by simp
  | x :: xs, off, 0 => by simp [trC]
  | x :: xs, off, k + 1 => by
    have := trC_le b xs (off + 2) k
    simp only [List.take_succ_cons, trC, List.length_cons, List.length_append]
    omega

set_option maxHeartbeats 4000000 in
set_option maxRecDepth 100000 in
theorem markCommentS_tr (b off cap : Nat) (xs : List Lis) (s : Int) (w : World) (h : TrOk w (trC b off xs)) (hs : ShC w b off xs) (hn : xs.length ≤ 1048576) (h0 : 0 ≤ s) (h1 : s + (trC b off xs).length ≤ 4611686018427387904) :
    Calls Tryz.prog 28 #[.slice (some ⟨b, off, none⟩) xs.length cap, .int .i64 s] w fun e w' => e = .returned (.int .i64 (s + (trC b off xs).length)) ∧ mrk w s (trC b off xs) = w' := by
  have HH := hide h
  have HS := hide hs
  clear h hs
  go_enter Tryz.func28, Tryz.ntmps28
  go_wp2
  go_loopw [1, 5] (fun t i W => ∃ k : Nat, k ≤ xs.length ∧ i = .int .i64 k ∧ t = .int .i64 (s + (trC b off (xs.take k)).length) ∧ W = mrk w s (trC b off (xs.take k))) (fun _ i _ => xs.length - (intOf i).toNat)
  case atStart => exact ⟨0, Nat.zero_le _, rfl, by simp [trC], by simp [trC, mrk]⟩
  case round =>
    obtain ⟨k, hk, rfl, rfl, hW⟩ := hrel
    by_cases hlt : k < xs.length
    · have ht := trC_take b xs off k hlt
      have hin : ∀ y ∈ trC b off (xs.take (k + 1)), y ∈ trC b off xs := trC_sub b xs off (k + 1)
      have ok0 : TrOk w (trC b off (xs.take k)) := fun y hy => HH.out y (trC_sub b xs off k y hy)
      have ok1 : TrOk w (trC b off (xs.take k) ++ [(⟨b, off + k * 2, none⟩, .o)]) := fun y hy => HH.out y (hin y (by rw [ht]; exact List.mem_append_left _ hy))
      have ok2 : TrOk w (trL .b xs[k].1 xs[k].2.1) := fun y hy => HH.out y (hin y (by rw [ht]; exact List.mem_append_right _ hy))
      obtain ⟨hcs, hxo⟩ := HS.out k xs[k] (by simp [hlt])
      have hbool : KdAt wr ⟨b, off + k * 2, none⟩ .o ∧ wr.frozen? ⟨b, off + k * 2, none⟩ = false := by
        have hy := ok1 (⟨b, off + k * 2, none⟩, .o) (by simp)
        rw [hW]
        exact ⟨mrk_kind _ _ _ _ _ ok0 hy.1, by rw [mrk_frozen]; exact hy.2⟩
      obtain ⟨⟨tb, hcb⟩, hfb⟩ := hbool
      have hlen := trC_le b xs off (k + 1)
      rw [ht, List.length_append, List.length_append, List.length_singleton, trL_lis _ _ hxo] at hlen
      have hcw := mrk_slice (s := s) ok0 hcs
      rw [← hW] at hcw
      have HE : Hid (mrk (wr.setCell ⟨b, off + k * 2, none⟩ (mkV .o (s + (trC b off (xs.take k)).length))) (s + (trC b off (xs.take k)).length + 1) (trL .b xs[k].1 xs[k].2.1) = mrk w s (trC b off (xs.take (k + 1)))) := by
        unfold Hid
        rw [ht, mrk_app, mrk_snoc, ← hW]
        congr 1
        simp; omega
      have HO : Hid (TrOk (wr.setCell ⟨b, off + k * 2, none⟩ (mkV .o (s + (trC b off (xs.take k)).length))) (trL .b xs[k].1 xs[k].2.1)) := by
        unfold Hid
        rw [hW, ← mrk_snoc]
        exact ok2.mrk ok1 s
      have HL : Hid (s + (trC b off (xs.take k)).length + 1 + xs[k].2.1 = s + (trC b off (xs.take (k + 1))).length) := by
        unfold Hid
        rw [ht, List.length_append, List.length_append, List.length_singleton, trL_lis _ _ hxo]
        omega
      have HX := hide hxo
      clear ht hin ok0 ok1 ok2 hcs hW hxo
      generalize xs[k] = x at *
      obtain ⟨xa, xn, xc⟩ := x
      simp only at hlen HE HO HL
      have hT0 : 0 ≤ s + ((trC b off (xs.take k)).length : Int) := by omega
      have hT1 : s + ((trC b off (xs.take k)).length : Int) + 1 + xn ≤ 4611686018427387904 := by omega
      generalize s + ((trC b off (xs.take k)).length : Int) = T at *
      have HM := hide (markByteS_lis (xa, xn, xc) (T + 1) (wr.setCell ⟨b, off + k * 2, none⟩ (mkV .o T)) HX.out HO.out (by omega) (by omega))
      have hmk : mkV .o T = .bool (T % 3 == 0) := rfl
      rw [hmk] at HM HE
      clear hlen HO hmk
      go_wp2_with fail
      refine HM.out.mono ?_
      rintro e w2 ⟨rfl, rfl⟩
      rw [HE.out]
      go_wp2
      go_roundw
      case rel => exact ⟨k + 1, by omega, by go_num, by rw [← HL.out], rfl⟩
      case measure => simp [intOf]; omega
    · go_wp2
      go_ret
      have hkn : k = xs.length := by omega
      subst hkn
      rw [List.take_length] at *
      exact ⟨rfl, by first | rfl | exact hW.symm⟩
end Go.Proofs.YtalkhnhhaiigiaaGreatDoor

namespace Go.Proofs.YtalkhnhhaiigiaaGreatDoor
open Go.RowKit

/-- Comments in memory: where they lie, their texts, how many more may be. -/
abbrev Lcs := Option Addr × List Lis × Nat
def Lcs.v (x : Lcs) : Value := .slice x.1 x.2.1.length x.2.2
def trK : Lcs → List (Addr × Kd)
  | (none, _, _) => []
  | (some a, xs, _) => trC a.block a.off xs
def Lcs.ok (w : World) (x : Lcs) : Prop := (x.2.1 = [] ∨ ∃ b off, x.1 = some ⟨b, off, none⟩ ∧ ShC w b off x.2.1) ∧ x.2.1.length ≤ 1048576
theorem trK_nil (a : Option Addr) (c : Nat) : trK (a, [], c) = [] := by cases a <;> rfl
theorem ShC.mrk {w : World} {b off : Nat} {xs : List Lis} {l : List (Addr × Kd)} (h : ShC w b off xs) (hl : TrOk w l) (s : Int) : ShC (mrk w s l) b off xs := fun j x hj => ⟨mrk_slice hl (h j x hj).1, (h j x hj).2⟩
theorem Lcs.ok.mrk {w : World} {x : Lcs} {l : List (Addr × Kd)} (h : Lcs.ok w x) (hl : TrOk w l) (s : Int) : Lcs.ok (mrk w s l) x := by
  obtain ⟨h1, h2⟩ := h
  refine ⟨?_, h2⟩
  rcases h1 with h | ⟨b, off, h, h'⟩
  · exact .inl h
  · exact .inr ⟨b, off, h, h'.mrk hl s⟩

set_option maxHeartbeats 1000000 in
set_option maxRecDepth 100000 in
theorem markCommentS_lis (x : Lcs) (s : Int) (w : World) (hx : Lcs.ok w x) (h : TrOk w (trK x)) (h0 : 0 ≤ s) (h1 : s + (trK x).length ≤ 4611686018427387904) :
    Calls Tryz.prog 28 #[x.v, .int .i64 s] w fun e w' => e = .returned (.int .i64 (s + (trK x).length)) ∧ mrk w s (trK x) = w' := by
  obtain ⟨a, xs, cap⟩ := x
  obtain ⟨hx, hn⟩ := hx
  simp only [Lcs.v] at *
  rcases hx with rfl | ⟨b, off, rfl, hsh⟩
  · rw [trK_nil]
    clear h h1
    simp only [List.length_nil]
    go_enter Tryz.func28, Tryz.ntmps28
    go_wp2
    refine wp_loop_rounds 1 ?_
    rw [rounds_succ]
    go_wp2
    go_ret
    exact ⟨by simp, rfl⟩
  · exact markCommentS_tr b off cap xs s w h hsh hn h0 h1

/-- A node in memory. -/
structure Nsh where
  lead : Lcs
  key : Lis
  text : Lis
  units : Lis
  tail : Lcs
def trN (b o : Nat) (n : Nsh) : List (Addr × Kd) :=
  [(⟨b, o, none⟩, .i)] ++ (trK n.lead ++ ([(⟨b, o + 2, none⟩, .o)] ++ (trL .i n.key.1 n.key.2.1 ++ (trL .b n.text.1 n.text.2.1 ++ (trL .i n.units.1 n.units.2.1 ++ ([(⟨b, o + 6, none⟩, .i)] ++ trK n.tail))))))
def trNs (b : Nat) : Nat → List Nsh → List (Addr × Kd)
  | _, [] => []
  | off, n :: ns => trN b off n ++ trNs b (off + 8) ns
theorem trNs_take (b : Nat) : ∀ (ns : List Nsh) (off k : Nat) (hk : k < ns.length), trNs b off (ns.take (k + 1)) = trNs b off (ns.take k) ++ trN b (off + k * 8) ns[k]
  | x :: xs, off, 0, _ => by simp [trNs]
  | x :: xs, off, k + 1, hk => by
    have ih := trNs_take b xs (off + 8) k (by simpa using hk)
    simp only [List.take_succ_cons, trNs, ih, List.getElem_cons_succ, List.append_assoc]
    rw [show off + 8 + k * 8 = off + (k + 1) * 8 by omega]
theorem trNs_pre (b : Nat) : ∀ (ns : List Nsh) (off k : Nat), ∃ r, trNs b off ns = trNs b off (ns.take k) ++ r
  | [], off, k => ⟨[], by simp [trNs]⟩
  | x :: xs, off, 0 => ⟨_, by simp [trNs]; rfl⟩
  | x :: xs, off, k + 1 => by
    obtain ⟨r, hr⟩ := trNs_pre b xs (off + 8) k
    exact ⟨r, by simp only [List.take_succ_cons, trNs, List.append_assoc]; rw [hr]⟩
/-- A node's cells and what they point at. -/
structure ShN (w : World) (b o : Nat) (n : Nsh) : Prop where
  lead : w.cell? ⟨b, o + 1, none⟩ = some n.lead.v
  key : w.cell? ⟨b, o + 3, none⟩ = some n.key.v
  text : w.cell? ⟨b, o + 4, none⟩ = some n.text.v
  units : w.cell? ⟨b, o + 5, none⟩ = some n.units.v
  tail : w.cell? ⟨b, o + 7, none⟩ = some n.tail.v
  okl : Lcs.ok w n.lead
  okk : n.key.ok
  okx : n.text.ok
  oku : n.units.ok
  okt : Lcs.ok w n.tail
theorem ShN.mrk {w : World} {b o : Nat} {n : Nsh} {l : List (Addr × Kd)} (h : ShN w b o n) (hl : TrOk w l) (s : Int) : ShN (mrk w s l) b o n :=
  ⟨mrk_slice hl h.lead, mrk_slice hl h.key, mrk_slice hl h.text, mrk_slice hl h.units, mrk_slice hl h.tail, h.okl.mrk hl s, h.okk, h.okx, h.oku, h.okt.mrk hl s⟩
end Go.Proofs.YtalkhnhhaiigiaaGreatDoor

