import Derived.Test.YtalkhnhhaiigiaaGreatDoorMBS
import Derived.Test.YtalkhnhhaiigiaaGreatDoorMBT
namespace Go.Proofs.YtalkhnhhaiigiaaGreatDoor
open Go.RowKit

theorem Holds.head {w : World} {s : Int} {a : Addr} {q : Kd} {l : List (Addr × Kd)} (h : Holds w s ([(a, q)] ++ l)) : w.cell? a = some (mkV q s) ∧ Holds w (s + 1) l :=
  ⟨by have := h 0 (a, q) rfl; simpa using this, by have := h.right; simpa using this⟩
theorem Holds.lis {w : World} {s : Int} {q : Kd} {x : Lis} {l : List (Addr × Kd)} (hx : x.ok) (h : Holds w s (trL q x.1 x.2.1 ++ l)) : Holds w s (trL q x.1 x.2.1) ∧ Holds w (s + x.2.1) l :=
  ⟨h.left, by have := h.right; rw [trL_lis q x hx] at this; exact this⟩

set_option maxHeartbeats 1000000 in
set_option maxRecDepth 100000 in
theorem heldByteS_lis (x : Lis) (s : Int) (w : World) (hx : Lis.ok x) (h : Holds w s (trL .b x.1 x.2.1)) (h0 : 0 ≤ s) (h1 : s ≤ 4611686018427387904) :
    Calls Tryz.prog 30 #[.slice x.1 x.2.1 x.2.2, .int .i64 s] w fun e w' => e = .returned (.int .i64 (s + x.2.1)) ∧ w = w' := by
  obtain ⟨a, n, cap⟩ := x
  obtain ⟨hx, hn⟩ := hx
  simp only at *
  rcases hx with rfl | ⟨b, off, rfl⟩
  · clear h
    go_enter Tryz.func30, Tryz.ntmps30
    go_wp2
    refine wp_loop_rounds 1 ?_
    rw [rounds_succ]
    go_wp2
    go_ret
    exact ⟨by simp, rfl⟩
  · exact heldByteS_tr b off n cap s w h (by omega) h0 h1

/-- The trail of elements. -/
def trPs (b : Nat) : Nat → List Lis → List (Addr × Kd)
  | _, [] => []
  | off, x :: xs => [(⟨b, off, none⟩, .i)] ++ (trL .b x.1 x.2.1 ++ ([(⟨b, off + 2, none⟩, .i)] ++ trPs b (off + 3) xs))
theorem trPs_take (b : Nat) : ∀ (xs : List Lis) (off k : Nat) (hk : k < xs.length), trPs b off (xs.take (k + 1)) = trPs b off (xs.take k) ++ ([(⟨b, off + k * 3, none⟩, .i)] ++ (trL .b xs[k].1 xs[k].2.1 ++ [(⟨b, off + k * 3 + 2, none⟩, .i)]))
  | x :: xs, off, 0, _ => by simp [trPs]
  | x :: xs, off, k + 1, hk => by
    have ih := trPs_take b xs (off + 3) k (by simpa using hk)
    simp only [List.take_succ_cons, trPs, ih, List.getElem_cons_succ, List.cons_append, List.append_assoc]
    rw [show off + 3 + k * 3 = off + (k + 1) * 3 by omega]
theorem trPs_pre (b : Nat) : ∀ (xs : List Lis) (off k : Nat), ∃ r, trPs b off xs = trPs b off (xs.take k) ++ r
  | [], off, k => ⟨[], by simp [trPs]⟩
  | x :: xs, off, 0 => ⟨_, by simp only [List.take_zero, trPs, List.nil_append]; rfl⟩
  | x :: xs, off, k + 1 => by
    obtain ⟨r, hr⟩ := trPs_pre b xs (off + 3) k
    exact ⟨r, by simp only [List.take_succ_cons, trPs]; rw [hr]; simp only [List.append_assoc]⟩
/-- Elements in memory: the texts' slices. -/
def ShP (w : World) (b off : Nat) (xs : List Lis) : Prop := ∀ (j : Nat) (x : Lis), xs[j]? = some x → w.cell? ⟨b, off + j * 3 + 1, none⟩ = some (.slice x.1 x.2.1 x.2.2) ∧ x.ok
theorem ShP.mrk {w : World} {b off : Nat} {xs : List Lis} {l : List (Addr × Kd)} (h : ShP w b off xs) (hl : TrOk w l) (s : Int) : ShP (mrk w s l) b off xs := fun j x hj => ⟨mrk_slice hl (h j x hj).1, (h j x hj).2⟩
theorem ShP.grown {w w' : World} {b off : Nat} {xs : List Lis} (h : ShP w b off xs) (g : w.grownBy w' none) : ShP w' b off xs := fun j x hj => ⟨g.cell (h j x hj).1 (by simp), (h j x hj).2⟩

set_option maxHeartbeats 4000000 in
set_option maxRecDepth 100000 in
theorem markPieceS_tr (b off cap : Nat) (xs : List Lis) (s : Int) (w : World) (h : TrOk w (trPs b off xs)) (hs : ShP w b off xs) (hn : xs.length ≤ 1048576) (h0 : 0 ≤ s) (h1 : s + (trPs b off xs).length ≤ 4611686018427387904) :
    Calls Tryz.prog 11 #[.slice (some ⟨b, off, none⟩) xs.length cap, .int .i64 s] w fun e w' => e = .returned (.int .i64 (s + (trPs b off xs).length)) ∧ mrk w s (trPs b off xs) = w' := by
  have HH := hide h
  have HS := hide hs
  clear h hs
  go_enter Tryz.func11, Tryz.ntmps11
  go_wp2
  go_loopw [1, 5] (fun t i W => ∃ k : Nat, k ≤ xs.length ∧ i = .int .i64 k ∧ t = .int .i64 (s + (trPs b off (xs.take k)).length) ∧ W = mrk w s (trPs b off (xs.take k))) (fun _ i _ => xs.length - (intOf i).toNat)
  case atStart => exact ⟨0, Nat.zero_le _, rfl, by simp [trPs], by simp [trPs, mrk]⟩
  case round =>
    obtain ⟨k, hk, rfl, rfl, hW⟩ := hrel
    by_cases hlt : k < xs.length
    · have ht := trPs_take b xs off k hlt
      obtain ⟨r, hr⟩ := trPs_pre b xs off (k + 1)
      have okA : TrOk w (trPs b off (xs.take (k + 1))) := fun y hy => HH.out y (by rw [hr]; exact List.mem_append_left _ hy)
      have hlen : (trPs b off (xs.take (k + 1))).length ≤ (trPs b off xs).length := by rw [hr, List.length_append]; omega
      obtain ⟨hcs, hxo⟩ := HS.out k xs[k] (by simp [hlt])
      rw [ht] at okA hlen
      have ok0 : TrOk w (trPs b off (xs.take k)) := okA.left
      have ok1 := (okA.right.left).mrk ok0 s
      have ok2 := (okA.right.right.left).mrk ok0 s
      have ok3 := (okA.right.right.right).mrk ok0 s
      rw [← hW] at ok1 ok2 ok3
      have hcw := mrk_slice (s := s) ok0 hcs
      rw [← hW] at hcw
      have HE : Hid (mrk wr (s + (trPs b off (xs.take k)).length) ([(⟨b, off + k * 3, none⟩, .i)] ++ (trL .b xs[k].1 xs[k].2.1 ++ [(⟨b, off + k * 3 + 2, none⟩, .i)])) = mrk w s (trPs b off (xs.take (k + 1)))) := by
        unfold Hid
        rw [ht, mrk_app (trPs b off (xs.take k)), ← hW]
      have hlx := trL_lis .b _ hxo
      have HL : Hid (s + (trPs b off (xs.take k)).length + 1 + xs[k].2.1 + 1 = s + (trPs b off (xs.take (k + 1))).length) := by
        unfold Hid
        rw [ht]
        simp only [List.length_append, List.length_singleton, hlx]
        omega
      simp only [List.length_append, List.length_singleton, hlx] at hlen
      have HX := hide hxo
      clear ht hr okA ok0 hcs hW
      generalize xs[k] = x at *
      obtain ⟨xa, xn, xc⟩ := x
      simp only at hlen HE HL hlx hcw hxo ok2
      have hT0 : 0 ≤ s + ((trPs b off (xs.take k)).length : Int) := by omega
      have hT1 : s + ((trPs b off (xs.take k)).length : Int) + 2 + xn ≤ 4611686018427387904 := by omega
      generalize s + ((trPs b off (xs.take k)).length : Int) = T at *
      rw [mrk_app, mrk_app, hlx] at HE
      simp only [mrk, List.length_singleton] at HE
      obtain ⟨⟨z0, hc0⟩, hf0⟩ := ok1 (⟨b, off + k * 3, none⟩, .i) (by simp)
      have okA : TrOk wr [(⟨b, off + k * 3, none⟩, .i)] := ok1
      have p2 := ok2.mrk okA T
      have p3 := ok3.mrk okA T
      have c2 := mrk_slice (s := T) okA hcw
      simp only [mrk] at p2 p3 c2
      have q3 := p3.mrk p2 (T + 1)
      obtain ⟨⟨z2, hc2⟩, hf2⟩ := q3 (⟨b, off + k * 3 + 2, none⟩, .i) (by simp)
      have HM := hide (markByteS_lis (xa, xn, xc) (T + 1) (wr.setCell ⟨b, off + k * 3, none⟩ (mkV .i T)) hxo p2 (by omega) (by omega))
      simp only [Lis.v] at HM
      simp only at hc2 hf2 hc0 hf0
      have HF : Hid ((mrk (wr.setCell ⟨b, off + k * 3, none⟩ (mkV .i T)) (T + 1) (trL .b xa xn)).cell? ⟨b, off + k * 3 + 1, none⟩ = some (.slice xa xn xc)) := mrk_slice p2 c2
      have hmk : mkV .i T = .int .i64 T := rfl
      have hmk2 : mkV .i (T + 1 + xn) = .int .i64 (T + 1 + xn) := rfl
      have e1 : ((1 : Nat) : Int) = 1 := rfl
      rw [e1, hmk, hmk2] at HE
      rw [hmk] at HM HF hc2 hf2 c2
      have HF2 := HF.out
      clear hlen hmk hmk2 ok1 ok2 ok3 okA p2 p3 q3 hlx hxo HF
      go_wp2_with fail
      refine HM.out.mono ?_
      rintro e w2 ⟨rfl, hw2⟩
      rw [hw2] at HE hc2 hf2 HF2
      clear hw2 HM
      go_wp2
      rw [HE.out]
      go_roundw
      case rel => exact ⟨k + 1, by omega, by go_num, by rw [← HL.out], rfl⟩
      case measure => simp [intOf]; omega
    · go_wp2
      go_ret
      have hkn : k = xs.length := by omega
      subst hkn
      rw [List.take_length] at *
      exact ⟨rfl, by first | rfl | exact hW.symm⟩

set_option maxHeartbeats 8000000 in
set_option maxRecDepth 100000 in
theorem heldPieceS_tr (b off cap : Nat) (xs : List Lis) (s : Int) (w : World) (h : Holds w s (trPs b off xs)) (hs : ShP w b off xs) (hn : xs.length ≤ 1048576) (h0 : 0 ≤ s) (h1 : s + (trPs b off xs).length ≤ 4611686018427387904) :
    Calls Tryz.prog 12 #[.slice (some ⟨b, off, none⟩) xs.length cap, .int .i64 s] w fun e w' => e = .returned (.int .i64 (s + (trPs b off xs).length)) ∧ w = w' := by
  have HH := hide h
  have HS := hide hs
  clear h hs
  go_enter Tryz.func12, Tryz.ntmps12
  go_wp2
  go_loopw [1, 5] (fun t i W => ∃ k : Nat, k ≤ xs.length ∧ i = .int .i64 k ∧ t = .int .i64 (s + (trPs b off (xs.take k)).length) ∧ w = W) (fun _ i _ => xs.length - (intOf i).toNat)
  case atStart => exact ⟨0, Nat.zero_le _, rfl, by simp [trPs], rfl⟩
  case round =>
    obtain ⟨k, hk, rfl, rfl, rfl⟩ := hrel
    by_cases hlt : k < xs.length
    · have ht := trPs_take b xs off k hlt
      obtain ⟨r, hr⟩ := trPs_pre b xs off (k + 1)
      have hN : Holds w (s + (trPs b off (xs.take k)).length) ([(⟨b, off + k * 3, none⟩, .i)] ++ (trL .b xs[k].1 xs[k].2.1 ++ [(⟨b, off + k * 3 + 2, none⟩, .i)])) := by
        rw [hr, ht] at HH; exact HH.out.left.right
      have hlen : (trPs b off (xs.take (k + 1))).length ≤ (trPs b off xs).length := by rw [hr, List.length_append]; omega
      obtain ⟨hcs, hxo⟩ := HS.out k xs[k] (by simp [hlt])
      have hlx := trL_lis .b _ hxo
      have HL : Hid (s + (trPs b off (xs.take k)).length + 1 + xs[k].2.1 + 1 = s + (trPs b off (xs.take (k + 1))).length) := by
        unfold Hid
        rw [ht]
        simp only [List.length_append, List.length_singleton, hlx]
        omega
      have hL := HL.out
      clear ht hr
      generalize xs[k] = x at *
      obtain ⟨xa, xn, xc⟩ := x
      simp only at HL hlx hcs hxo hN hL
      have hT0 : 0 ≤ s + ((trPs b off (xs.take k)).length : Int) := by omega
      have hT1 : s + ((trPs b off (xs.take k)).length : Int) + 2 + xn ≤ 4611686018427387904 := by omega
      generalize s + ((trPs b off (xs.take k)).length : Int) = T at *
      obtain ⟨z0, hN⟩ := hN.head
      obtain ⟨hX, hN⟩ := Holds.lis (x := (xa, xn, xc)) hxo hN
      have z2 := hN 0 _ rfl
      simp only at z2 hX hN
      have HA := hide (heldByteS_lis (xa, xn, xc) (T + 1) w hxo hX (by omega) (by omega))
      simp only [mkV] at z0 z2
      have e0 : T + 1 + (xn : Int) + ((0 : Nat) : Int) = T + 1 + xn := by simp
      rw [e0] at z2
      clear hX hN hlen hlx hL hxo e0
      have q0 : (T != T) = false := by simp
      have q1 : ((T + 1 + (xn : Int)) != (T + 1 + (xn : Int))) = false := by simp
      have q2 : ¬ (T + 1 + (xn : Int)) < 0 := by omega
      go_wp2_with fail
      refine HA.out.mono ?_
      rintro e w1 ⟨rfl, rfl⟩
      go_wp2
      go_roundw
      case rel => exact ⟨k + 1, by omega, by go_num, by rw [← HL.out], trivial⟩
      case measure => simp [intOf]; omega
    · go_wp2
      go_ret
      have hkn : k = xs.length := by omega
      subst hkn
      rw [List.take_length]
      exact ⟨rfl, rfl⟩
end Go.Proofs.YtalkhnhhaiigiaaGreatDoor

namespace Go.Proofs.YtalkhnhhaiigiaaGreatDoor
open Go.RowKit

/-- A document in memory: where its row lies, its texts' lists. -/
abbrev Lps := Option Addr × List Lis × Nat
def Lps.v (x : Lps) : Value := .slice x.1 x.2.1.length x.2.2
def trQ : Lps → List (Addr × Kd)
  | (none, _, _) => []
  | (some a, xs, _) => trPs a.block a.off xs
def Lps.ok (w : World) (x : Lps) : Prop := (x.2.1 = [] ∨ ∃ b off, x.1 = some ⟨b, off, none⟩ ∧ ShP w b off x.2.1) ∧ x.2.1.length ≤ 1048576
theorem trQ_nil (a : Option Addr) (c : Nat) : trQ (a, [], c) = [] := by cases a <;> rfl
theorem Lps.ok.mrk {w : World} {x : Lps} {l : List (Addr × Kd)} (h : Lps.ok w x) (hl : TrOk w l) (s : Int) : Lps.ok (mrk w s l) x := by
  obtain ⟨h1, h2⟩ := h
  refine ⟨?_, h2⟩
  rcases h1 with h | ⟨b, off, h, h'⟩
  · exact .inl h
  · exact .inr ⟨b, off, h, h'.mrk hl s⟩
theorem trPs_le (b : Nat) : ∀ (xs : List Lis) (off : Nat), (∀ x ∈ xs, x.2.1 ≤ 1048576) → (trPs b off xs).length ≤ xs.length * 1048578
  | [], _, _ => by simp [trPs]
  | x :: xs, off, h => by
    have h1 := h x (by simp)
    have h2 := trL_le .b x.1 x.2.1
    have ih := trPs_le b xs (off + 3) (fun y hy => h y (by simp [hy]))
    simp only [trPs, List.length_cons, List.length_append, List.length_nil]
    omega
theorem trQ_le {w : World} {x : Lps} (h : Lps.ok w x) : (trQ x).length ≤ 1100000000000 := by
  obtain ⟨a, xs, c⟩ := x
  obtain ⟨h1, h2⟩ := h
  simp only at h1 h2
  rcases h1 with rfl | ⟨b, off, rfl, hs⟩
  · rw [trQ_nil]; simp
  · have := trPs_le b xs off (fun x hx => by
      obtain ⟨j, hj, rfl⟩ := List.getElem_of_mem hx
      exact (hs j _ (by simp [hj])).2.2)
    simp only [trQ]
    omega

set_option maxHeartbeats 1000000 in
set_option maxRecDepth 100000 in
theorem markPieceS_lis (x : Lps) (s : Int) (w : World) (hx : Lps.ok w x) (h : TrOk w (trQ x)) (h0 : 0 ≤ s) (h1 : s + (trQ x).length ≤ 4611686018427387904) :
    Calls Tryz.prog 11 #[x.v, .int .i64 s] w fun e w' => e = .returned (.int .i64 (s + (trQ x).length)) ∧ mrk w s (trQ x) = w' := by
  obtain ⟨a, xs, cap⟩ := x
  obtain ⟨hx, hn⟩ := hx
  simp only [Lps.v] at *
  rcases hx with rfl | ⟨b, off, rfl, hsh⟩
  · rw [trQ_nil]
    clear h h1
    simp only [List.length_nil]
    go_enter Tryz.func11, Tryz.ntmps11
    go_wp2
    refine wp_loop_rounds 1 ?_
    rw [rounds_succ]
    go_wp2
    go_ret
    exact ⟨by simp, rfl⟩
  · exact markPieceS_tr b off cap xs s w h hsh hn h0 h1
set_option maxHeartbeats 1000000 in
set_option maxRecDepth 100000 in
theorem heldPieceS_lis (x : Lps) (s : Int) (w : World) (hx : Lps.ok w x) (h : Holds w s (trQ x)) (h0 : 0 ≤ s) (h1 : s + (trQ x).length ≤ 4611686018427387904) :
    Calls Tryz.prog 12 #[x.v, .int .i64 s] w fun e w' => e = .returned (.int .i64 (s + (trQ x).length)) ∧ w = w' := by
  obtain ⟨a, xs, cap⟩ := x
  obtain ⟨hx, hn⟩ := hx
  simp only [Lps.v] at *
  rcases hx with rfl | ⟨b, off, rfl, hsh⟩
  · rw [trQ_nil]
    clear h h1
    simp only [List.length_nil]
    go_enter Tryz.func12, Tryz.ntmps12
    go_wp2
    refine wp_loop_rounds 1 ?_
    rw [rounds_succ]
    go_wp2
    go_ret
    exact ⟨by simp, rfl⟩
  · exact heldPieceS_tr b off cap xs s w h hsh hn h0 h1

theorem mrk_mkd0 {w : World} {s : Int} {l : List (Addr × Kd)} {B H : Nat} (hl : ∀ y ∈ l, B ≤ y.1.block ∧ y.1.block < H) : Mkd B H w (mrk w s l) := by
  obtain ⟨h1, h2, h3⟩ := mrk_same l w s
  exact ⟨h1, h2, h3, by rw [mrk_size]; simp, fun k hk _ => mrk_grown l w s B H hl k hk⟩
/-- A mark of a document of one's own, and what it leaves. -/
theorem markPieceS_own (x : Lps) (B H : Nat) (v : Value) (w : World) (hxv : x.v = v) (hx : Lps.ok w x) (h : TrOk w (trQ x)) (hnd : ((trQ x).map (·.1)).Nodup) (hl : ∀ z ∈ trQ x, B ≤ z.1.block ∧ z.1.block < H) :
    Calls Tryz.prog 11 #[v, .int .i64 1] w fun e w' => e = .returned (.int .i64 (1 + (trQ x).length)) ∧ Mkd B H w w' ∧ Hid (Calls Tryz.prog 12 #[v, .int .i64 1] w' fun e w'' => e = .returned (.int .i64 (1 + (trQ x).length)) ∧ w' = w'') := by
  have b1 := trQ_le hx
  subst hxv
  refine (markPieceS_lis x 1 w hx h (by omega) (by omega)).mono ?_
  rintro e w' ⟨rfl, rfl⟩
  exact ⟨rfl, mrk_mkd0 hl, heldPieceS_lis x 1 _ (hx.mrk h 1) (mrk_holds h hnd) (by omega) (by omega)⟩

theorem txO_lis {B : Nat} {w : World} {v : Value} {t : List Int} (h : TxO B w v t) (hn : t.length ≤ 1048576) :
    (lisOf v).ok ∧ v = .slice (lisOf v).1 (lisOf v).2.1 (lisOf v).2.2 ∧ TrIn w B (trL .b (lisOf v).1 (lisOf v).2.1) ∧ ((trL .b (lisOf v).1 (lisOf v).2.1).map (·.1)).Nodup ∧ ∀ y ∈ trL .b (lisOf v).1 (lisOf v).2.1, v.ownBlock = some y.1.block := by
  rcases h with ⟨rfl, rfl⟩ | ⟨g, cap, rfl, h1, h2, h3, h4, h5⟩
  · exact ⟨⟨.inl rfl, by simp [lisOf]⟩, rfl, fun y hy => by simp [lisOf, trL] at hy, by simp [lisOf, trL], fun y hy => by simp [lisOf, trL] at hy⟩
  · refine ⟨⟨.inr ⟨g, 0, rfl⟩, hn⟩, rfl, fun y hy => ?_, ?_, fun y hy => ?_⟩
    · obtain ⟨ad, j, ha, hj, rfl⟩ := trL_mem hy
      simp only [lisOf] at ha hj
      cases ha
      simp only [Addr.add_lit, Nat.zero_add]
      exact ⟨⟨⟨_, (h5 j hj).1⟩, (h5 j hj).2⟩, h3, h4⟩
    · simp only [lisOf, trL, List.map_map]
      unfold List.Nodup
      rw [List.pairwise_map]
      refine List.Pairwise.imp (fun {i j} hij e => hij ?_) (List.nodup_range (n := t.length))
      simp only [Function.comp, Addr.add_lit, Addr.mk.injEq] at e
      omega
    · obtain ⟨ad, j, ha, hj, rfl⟩ := trL_mem hy
      simp only [lisOf] at ha
      cases ha
      simp [Value.ownBlock, Addr.add_lit]
theorem nodup_app {l l' : List (Addr × Kd)} (h : (l.map (·.1)).Nodup) (h' : (l'.map (·.1)).Nodup) (ha : ∀ y ∈ l, ∀ z ∈ l', y.1 ≠ z.1) : ((l ++ l').map (·.1)).Nodup := by
  rw [List.map_append, List.nodup_append]
  refine ⟨h, h', fun a h1 b h2 => ?_⟩
  obtain ⟨y, hy, rfl⟩ := List.mem_map.1 h1
  obtain ⟨z, hz, rfl⟩ := List.mem_map.1 h2
  exact ha y hy z hz

/-- The trail of texts of one's own, the newer the later, in another block than the row. -/
theorem trPs_own {w : World} {H g : Nat} : ∀ (tvs : List Value) (off : Nat), (∀ tv ∈ tvs, ∃ t, TxO H w tv t ∧ t.length ≤ 1048576 ∧ ∀ x, tv.ownBlock = some x → g ≠ x) → Lat tvs →
    ((trPs g off (tvs.map lisOf)).map (·.1)).Nodup ∧ ∀ y ∈ trPs g off (tvs.map lisOf), (y.1.block = g ∧ off ≤ y.1.off) ∨ ∃ tv ∈ tvs, tv.ownBlock = some y.1.block
  | [], off, _, _ => ⟨by simp [trPs], fun y hy => by simp [trPs] at hy⟩
  | tv :: tvs, off, ht, hp => by
    obtain ⟨t, h1, h2, h3⟩ := ht tv (by simp)
    obtain ⟨hp0, hp1⟩ := List.pairwise_cons.1 hp
    obtain ⟨n2, m2⟩ := trPs_own (w := w) (H := H) (g := g) tvs (off + 3) (fun u hu => ht u (by simp [hu])) hp1
    obtain ⟨_, _, _, n1, m1⟩ := txO_lis h1 h2
    have ne : ∀ {y z : Addr}, y.block ≠ z.block ∨ y.off ≠ z.off → y ≠ z := fun h e => by subst e; rcases h with h | h <;> exact h rfl
    have far : ∀ u ∈ tvs, ∀ x, u.ownBlock = some x → g ≠ x := fun u hu => by obtain ⟨_, _, _, h⟩ := ht u (by simp [hu]); exact h
    have s0 : ∀ y ∈ [((⟨g, off, none⟩ : Addr), Kd.i)], y.1.block = g ∧ y.1.off = off := fun y hy => by simp at hy; subst hy; exact ⟨rfl, rfl⟩
    have s2 : ∀ y ∈ [((⟨g, off + 2, none⟩ : Addr), Kd.i)], y.1.block = g ∧ y.1.off = off + 2 := fun y hy => by simp at hy; subst hy; exact ⟨rfl, rfl⟩
    simp only [List.map_cons, trPs]
    refine ⟨nodup_app (by simp) (nodup_app n1 (nodup_app (by simp) n2 ?_) ?_) ?_, ?_⟩
    · intro y hy z hz
      have := s2 y hy
      rcases m2 z hz with h | ⟨u, hu, h⟩
      · exact ne (by omega)
      · have := far u hu _ h; exact ne (by omega)
    · intro y hy z hz
      have hy' := m1 y hy
      have hgy := h3 _ hy'
      rcases List.mem_append.1 hz with hz | hz
      · have := s2 z hz; exact ne (by omega)
      · rcases m2 z hz with h | ⟨u, hu, h⟩
        · exact ne (by omega)
        · have := hp0 u hu _ _ hy' h; exact ne (by omega)
    · intro y hy z hz
      have := s0 y hy
      rcases List.mem_append.1 hz with hz | hz
      · have := h3 _ (m1 z hz); exact ne (by omega)
      rcases List.mem_append.1 hz with hz | hz
      · have := s2 z hz; exact ne (by omega)
      · rcases m2 z hz with h | ⟨u, hu, h⟩
        · exact ne (by omega)
        · have := far u hu _ h; exact ne (by omega)
    · intro y hy
      rcases List.mem_append.1 hy with hy | hy
      · have := s0 y hy; exact .inl (by omega)
      rcases List.mem_append.1 hy with hy | hy
      · exact .inr ⟨tv, by simp, m1 y hy⟩
      rcases List.mem_append.1 hy with hy | hy
      · have := s2 y hy; exact .inl (by omega)
      · rcases m2 y hy with h | ⟨u, hu, h⟩
        · exact .inl (by omega)
        · exact .inr ⟨u, by simp [hu], h⟩
theorem trPs_mem (b : Nat) : ∀ (xs : List Lis) (off : Nat) (y : Addr × Kd), y ∈ trPs b off xs → ∃ (j : Nat) (x : Lis), xs[j]? = some x ∧ (y = (⟨b, off + j * 3, none⟩, .i) ∨ y = (⟨b, off + j * 3 + 2, none⟩, .i) ∨ y ∈ trL .b x.1 x.2.1)
  | [], _, y, h => by simp [trPs] at h
  | x :: xs, off, y, h => by
    simp only [trPs, List.mem_append, List.mem_singleton] at h
    rcases h with h | h | h | h
    · exact ⟨0, x, rfl, .inl (by simpa using h)⟩
    · exact ⟨0, x, rfl, .inr (.inr h)⟩
    · exact ⟨0, x, rfl, .inr (.inl (by simpa using h))⟩
    · obtain ⟨j, x', h1, h2⟩ := trPs_mem b xs (off + 3) y h
      refine ⟨j + 1, x', by simpa using h1, ?_⟩
      rw [show off + (j + 1) * 3 = off + 3 + j * 3 by omega]
      exact h2

/-- The trail of a document of one's own. -/
theorem dfr_lps {H : Nat} {w : World} {v : Value} {ps : List Pc} (h : DfR H w v ps) (hn : ps.length ≤ 1048576) (ht : ∀ p ∈ ps, p.t.length ≤ 1048576) :
    ∃ x : Lps, x.v = v ∧ Lps.ok w x ∧ TrIn w H (trQ x) ∧ ((trQ x).map (·.1)).Nodup := by
  obtain ⟨tvs, hl, ho, hT, hp⟩ := h
  rcases id ho.2 with ⟨hv, h0⟩ | ⟨g, cap, cur, hv, hb, hg, hnc, hcm, _⟩
  · exact ⟨(none, [], 0), by rw [hv]; rfl, ⟨.inl rfl, by simp⟩, fun y hy => by simp [trQ] at hy, by simp [trQ]⟩
  · have hlt := World.ownsRow.lt ho g (by rw [hv]; rfl)
    have each : ∀ (j : Nat) (tv : Value), tvs[j]? = some tv → ∃ p, ps[j]? = some p ∧ TxO H w tv p.t ∧ p.t.length ≤ 1048576 ∧ ∀ x, tv.ownBlock = some x → g ≠ x := fun j tv hj => by
      have hjl : j < ps.length := by have := (List.getElem?_eq_some_iff.1 hj).1; omega
      obtain ⟨q1, q2⟩ := hT j ps[j] tv (by simp [hjl]) hj
      exact ⟨ps[j], by simp [hjl], q1, ht _ (List.getElem_mem hjl), fun x e k => q2 x e (by rw [hv]; simp [Value.ownBlock, k])⟩
    obtain ⟨n1, m1⟩ := trPs_own (w := w) (H := H) (g := g) tvs 0 (fun tv htv => by
      obtain ⟨j, hj, rfl⟩ := List.getElem_of_mem htv
      obtain ⟨p, _, h2, h3, h4⟩ := each j tvs[j] (by simp [hj])
      exact ⟨p.t, h2, h3, h4⟩) hp
    have hxl := ho.1
    rw [hv] at ho
    refine ⟨(some ⟨g, 0, none⟩, tvs.map lisOf, cap), by simp [Lps.v, hv, hl], ⟨.inr ⟨g, 0, rfl, fun j x hj => ?_⟩, by simp [hl]; omega⟩, fun y hy => ?_, n1⟩
    · simp only [List.getElem?_map, Option.map_eq_some_iff] at hj
      obtain ⟨tv, htv, rfl⟩ := hj
      obtain ⟨p, hpj, h2, h3, _⟩ := each j tv htv
      obtain ⟨k1, k2, _⟩ := txO_lis h2 h3
      have hjl := (List.getElem?_eq_some_iff.1 hpj).1
      refine ⟨?_, k1⟩
      rw [Nat.zero_add, World.ownsRow.cellAt ho (j * 3 + 1) (by omega), (pcCs_at ps tvs j p tv hpj htv).2.1]
      exact congrArg some k2
    · obtain ⟨j, x, hj, hy⟩ := trPs_mem g _ _ _ hy
      simp only [List.getElem?_map, Option.map_eq_some_iff] at hj
      obtain ⟨tv, htv, rfl⟩ := hj
      obtain ⟨p, hpj, h2, h3, _⟩ := each j tv htv
      have hjl := (List.getElem?_eq_some_iff.1 hpj).1
      obtain ⟨c1, c2, c3⟩ := pcCs_at ps tvs j p tv hpj htv
      rcases hy with rfl | rfl | hy
      · refine ⟨⟨⟨p.k, ?_⟩, World.ownsRow.frozenAt ho _⟩, hlt.1, hlt.2⟩
        rw [Nat.zero_add, World.ownsRow.cellAt ho (j * 3) (by omega)]; exact c1
      · refine ⟨⟨⟨p.n, ?_⟩, World.ownsRow.frozenAt ho _⟩, hlt.1, hlt.2⟩
        rw [Nat.zero_add, World.ownsRow.cellAt ho (j * 3 + 2) (by omega)]; exact c3
      · exact (txO_lis h2 h3).2.2.1 y hy

/-- What is far stays. -/
theorem TxO.far {B : Nat} {w w' : World} {tv : Value} {t : List Int} (h : TxO B w tv t) (f : Far B w w') : TxO B w' tv t := by
  rcases h with h | ⟨x, cap, h0, h3, h4, h1, h2, h5⟩
  · exact .inl h
  · have e := f.block x h1 h2
    exact .inr ⟨x, cap, h0, h3, h4, h1, Nat.lt_of_lt_of_le h2 f.size, fun j hj => ⟨(World.cell?_of_block e).trans (h5 j hj).1, (World.frozen?_of_block e).trans (h5 j hj).2⟩⟩
theorem DfR.far {H : Nat} {w w' : World} {v : Value} {ps : List Pc} (h : DfR H w v ps) (f : Far H w w') : DfR H w' v ps := by
  obtain ⟨tvs, hl, ho, ht, hp⟩ := h
  exact ⟨tvs, hl, row_far ho f, fun j p tv h1 h2 => ⟨(ht j p tv h1 h2).1.far f, (ht j p tv h1 h2).2⟩, hp⟩
theorem RdP.low {B : Nat} {w w' : World} {v : Value} {ps : List Pc} (h : RdP B w v ps) (hb : ∀ k, k < B → w'.heap[k]? = w.heap[k]?) : RdP B w' v ps := by
  obtain ⟨a, cap, hv, h1, h2, hh⟩ := h
  refine ⟨a, cap, hv, h1, h2, fun h0 => ?_⟩
  obtain ⟨b, off, ha, hlt, hc⟩ := hh h0
  refine ⟨b, off, ha, hlt, fun j p hp => ?_⟩
  obtain ⟨tv, ht⟩ := hc j p hp
  have f : ∀ {o u}, w.cell? ⟨b, o, none⟩ = some u → w'.cell? ⟨b, o, none⟩ = some u := fun h => (World.cell?_of_block (hb b hlt)).trans h
  exact ⟨tv, f ht.k, f ht.t, f ht.n, ht.rd.low hb, ht.sl⟩
theorem DfR.rdP {H : Nat} {w : World} {v : Value} {ps : List Pc} (h : DfR H w v ps) : RdP w.heap.size w v ps := h.po.pi.rdP
end Go.Proofs.YtalkhnhhaiigiaaGreatDoor

