import Derived.Test.YtalkhnhhaiigiaaGreatDoorMAU
import Derived.Test.YtalkhnhhaiigiaaGreatDoorMBQ
namespace Go.Proofs.YtalkhnhhaiigiaaGreatDoor
open Go.RowKit

theorem TrOk.left {w : World} {P Q : List (Addr × Kd)} (h : TrOk w (P ++ Q)) : TrOk w P := fun y hy => h y (List.mem_append_left _ hy)
theorem TrOk.right {w : World} {P Q : List (Addr × Kd)} (h : TrOk w (P ++ Q)) : TrOk w Q := fun y hy => h y (List.mem_append_right _ hy)
theorem TrOk.app {w : World} {P Q : List (Addr × Kd)} (h : TrOk w P) (h' : TrOk w Q) : TrOk w (P ++ Q) := fun y hy => (List.mem_append.1 hy).elim (h y) (h' y)
theorem TrOk.of {w : World} {P Q : List (Addr × Kd)} (h : TrOk w Q) (hs : ∀ y ∈ P, y ∈ Q) : TrOk w P := fun y hy => h y (hs y hy)

/-- A node's cells, as a walk reads them. -/
structure NF (W : World) (b o : Nat) (n : Nsh) : Prop where
  c1 : W.cell? ⟨b, o + 1, none⟩ = some (.slice n.lead.1 n.lead.2.1.length n.lead.2.2)
  c3 : W.cell? ⟨b, o + 3, none⟩ = some (.slice n.key.1 n.key.2.1 n.key.2.2)
  c4 : W.cell? ⟨b, o + 4, none⟩ = some (.slice n.text.1 n.text.2.1 n.text.2.2)
  c5 : W.cell? ⟨b, o + 5, none⟩ = some (.slice n.units.1 n.units.2.1 n.units.2.2)
  c7 : W.cell? ⟨b, o + 7, none⟩ = some (.slice n.tail.1 n.tail.2.1.length n.tail.2.2)
  k0 : ∃ z, W.cell? ⟨b, o, none⟩ = some (.int .i64 z)
  f0 : W.frozen? ⟨b, o, none⟩ = false
  k2 : ∃ z, W.cell? ⟨b, o + 2, none⟩ = some (.bool z)
  f2 : W.frozen? ⟨b, o + 2, none⟩ = false
  k6 : ∃ z, W.cell? ⟨b, o + 6, none⟩ = some (.int .i64 z)
  f6 : W.frozen? ⟨b, o + 6, none⟩ = false
theorem nf_of {w : World} {b o : Nat} {n : Nsh} {l : List (Addr × Kd)} (h : ShN w b o n) (ht : TrOk w (trN b o n)) (hl : TrOk w l) (s : Int) : NF (mrk w s l) b o n := by
  have h' := h.mrk hl s
  have t0 := ht (⟨b, o, none⟩, .i) (by simp [trN])
  have t2 := ht (⟨b, o + 2, none⟩, .o) (by simp [trN])
  have t6 := ht (⟨b, o + 6, none⟩, .i) (by simp [trN])
  exact ⟨h'.lead, h'.key, h'.text, h'.units, h'.tail, mrk_kind l w s _ .i hl t0.1, by rw [mrk_frozen]; exact t0.2, mrk_kind l w s _ .o hl t2.1, by rw [mrk_frozen]; exact t2.2, mrk_kind l w s _ .i hl t6.1, by rw [mrk_frozen]; exact t6.2⟩
theorem mrk_more (w : World) (s T : Int) (Q S : List (Addr × Kd)) (h : T = s + Q.length) : mrk (mrk w s Q) T S = mrk w s (Q ++ S) := by rw [mrk_app, h]
theorem mrk_one (w : World) (s T : Int) (Q : List (Addr × Kd)) (a : Addr) (q : Kd) (h : T = s + Q.length) : (mrk w s Q).setCell a (mkV q T) = mrk w s (Q ++ [(a, q)]) := by rw [mrk_snoc, h]

set_option maxHeartbeats 8000000 in
set_option maxRecDepth 100000 in
theorem markNodeS_tr (b off cap : Nat) (ns : List Nsh) (s : Int) (w : World) (h : TrOk w (trNs b off ns)) (hs : ∀ (j : Nat) (n : Nsh), ns[j]? = some n → ShN w b (off + j * 8) n) (hn : ns.length ≤ 1048576) (h0 : 0 ≤ s) (h1 : s + (trNs b off ns).length ≤ 4611686018427387904) :
    Calls Tryz.prog 27 #[.slice (some ⟨b, off, none⟩) ns.length cap, .int .i64 s] w fun e w' => e = .returned (.int .i64 (s + (trNs b off ns).length)) ∧ mrk w s (trNs b off ns) = w' := by
  have HH := hide h
  have HS := hide hs
  clear h hs
  go_enter Tryz.func27, Tryz.ntmps27
  go_wp2
  go_loopw [1, 5] (fun t i W => ∃ k : Nat, k ≤ ns.length ∧ i = .int .i64 k ∧ t = .int .i64 (s + (trNs b off (ns.take k)).length) ∧ W = mrk w s (trNs b off (ns.take k))) (fun _ i _ => ns.length - (intOf i).toNat)
  case atStart => exact ⟨0, Nat.zero_le _, rfl, by simp [trNs], by simp [trNs, mrk]⟩
  case round =>
    obtain ⟨k, hk, rfl, rfl, hW⟩ := hrel
    by_cases hlt : k < ns.length
    · have ht := trNs_take b ns off k hlt
      obtain ⟨r, hr⟩ := trNs_pre b ns off (k + 1)
      have hlen : (trNs b off ns).length = (trNs b off (ns.take k)).length + (trN b (off + k * 8) ns[k]).length + r.length := by rw [hr, ht]; simp; omega
      have okA : TrOk w (trNs b off (ns.take k) ++ trN b (off + k * 8) ns[k]) := by rw [← ht]; rw [hr] at HH; exact HH.out.left
      have sh := HS.out k ns[k] (by simp [hlt])
      have HN : Hid (trNs b off (ns.take (k + 1)) = trNs b off (ns.take k) ++ trN b (off + k * 8) ns[k]) := ht
      clear ht hr
      generalize ns[k] = n at *
      generalize trNs b off (ns.take k) = Q at *
      have okN := okA.right
      have okQ := okA.left
      have hln : (trN b (off + k * 8) n).length = 3 + (trK n.lead).length + n.key.2.1 + n.text.2.1 + n.units.2.1 + (trK n.tail).length := by
        simp only [trN, List.length_append, List.length_singleton, trL_lis _ _ sh.okk, trL_lis _ _ sh.okx, trL_lis _ _ sh.oku]; omega
      have s2 : TrOk w (trK n.lead) := okN.of (by simp only [trN, List.mem_append]; intro y hy; simp [hy])
      have s4 : TrOk w (trL .i n.key.1 n.key.2.1) := okN.of (by simp only [trN, List.mem_append]; intro y hy; simp [hy])
      have s5 : TrOk w (trL .b n.text.1 n.text.2.1) := okN.of (by simp only [trN, List.mem_append]; intro y hy; simp [hy])
      have s6 : TrOk w (trL .i n.units.1 n.units.2.1) := okN.of (by simp only [trN, List.mem_append]; intro y hy; simp [hy])
      have s8 : TrOk w (trK n.tail) := okN.of (by simp only [trN, List.mem_append]; intro y hy; simp [hy])
      have s1 : TrOk w [((⟨b, off + k * 8, none⟩ : Addr), Kd.i)] := okN.of (by simp [trN])
      have s3 : TrOk w [((⟨b, off + k * 8 + 2, none⟩ : Addr), Kd.o)] := okN.of (by simp [trN])
      have s7 : TrOk w [((⟨b, off + k * 8 + 6, none⟩ : Addr), Kd.i)] := okN.of (by simp [trN])
      have NFs := hide (fun (l : List (Addr × Kd)) (hl : TrOk w l) => nf_of sh okN hl s)
      have HSh := hide sh
      have O0 := hide okQ
      have O1 := hide (O0.out.app s1)
      have O2 := hide (O1.out.app s2)
      have O3 := hide (O2.out.app s3)
      have O4 := hide (O3.out.app s4)
      have O5 := hide (O4.out.app s5)
      have O6 := hide (O5.out.app s6)
      have O7 := hide (O6.out.app s7)
      have G2 := hide s2
      have G4 := hide s4
      have G5 := hide s5
      have G6 := hide s6
      have G8 := hide s8
      have hT0 : 0 ≤ s + (Q.length : Int) := by omega
      have hT1 : s + (Q.length : Int) + 3 + (trK n.lead).length + n.key.2.1 + n.text.2.1 + n.units.2.1 + (trK n.tail).length ≤ 4611686018427387904 := by omega
      have HLn := hide hln
      clear okA okN okQ s1 s2 s3 s4 s5 s6 s7 s8 sh hln hlen
      obtain ⟨T, hT⟩ : ∃ T : Int, T = s + Q.length := ⟨_, rfl⟩
      have HT := hide hT
      rw [← hT] at hT0 hT1 ⊢
      clear hT
      subst hW
      obtain ⟨Q1, hQ1⟩ : ∃ Q1, Q1 = Q ++ [((⟨b, off + k * 8, none⟩ : Addr), Kd.i)] := ⟨_, rfl⟩
      obtain ⟨Q2, hQ2⟩ : ∃ Q2, Q2 = Q1 ++ trK n.lead := ⟨_, rfl⟩
      obtain ⟨Q3, hQ3⟩ : ∃ Q3, Q3 = Q2 ++ [((⟨b, off + k * 8 + 2, none⟩ : Addr), Kd.o)] := ⟨_, rfl⟩
      obtain ⟨Q4, hQ4⟩ : ∃ Q4, Q4 = Q3 ++ trL .i n.key.1 n.key.2.1 := ⟨_, rfl⟩
      obtain ⟨Q5, hQ5⟩ : ∃ Q5, Q5 = Q4 ++ trL .b n.text.1 n.text.2.1 := ⟨_, rfl⟩
      obtain ⟨Q6, hQ6⟩ : ∃ Q6, Q6 = Q5 ++ trL .i n.units.1 n.units.2.1 := ⟨_, rfl⟩
      obtain ⟨Q7, hQ7⟩ : ∃ Q7, Q7 = Q6 ++ [((⟨b, off + k * 8 + 6, none⟩ : Addr), Kd.i)] := ⟨_, rfl⟩
      obtain ⟨Q8, hQ8⟩ : ∃ Q8, Q8 = Q7 ++ trK n.tail := ⟨_, rfl⟩
      have HQE : Hid (Q8 = Q ++ trN b (off + k * 8) n) := by unfold Hid; rw [hQ8, hQ7, hQ6, hQ5, hQ4, hQ3, hQ2, hQ1]; simp only [trN, List.append_assoc]
      rw [← hQ1] at O1 O2 O3 O4 O5 O6 O7
      rw [← hQ2] at O2 O3 O4 O5 O6 O7
      rw [← hQ3] at O3 O4 O5 O6 O7
      rw [← hQ4] at O4 O5 O6 O7
      rw [← hQ5] at O5 O6 O7
      rw [← hQ6] at O6 O7
      rw [← hQ7] at O7
      have T1 : Hid (T + 1 = s + Q1.length) := by unfold Hid; rw [hQ1, HT.out]; simp; omega
      have T2 : Hid (T + 1 + (trK n.lead).length = s + Q2.length) := by unfold Hid; rw [hQ2, List.length_append, T1.out]; simp; omega
      have T3 : Hid (T + 1 + (trK n.lead).length + 1 = s + Q3.length) := by unfold Hid; rw [hQ3, List.length_append, T2.out]; simp; omega
      have T4 : Hid (T + 1 + (trK n.lead).length + 1 + n.key.2.1 = s + Q4.length) := by unfold Hid; rw [hQ4, List.length_append, trL_lis _ _ HSh.out.okk, T3.out]; simp; omega
      have T5 : Hid (T + 1 + (trK n.lead).length + 1 + n.key.2.1 + n.text.2.1 = s + Q5.length) := by unfold Hid; rw [hQ5, List.length_append, trL_lis _ _ HSh.out.okx, T4.out]; simp; omega
      have T6 : Hid (T + 1 + (trK n.lead).length + 1 + n.key.2.1 + n.text.2.1 + n.units.2.1 = s + Q6.length) := by unfold Hid; rw [hQ6, List.length_append, trL_lis _ _ HSh.out.oku, T5.out]; simp; omega
      have T7 : Hid (T + 1 + (trK n.lead).length + 1 + n.key.2.1 + n.text.2.1 + n.units.2.1 + 1 = s + Q7.length) := by unfold Hid; rw [hQ7, List.length_append, T6.out]; simp; omega
      have T8 : Hid (T + 1 + (trK n.lead).length + 1 + n.key.2.1 + n.text.2.1 + n.units.2.1 + 1 + (trK n.tail).length = s + Q8.length) := by unfold Hid; rw [hQ8, List.length_append, T7.out]; simp; omega
      have e1 : Hid ((mrk w s Q).setCell ⟨b, off + k * 8, none⟩ (.int .i64 T) = mrk w s Q1) := by unfold Hid; rw [hQ1]; exact mrk_one w s T Q _ .i HT.out
      have e2 : Hid (mrk (mrk w s Q1) (T + 1) (trK n.lead) = mrk w s Q2) := by unfold Hid; rw [hQ2]; exact mrk_more w s _ Q1 _ T1.out
      have e3 : Hid ((mrk w s Q2).setCell ⟨b, off + k * 8 + 2, none⟩ (.bool ((T + 1 + (trK n.lead).length) % 3 == 0)) = mrk w s Q3) := by unfold Hid; rw [hQ3]; exact mrk_one w s _ Q2 _ .o T2.out
      have e4 : Hid (mrk (mrk w s Q3) (T + 1 + (trK n.lead).length + 1) (trL .i n.key.1 n.key.2.1) = mrk w s Q4) := by unfold Hid; rw [hQ4]; exact mrk_more w s _ Q3 _ T3.out
      have e5 : Hid (mrk (mrk w s Q4) (T + 1 + (trK n.lead).length + 1 + n.key.2.1) (trL .b n.text.1 n.text.2.1) = mrk w s Q5) := by unfold Hid; rw [hQ5]; exact mrk_more w s _ Q4 _ T4.out
      have e6 : Hid (mrk (mrk w s Q5) (T + 1 + (trK n.lead).length + 1 + n.key.2.1 + n.text.2.1) (trL .i n.units.1 n.units.2.1) = mrk w s Q6) := by unfold Hid; rw [hQ6]; exact mrk_more w s _ Q5 _ T5.out
      have e7 : Hid ((mrk w s Q6).setCell ⟨b, off + k * 8 + 6, none⟩ (.int .i64 (T + 1 + (trK n.lead).length + 1 + n.key.2.1 + n.text.2.1 + n.units.2.1)) = mrk w s Q7) := by unfold Hid; rw [hQ7]; exact mrk_one w s _ Q6 _ .i T6.out
      have e8 : Hid (mrk (mrk w s Q7) (T + 1 + (trK n.lead).length + 1 + n.key.2.1 + n.text.2.1 + n.units.2.1 + 1) (trK n.tail) = mrk w s Q8) := by unfold Hid; rw [hQ8]; exact mrk_more w s _ Q7 _ T7.out
      clear hQ1 hQ2 hQ3 hQ4 hQ5 hQ6 hQ7 hQ8 T1 T2 T3 T4 T5 T6 T7
      obtain ⟨c1, c3, c4, c5, c7, ⟨z0, k0⟩, f0, ⟨z2, k2⟩, f2, ⟨z6, k6⟩, f6⟩ := NFs.out Q O0.out
      go_wp2_with fail
      rw [e1.out]
      refine (markCommentS_lis n.lead (T + 1) (mrk w s Q1) (HSh.out.okl.mrk O1.out s) (G2.out.mrk O1.out s) (by omega) (by omega)).mono ?_
      rintro e w11 ⟨rfl, rfl⟩
      rw [e2.out]
      clear c1 c3 c4 c5 c7 k0 f0 k2 f2 k6 f6
      obtain ⟨c1, c3, c4, c5, c7, ⟨z0, k0⟩, f0, ⟨z2, k2⟩, f2, ⟨z6, k6⟩, f6⟩ := NFs.out Q2 O2.out
      go_wp2_with fail
      rw [e3.out]
      refine (markIntS_lis n.key (T + 1 + (trK n.lead).length + 1) (mrk w s Q3) HSh.out.okk (G4.out.mrk O3.out s) (by omega) (by omega)).mono ?_
      rintro e w13 ⟨rfl, rfl⟩
      rw [e4.out]
      clear c1 c3 c4 c5 c7 k0 f0 k2 f2 k6 f6
      obtain ⟨c1, c3, c4, c5, c7, ⟨z0, k0⟩, f0, ⟨z2, k2⟩, f2, ⟨z6, k6⟩, f6⟩ := NFs.out Q4 O4.out
      go_wp2_with fail
      refine (markByteS_lis n.text (T + 1 + (trK n.lead).length + 1 + n.key.2.1) (mrk w s Q4) HSh.out.okx (G5.out.mrk O4.out s) (by omega) (by omega)).mono ?_
      rintro e w14 ⟨rfl, rfl⟩
      rw [e5.out]
      clear c1 c3 c4 c5 c7 k0 f0 k2 f2 k6 f6
      obtain ⟨c1, c3, c4, c5, c7, ⟨z0, k0⟩, f0, ⟨z2, k2⟩, f2, ⟨z6, k6⟩, f6⟩ := NFs.out Q5 O5.out
      go_wp2_with fail
      refine (markIntS_lis n.units (T + 1 + (trK n.lead).length + 1 + n.key.2.1 + n.text.2.1) (mrk w s Q5) HSh.out.oku (G6.out.mrk O5.out s) (by omega) (by omega)).mono ?_
      rintro e w15 ⟨rfl, rfl⟩
      rw [e6.out]
      clear c1 c3 c4 c5 c7 k0 f0 k2 f2 k6 f6
      obtain ⟨c1, c3, c4, c5, c7, ⟨z0, k0⟩, f0, ⟨z2, k2⟩, f2, ⟨z6, k6⟩, f6⟩ := NFs.out Q6 O6.out
      go_wp2_with fail
      rw [e7.out]
      refine (markCommentS_lis n.tail (T + 1 + (trK n.lead).length + 1 + n.key.2.1 + n.text.2.1 + n.units.2.1 + 1) (mrk w s Q7) (HSh.out.okt.mrk O7.out s) (G8.out.mrk O7.out s) (by omega) (by omega)).mono ?_
      rintro e w17 ⟨rfl, rfl⟩
      rw [e8.out]
      clear c1 c3 c4 c5 c7 k0 f0 k2 f2 k6 f6
      go_wp2
      go_roundw
      case rel => exact ⟨k + 1, by omega, by go_num, by rw [HN.out, ← HQE.out, ← T8.out], by rw [HN.out, ← HQE.out]⟩
      case measure => simp [intOf]; omega
    · go_wp2
      go_ret
      have hkn : k = ns.length := by omega
      subst hkn
      rw [List.take_length] at *
      exact ⟨rfl, by first | rfl | exact hW.symm⟩
end Go.Proofs.YtalkhnhhaiigiaaGreatDoor

namespace Go.Proofs.YtalkhnhhaiigiaaGreatDoor
open Go.RowKit

theorem KdAt.grown {w w' : World} {x : Addr} {q : Kd} (h : KdAt w x q) (g : w.grownBy w' none) : KdAt w' x q := by
  cases q <;> (obtain ⟨z, h⟩ := h; exact ⟨z, g.cell h (by simp)⟩)
theorem frozen_grown {w w' : World} {x : Addr} {v : Value} (hc : w.cell? x = some v) (h : w.frozen? x = false) (g : w.grownBy w' none) : w'.frozen? x = false :=
  (World.frozen?_of_block (g.block x.block (World.block_lt_of_cell? w x hc) (by simp))).trans h
theorem TrOk.grown {w w' : World} {l : List (Addr × Kd)} (h : TrOk w l) (g : w.grownBy w' none) : TrOk w' l := fun y hy => by
  obtain ⟨h1, h2⟩ := h y hy
  obtain ⟨v, hv⟩ := Option.isSome_iff_exists.1 h1.isS
  exact ⟨h1.grown g, frozen_grown hv h2 g⟩
theorem ShC.grown {w w' : World} {b off : Nat} {xs : List Lis} (h : ShC w b off xs) (g : w.grownBy w' none) : ShC w' b off xs := fun j x hj => ⟨g.cell (h j x hj).1 (by simp), (h j x hj).2⟩
theorem Lcs.ok.grown {w w' : World} {x : Lcs} (h : Lcs.ok w x) (g : w.grownBy w' none) : Lcs.ok w' x := by
  obtain ⟨h1, h2⟩ := h
  refine ⟨?_, h2⟩
  rcases h1 with h | ⟨b, off, h, h'⟩
  · exact .inl h
  · exact .inr ⟨b, off, h, h'.grown g⟩
theorem ShN.grown {w w' : World} {b o : Nat} {n : Nsh} (h : ShN w b o n) (g : w.grownBy w' none) : ShN w' b o n :=
  ⟨g.cell h.lead (by simp), g.cell h.key (by simp), g.cell h.text (by simp), g.cell h.units (by simp), g.cell h.tail (by simp), h.okl.grown g, h.okk, h.okx, h.oku, h.okt.grown g⟩

/-- Nodes in memory. -/
abbrev Lns := Option Addr × List Nsh × Nat
def Lns.v (x : Lns) : Value := .slice x.1 x.2.1.length x.2.2
def trM : Lns → List (Addr × Kd)
  | (none, _, _) => []
  | (some a, ns, _) => trNs a.block a.off ns
def Lns.ok (w : World) (x : Lns) : Prop := (x.2.1 = [] ∨ ∃ b off, x.1 = some ⟨b, off, none⟩ ∧ ∀ (j : Nat) (n : Nsh), x.2.1[j]? = some n → ShN w b (off + j * 8) n) ∧ x.2.1.length ≤ 1048576
theorem trM_nil (a : Option Addr) (c : Nat) : trM (a, [], c) = [] := by cases a <;> rfl
theorem Lns.ok.grown {w w' : World} {x : Lns} (h : Lns.ok w x) (g : w.grownBy w' none) : Lns.ok w' x := by
  obtain ⟨h1, h2⟩ := h
  refine ⟨?_, h2⟩
  rcases h1 with h | ⟨b, off, h, h'⟩
  · exact .inl h
  · exact .inr ⟨b, off, h, fun j n hj => (h' j n hj).grown g⟩

set_option maxHeartbeats 1000000 in
set_option maxRecDepth 100000 in
theorem markNodeS_lis (x : Lns) (s : Int) (w : World) (hx : Lns.ok w x) (h : TrOk w (trM x)) (h0 : 0 ≤ s) (h1 : s + (trM x).length ≤ 4611686018427387904) :
    Calls Tryz.prog 27 #[x.v, .int .i64 s] w fun e w' => e = .returned (.int .i64 (s + (trM x).length)) ∧ mrk w s (trM x) = w' := by
  obtain ⟨a, xs, cap⟩ := x
  obtain ⟨hx, hn⟩ := hx
  simp only [Lns.v] at *
  rcases hx with rfl | ⟨b, off, rfl, hsh⟩
  · rw [trM_nil]
    clear h h1
    simp only [List.length_nil]
    go_enter Tryz.func27, Tryz.ntmps27
    go_wp2
    refine wp_loop_rounds 1 ?_
    rw [rounds_succ]
    go_wp2
    go_ret
    exact ⟨by simp, rfl⟩
  · exact markNodeS_tr b off cap xs s w h hsh hn h0 h1

set_option maxHeartbeats 1000000 in
set_option maxRecDepth 100000 in
theorem markTree_tr (x : Lns) (y : Lcs) (s : Int) (w : World) (hx : Lns.ok w x) (hy : Lcs.ok w y) (h : TrOk w (trM x ++ trK y)) (h0 : 0 ≤ s) (h1 : s + (trM x).length + (trK y).length ≤ 4611686018427387904) :
    Calls Tryz.prog 10 #[.agg #[x.v, y.v], .int .i64 s] w fun e w' => e = .returned (.int .i64 (s + (trM x).length + (trK y).length)) ∧ mrk (w.alloc (Obj.cells #[x.v, y.v] 33)) s (trM x ++ trK y) = w' := by
  have gA := World.grownBy_alloc w (Obj.cells #[x.v, y.v] 33) none
  have hh := h.grown gA
  have c1 : (w.alloc (Obj.cells #[x.v, y.v] 33)).cell? ⟨w.heap.size, 1, none⟩ = some (.slice y.1 y.2.1.length y.2.2) := by simp [go_sem, Lcs.v]
  have d1 := mrk_slice (s := s) hh.left c1
  have HA := hide (markNodeS_lis x s _ (hx.grown gA) hh.left h0 (by omega))
  have HB := hide (markCommentS_lis y (s + (trM x).length) (mrk (w.alloc (Obj.cells #[x.v, y.v] 33)) s (trM x)) ((hy.grown gA).mrk hh.left s) (hh.right.mrk hh.left s) (by omega) (by omega))
  rw [mrk_more _ _ _ _ _ rfl] at HB
  unfold Lns.v Lcs.v at *
  clear hh h hx hy gA
  go_enter Tryz.func10, Tryz.ntmps10
  go_wp2_with fail
  refine HA.out.mono ?_
  rintro e w1 ⟨rfl, rfl⟩
  go_wp2_with fail
  refine HB.out.mono ?_
  rintro e w2 ⟨rfl, rfl⟩
  go_wp2
  go_ret
  exact ⟨rfl, rfl⟩
end Go.Proofs.YtalkhnhhaiigiaaGreatDoor

namespace Go.Proofs.YtalkhnhhaiigiaaGreatDoor
open Go.RowKit

theorem infoNd : (Tryz.prog.info? 75).map (fun i => (i.zero, i.size, i.bytes)) = some (some (.agg #[.int .i64 0, .slice none 0 0, .bool false, .slice none 0 0, .slice none 0 0, .slice none 0 0, .int .i64 0, .slice none 0 0]), 8, 144) := by kernel_rfl

/-- A node's lists, rows of one's own. -/
def Own5 (B : Nat) (w : World) (p : Nod) (lv kv xv uv tv : Value) : Prop := OwC B w lv p.lead ∧ OwI B w kv p.key ∧ OwB B w xv p.text ∧ OwI B w uv p.units ∧ OwC B w tv p.tail
theorem Own5.later {B : Nat} {w w' : World} {p : Nod} {lv kv xv uv tv : Value} (h : Own5 B w p lv kv xv uv tv) (hg : w.grownBy w' none) : Own5 B w' p lv kv xv uv tv :=
  ⟨h.1.later hg, Ow.later h.2.1 hg, Ow.later h.2.2.1 hg, Ow.later h.2.2.2.1 hg, h.2.2.2.2.later hg⟩
theorem Own5.set {B : Nat} {w : World} {p : Nod} {lv kv xv uv tv : Value} (h : Own5 B w p lv kv xv uv tv) (b j : Nat) (x : Value) (hb : b < B) : Own5 B (w.setCell ⟨b, j, none⟩ x) p lv kv xv uv tv :=
  ⟨h.1.set b j x hb, h.2.1.setC _ _ hb, h.2.2.1.setC _ _ hb, h.2.2.2.1.setC _ _ hb, h.2.2.2.2.set b j x hb⟩
theorem Own5.base {B B' : Nat} {w : World} {p : Nod} {lv kv xv uv tv : Value} (h : Own5 B w p lv kv xv uv tv) (hB : B' ≤ B) : Own5 B' w p lv kv xv uv tv :=
  ⟨h.1.base hB, row_base hB h.2.1, row_base hB h.2.2.1, row_base hB h.2.2.2.1, h.2.2.2.2.base hB⟩
/-- A node's cells in a list of cells. -/
def At8 (xs : List Value) (o : Nat) (p : Nod) (lv kv xv uv tv : Value) : Prop := xs[o]? = some (.int .i64 p.k) ∧ xs[o + 1]? = some lv ∧ xs[o + 2]? = some (.bool p.mem) ∧ xs[o + 3]? = some kv ∧ xs[o + 4]? = some xv ∧ xs[o + 5]? = some uv ∧ xs[o + 6]? = some (.int .i64 p.cnt) ∧ xs[o + 7]? = some tv

/-- Eight cells stored one behind the other. -/
def set8 (xs : List Value) (o : Nat) (a0 a1 a2 a3 a4 a5 a6 a7 : Value) : List Value := ((((((((xs.set (o) a0).set (o + 1) a1).set (o + 2) a2).set (o + 3) a3).set (o + 4) a4).set (o + 5) a5).set (o + 6) a6).set (o + 7) a7)
def setC8 (w : World) (b o : Nat) (a0 a1 a2 a3 a4 a5 a6 a7 : Value) : World := ((((((((w.setCell ⟨b, o, none⟩ a0).setCell ⟨b, o + 1, none⟩ a1).setCell ⟨b, o + 2, none⟩ a2).setCell ⟨b, o + 3, none⟩ a3).setCell ⟨b, o + 4, none⟩ a4).setCell ⟨b, o + 5, none⟩ a5).setCell ⟨b, o + 6, none⟩ a6).setCell ⟨b, o + 7, none⟩ a7)

theorem set8_len (xs : List Value) (o : Nat) (a0 a1 a2 a3 a4 a5 a6 a7 : Value) : (set8 xs o a0 a1 a2 a3 a4 a5 a6 a7).length = xs.length := by simp [set8]
theorem set8_ne (xs : List Value) (o : Nat) (a0 a1 a2 a3 a4 a5 a6 a7 : Value) (j : Nat) (hj : j < o ∨ o + 8 ≤ j) : (set8 xs o a0 a1 a2 a3 a4 a5 a6 a7)[j]? = xs[j]? := by
  unfold set8
  rw [List.getElem?_set_ne (by omega), List.getElem?_set_ne (by omega), List.getElem?_set_ne (by omega), List.getElem?_set_ne (by omega), List.getElem?_set_ne (by omega), List.getElem?_set_ne (by omega), List.getElem?_set_ne (by omega), List.getElem?_set_ne (by omega)]
theorem set8_0 (xs : List Value) (o : Nat) (a0 a1 a2 a3 a4 a5 a6 a7 : Value) (h : o + 8 ≤ xs.length) : (set8 xs o a0 a1 a2 a3 a4 a5 a6 a7)[o]? = some a0 := by
  unfold set8
  rw [List.getElem?_set_ne (by omega), List.getElem?_set_ne (by omega), List.getElem?_set_ne (by omega), List.getElem?_set_ne (by omega), List.getElem?_set_ne (by omega), List.getElem?_set_ne (by omega), List.getElem?_set_ne (by omega), List.getElem?_set_self (by first | omega | (simp only [List.length_set]; omega))]
theorem set8_1 (xs : List Value) (o : Nat) (a0 a1 a2 a3 a4 a5 a6 a7 : Value) (h : o + 8 ≤ xs.length) : (set8 xs o a0 a1 a2 a3 a4 a5 a6 a7)[o + 1]? = some a1 := by
  unfold set8
  rw [List.getElem?_set_ne (by omega), List.getElem?_set_ne (by omega), List.getElem?_set_ne (by omega), List.getElem?_set_ne (by omega), List.getElem?_set_ne (by omega), List.getElem?_set_ne (by omega), List.getElem?_set_self (by first | omega | (simp only [List.length_set]; omega))]
theorem set8_2 (xs : List Value) (o : Nat) (a0 a1 a2 a3 a4 a5 a6 a7 : Value) (h : o + 8 ≤ xs.length) : (set8 xs o a0 a1 a2 a3 a4 a5 a6 a7)[o + 2]? = some a2 := by
  unfold set8
  rw [List.getElem?_set_ne (by omega), List.getElem?_set_ne (by omega), List.getElem?_set_ne (by omega), List.getElem?_set_ne (by omega), List.getElem?_set_ne (by omega), List.getElem?_set_self (by first | omega | (simp only [List.length_set]; omega))]
theorem set8_3 (xs : List Value) (o : Nat) (a0 a1 a2 a3 a4 a5 a6 a7 : Value) (h : o + 8 ≤ xs.length) : (set8 xs o a0 a1 a2 a3 a4 a5 a6 a7)[o + 3]? = some a3 := by
  unfold set8
  rw [List.getElem?_set_ne (by omega), List.getElem?_set_ne (by omega), List.getElem?_set_ne (by omega), List.getElem?_set_ne (by omega), List.getElem?_set_self (by first | omega | (simp only [List.length_set]; omega))]
theorem set8_4 (xs : List Value) (o : Nat) (a0 a1 a2 a3 a4 a5 a6 a7 : Value) (h : o + 8 ≤ xs.length) : (set8 xs o a0 a1 a2 a3 a4 a5 a6 a7)[o + 4]? = some a4 := by
  unfold set8
  rw [List.getElem?_set_ne (by omega), List.getElem?_set_ne (by omega), List.getElem?_set_ne (by omega), List.getElem?_set_self (by first | omega | (simp only [List.length_set]; omega))]
theorem set8_5 (xs : List Value) (o : Nat) (a0 a1 a2 a3 a4 a5 a6 a7 : Value) (h : o + 8 ≤ xs.length) : (set8 xs o a0 a1 a2 a3 a4 a5 a6 a7)[o + 5]? = some a5 := by
  unfold set8
  rw [List.getElem?_set_ne (by omega), List.getElem?_set_ne (by omega), List.getElem?_set_self (by first | omega | (simp only [List.length_set]; omega))]
theorem set8_6 (xs : List Value) (o : Nat) (a0 a1 a2 a3 a4 a5 a6 a7 : Value) (h : o + 8 ≤ xs.length) : (set8 xs o a0 a1 a2 a3 a4 a5 a6 a7)[o + 6]? = some a6 := by
  unfold set8
  rw [List.getElem?_set_ne (by omega), List.getElem?_set_self (by first | omega | (simp only [List.length_set]; omega))]
theorem set8_7 (xs : List Value) (o : Nat) (a0 a1 a2 a3 a4 a5 a6 a7 : Value) (h : o + 8 ≤ xs.length) : (set8 xs o a0 a1 a2 a3 a4 a5 a6 a7)[o + 7]? = some a7 := by
  unfold set8
  rw [List.getElem?_set_self (by first | omega | (simp only [List.length_set]; omega))]
theorem At8.ne {xs : List Value} {o' : Nat} {p : Nod} {lv kv xv uv tv : Value} (h : At8 xs o' p lv kv xv uv tv) (o : Nat) (a0 a1 a2 a3 a4 a5 a6 a7 : Value) (hj : o' + 8 ≤ o ∨ o + 8 ≤ o') : At8 (set8 xs o a0 a1 a2 a3 a4 a5 a6 a7) o' p lv kv xv uv tv := by
  obtain ⟨e0, e1, e2, e3, e4, e5, e6, e7⟩ := h
  refine ⟨?_, ?_, ?_, ?_, ?_, ?_, ?_, ?_⟩
  · rw [set8_ne _ _ _ _ _ _ _ _ _ _ _ (by omega)]; exact e0
  · rw [set8_ne _ _ _ _ _ _ _ _ _ _ _ (by omega)]; exact e1
  · rw [set8_ne _ _ _ _ _ _ _ _ _ _ _ (by omega)]; exact e2
  · rw [set8_ne _ _ _ _ _ _ _ _ _ _ _ (by omega)]; exact e3
  · rw [set8_ne _ _ _ _ _ _ _ _ _ _ _ (by omega)]; exact e4
  · rw [set8_ne _ _ _ _ _ _ _ _ _ _ _ (by omega)]; exact e5
  · rw [set8_ne _ _ _ _ _ _ _ _ _ _ _ (by omega)]; exact e6
  · rw [set8_ne _ _ _ _ _ _ _ _ _ _ _ (by omega)]; exact e7
theorem At8.self (xs : List Value) (o : Nat) (p : Nod) (lv kv xv uv tv : Value) (h : o + 8 ≤ xs.length) : At8 (set8 xs o (.int .i64 p.k) lv (.bool p.mem) kv xv uv (.int .i64 p.cnt) tv) o p lv kv xv uv tv :=
  ⟨set8_0 xs o _ _ _ _ _ _ _ _ h, set8_1 xs o _ _ _ _ _ _ _ _ h, set8_2 xs o _ _ _ _ _ _ _ _ h, set8_3 xs o _ _ _ _ _ _ _ _ h, set8_4 xs o _ _ _ _ _ _ _ _ h, set8_5 xs o _ _ _ _ _ _ _ _ h, set8_6 xs o _ _ _ _ _ _ _ _ h, set8_7 xs o _ _ _ _ _ _ _ _ h⟩
theorem Own5.set8 {B : Nat} {w : World} {p : Nod} {lv kv xv uv tv : Value} (h : Own5 B w p lv kv xv uv tv) (b o : Nat) (a0 a1 a2 a3 a4 a5 a6 a7 : Value) (hb : b < B) : Own5 B (setC8 w b o a0 a1 a2 a3 a4 a5 a6 a7) p lv kv xv uv tv :=
  ((((((((h.set b (o) a0 hb).set b (o + 1) a1 hb).set b (o + 2) a2 hb).set b (o + 3) a3 hb).set b (o + 4) a4 hb).set b (o + 5) a5 hb).set b (o + 6) a6 hb).set b (o + 7) a7 hb)
theorem stored8 {B : Nat} {w : World} {e : TypeId} {g n : Nat} {xs : List Value} (h : w.ownsRow B e 8 (.slice (some ⟨g, 0, none⟩) n n) n xs) (o : Nat) (a0 a1 a2 a3 a4 a5 a6 a7 : Value) : (setC8 w g o a0 a1 a2 a3 a4 a5 a6 a7).ownsRow B e 8 (.slice (some ⟨g, 0, none⟩) n n) n (Go.Proofs.YtalkhnhhaiigiaaGreatDoor.set8 xs o a0 a1 a2 a3 a4 a5 a6 a7) := by
  have hs0 := World.ownsRow.stored h (o) a0
  have hs1 := World.ownsRow.stored hs0.1 (o + 1) a1
  have hs2 := World.ownsRow.stored hs1.1 (o + 2) a2
  have hs3 := World.ownsRow.stored hs2.1 (o + 3) a3
  have hs4 := World.ownsRow.stored hs3.1 (o + 4) a4
  have hs5 := World.ownsRow.stored hs4.1 (o + 5) a5
  have hs6 := World.ownsRow.stored hs5.1 (o + 6) a6
  have hs7 := World.ownsRow.stored hs6.1 (o + 7) a7
  exact hs7.1
theorem belowC8 {B : Nat} {w w1 : World} (h : Below B w w1) (b o : Nat) (a0 a1 a2 a3 a4 a5 a6 a7 : Value) (hb : B ≤ b) : Below B w (setC8 w1 b o a0 a1 a2 a3 a4 a5 a6 a7) :=
  ((((((((h.setCell (p := ⟨b, o, none⟩) hb a0).setCell (p := ⟨b, o + 1, none⟩) hb a1).setCell (p := ⟨b, o + 2, none⟩) hb a2).setCell (p := ⟨b, o + 3, none⟩) hb a3).setCell (p := ⟨b, o + 4, none⟩) hb a4).setCell (p := ⟨b, o + 5, none⟩) hb a5).setCell (p := ⟨b, o + 6, none⟩) hb a6).setCell (p := ⟨b, o + 7, none⟩) hb a7)

set_option maxHeartbeats 4000000 in
set_option maxRecDepth 100000 in
theorem toNodeS_any (v : Value) (ns : List Nod) (w : World) (hv : RdN w.heap.size w v ns) (hn : ns.length ≤ 1048576) (hok : ∀ p ∈ ns, NOk p) :
    Calls Tryz.prog 18 #[v] w fun e w' => ∃ v' g xs, e = .returned v' ∧ v' = .slice (some ⟨g, 0, none⟩) ns.length ns.length ∧ w'.ownsRow w.heap.size 75 8 v' ns.length xs ∧
      (∀ j p, ns[j]? = some p → ∃ lv kv xv uv tv, At8 xs (j * 8) p lv kv xv uv tv ∧ Own5 (w.heap.size + 1) w' p lv kv xv uv tv) ∧ g = w.heap.size ∧ w.grownBy w' none := by
  obtain ⟨i0, hi, hz0, hz1, hz2⟩ := info_parts infoNd
  obtain ⟨a, cap, hv0, _⟩ := id hv
  subst hv0
  go_enter Tryz.func18, Tryz.ntmps18
  go_wp2_with (at_make; refine wpList_make_full _ rfl _ _ 30 rfl w.heap.size 75 i0 (.agg #[.int .i64 0, .slice none 0 0, .bool false, .slice none 0 0, .slice none 0 0, .slice none 0 0, .int .i64 0, .slice none 0 0]) 8 Tryz.underlying30 hi hz0 hz1 _ _ _ _ ns.length rfl rfl (by omega) (by omega) ?b2 ?b3 (Nat.le_refl _) ?_)
  case b2 => rw [hz2]; omega
  case b3 => unfold maxLen; omega
  intro w0 hown0 hgrow0
  go_wp2
  go_loopw [4] (fun i wr => ∃ (k : Nat) (xs : List Value), k ≤ ns.length ∧ i = .int .i64 k ∧ wr.ownsRow w.heap.size 75 8 (.slice (some ⟨w.heap.size, 0, none⟩) ns.length ns.length) ns.length xs ∧
      Hid (∀ j p, j < k → ns[j]? = some p → ∃ lv kv xv uv tv, At8 xs (j * 8) p lv kv xv uv tv ∧ Own5 (w.heap.size + 1) wr p lv kv xv uv tv) ∧ w.grownBy wr none)
    (fun i _ => ns.length - (intOf i).toNat)
  case atStart => exact ⟨0, _, Nat.zero_le _, rfl, hown0, fun j p h _ => absurd h (by omega), hgrow0⟩
  case round =>
    obtain ⟨k, xs, hk, rfl, hown, HT, hgr⟩ := hrel
    clear hown0 hgrow0
    by_cases hlt : k < ns.length
    · obtain ⟨b, off, cap', l1, k1, x1, u1, t1, hva, hb, hp⟩ := (hv.keep hgr).at k hlt
      cases hva
      have z0 := hp.k; have z1 := hp.lead; have z2 := hp.mem; have z3 := hp.key; have z4 := hp.text; have z5 := hp.units; have z6 := hp.cnt; have z7 := hp.tail
      have hsz : w.heap.size < wr.heap.size := (World.ownsRow.lt hown w.heap.size rfl).2
      have hto := hide (toNode_any ns[k] l1 k1 x1 u1 t1 wr (hp.rd.wide (by omega)) (hok _ (List.getElem_mem hlt)))
      have hxl := hown.1
      obtain ⟨la, lcap, hlv, _, _⟩ := hp.rl.sl
      obtain ⟨ta, tcap, htv, _, _⟩ := hp.rt.sl
      obtain ⟨ka, kcap, hkv, _, _⟩ := hp.sk
      obtain ⟨xa, xcap, hxv, _, _⟩ := hp.sx
      obtain ⟨ua, ucap, huv, _, _⟩ := hp.su
      have hpk : ns[k]? = some ns[k] := by simp [hlt]
      have HPk := hide hpk
      subst hlv htv hkv hxv huv
      clear hp hpk hok hv
      generalize ns[k] = p at *
      go_wp2_with fail
      refine hto.out.mono ?_
      rintro e w1 ⟨lv', kv', xv', uv', tv', rfl, o5, g1⟩
      have hown1 := World.ownsRow.kept hown g1 (.inr (by simp [Value.ownBlock]))
      have hN : Own5 (w.heap.size + 1) w1 p lv' kv' xv' uv' tv' := Own5.base o5 (by omega)
      have hc0 := World.ownsRow.cellAt hown1 (k * 8) (by omega)
      rw [List.getElem?_eq_getElem (by omega)] at hc0
      have hf0 := World.ownsRow.frozenAt hown1 (k * 8)
      have hc1 := World.ownsRow.cellAt hown1 (k * 8 + 1) (by omega)
      rw [List.getElem?_eq_getElem (by omega)] at hc1
      have hf1 := World.ownsRow.frozenAt hown1 (k * 8 + 1)
      have hc2 := World.ownsRow.cellAt hown1 (k * 8 + 2) (by omega)
      rw [List.getElem?_eq_getElem (by omega)] at hc2
      have hf2 := World.ownsRow.frozenAt hown1 (k * 8 + 2)
      have hc3 := World.ownsRow.cellAt hown1 (k * 8 + 3) (by omega)
      rw [List.getElem?_eq_getElem (by omega)] at hc3
      have hf3 := World.ownsRow.frozenAt hown1 (k * 8 + 3)
      have hc4 := World.ownsRow.cellAt hown1 (k * 8 + 4) (by omega)
      rw [List.getElem?_eq_getElem (by omega)] at hc4
      have hf4 := World.ownsRow.frozenAt hown1 (k * 8 + 4)
      have hc5 := World.ownsRow.cellAt hown1 (k * 8 + 5) (by omega)
      rw [List.getElem?_eq_getElem (by omega)] at hc5
      have hf5 := World.ownsRow.frozenAt hown1 (k * 8 + 5)
      have hc6 := World.ownsRow.cellAt hown1 (k * 8 + 6) (by omega)
      rw [List.getElem?_eq_getElem (by omega)] at hc6
      have hf6 := World.ownsRow.frozenAt hown1 (k * 8 + 6)
      have hc7 := World.ownsRow.cellAt hown1 (k * 8 + 7) (by omega)
      rw [List.getElem?_eq_getElem (by omega)] at hc7
      have hf7 := World.ownsRow.frozenAt hown1 (k * 8 + 7)
      have HS := hide (fun a0 a1 a2 a3 a4 a5 a6 a7 => stored8 hown1 (k * 8) a0 a1 a2 a3 a4 a5 a6 a7)
      have HB := hide (fun a0 a1 a2 a3 a4 a5 a6 a7 => grown_of_below (belowC8 (below_of_grown (grown_trans hgr g1)) w.heap.size (k * 8) a0 a1 a2 a3 a4 a5 a6 a7 (Nat.le_refl _)))
      obtain ⟨ra1, rc1, hv1, _, _⟩ := hN.1.rd.sl
      obtain ⟨ra2, rc2, hv2, _⟩ := hN.2.1.rd
      obtain ⟨ra3, rc3, hv3, _⟩ := hN.2.2.1.rd
      obtain ⟨ra4, rc4, hv4, _⟩ := hN.2.2.2.1.rd
      obtain ⟨ra5, rc5, hv5, _, _⟩ := hN.2.2.2.2.rd.sl
      subst hv1 hv2 hv3 hv4 hv5
      have HT2 : Hid (∀ j q, j < k + 1 → ns[j]? = some q → ∃ lv kv xv uv tv, At8 (Go.Proofs.YtalkhnhhaiigiaaGreatDoor.set8 xs (k * 8) (.int .i64 p.k) (.slice ra1 p.lead.length rc1) (.bool p.mem) (.slice ra2 p.key.length rc2) (.slice ra3 p.text.length rc3) (.slice ra4 p.units.length rc4) (.int .i64 p.cnt) (.slice ra5 p.tail.length rc5)) (j * 8) q lv kv xv uv tv ∧ Own5 (w.heap.size + 1) (setC8 w1 w.heap.size (k * 8) (.int .i64 p.k) (.slice ra1 p.lead.length rc1) (.bool p.mem) (.slice ra2 p.key.length rc2) (.slice ra3 p.text.length rc3) (.slice ra4 p.units.length rc4) (.int .i64 p.cnt) (.slice ra5 p.tail.length rc5)) q lv kv xv uv tv) := by
        intro j q hj hq
        by_cases hjk : j < k
        · obtain ⟨lv, kv, xv, uv, tv, ha, ho⟩ := HT.out j q hjk hq
          exact ⟨lv, kv, xv, uv, tv, ha.ne _ _ _ _ _ _ _ _ _ (by omega), (ho.later g1).set8 _ _ _ _ _ _ _ _ _ _ (by omega)⟩
        · have hje : j = k := by omega
          subst hje
          rw [HPk.out] at hq
          cases hq
          exact ⟨_, _, _, _, _, At8.self _ _ _ _ _ _ _ _ (by omega), hN.set8 _ _ _ _ _ _ _ _ _ _ (by omega)⟩
      clear HT hN hto HPk hgr o5
      go_wp2
      go_roundw
      case rel => exact ⟨k + 1, _, by omega, by go_num, HS.out _ _ _ _ _ _ _ _, HT2.out, HB.out _ _ _ _ _ _ _ _⟩
      case measure => simp [intOf]; omega
    · go_wp2
      go_ret
      have hkn : k = ns.length := by omega
      subst hkn
      exact ⟨_, _, xs, rfl, rfl, hown, fun j p hp => HT.out j p (List.getElem?_eq_some_iff.1 hp).1 hp, rfl, hgr⟩

end Go.Proofs.YtalkhnhhaiigiaaGreatDoor

