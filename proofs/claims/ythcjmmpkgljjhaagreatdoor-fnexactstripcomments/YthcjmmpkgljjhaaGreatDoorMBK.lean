import Derived.Test.YthcjmmpkgljjhaaGreatDoorMBJ
namespace Go.Proofs.YthcjmmpkgljjhaaGreatDoor
open Go.RowKit

theorem TrOk.left {w : World} {P Q : List (Addr × Kd)} (h : TrOk w (P ++ Q)) : TrOk w P := fun y hy => h y (List.mem_append_left _ hy)
theorem TrOk.right {w : World} {P Q : List (Addr × Kd)} (h : TrOk w (P ++ Q)) : TrOk w Q := fun y hy => h y (List.mem_append_right _ hy)
theorem TrOk.app {w : World} {P Q : List (Addr × Kd)} (h : TrOk w P) (h' : TrOk w Q) : TrOk w (P ++ Q) := fun y hy => (List.mem_append.1 hy).elim (h y) (h' y)
theorem TrOk.of {w : World} {P Q : List (Addr × Kd)} (h : TrOk w Q) (hs : ∀ y ∈ P, y ∈ Q) : TrOk w P := fun y hy => h y (hs y hy)

/-- A node's cells, as a walk reads them. -/
structure NF (W : World) (b o : Nat) (n : Nsh) : Prop where
  c1 : W.cell? ⟨b, o + 1, none⟩ = some (.slice n.lead.1 n.lead.2.1.length n.lead.2.2)
  c3 : W.cell? ⟨b, o + 3, none⟩ = some (.slice n.key.1 n.key.2.1 n.key.2.2)
  c4 : W.cell? ⟨b, o + 4, none⟩ = some (.slice n.text.1 n.text.2.1 n.text.2.2)
  c5 : W.cell? ⟨b, o + 5, none⟩ = some (.slice n.units.1 n.units.2.1 n.units.2.2)
  c7 : W.cell? ⟨b, o + 7, none⟩ = some (.slice n.tail.1 n.tail.2.1.length n.tail.2.2)
  k0 : ∃ z, W.cell? ⟨b, o, none⟩ = some (.int .i64 z)
  f0 : W.frozen? ⟨b, o, none⟩ = false
  k2 : ∃ z, W.cell? ⟨b, o + 2, none⟩ = some (.bool z)
  f2 : W.frozen? ⟨b, o + 2, none⟩ = false
  k6 : ∃ z, W.cell? ⟨b, o + 6, none⟩ = some (.int .i64 z)
  f6 : W.frozen? ⟨b, o + 6, none⟩ = false
theorem nf_of {w : World} {b o : Nat} {n : Nsh} {l : List (Addr × Kd)} (h : ShN w b o n) (ht : TrOk w (trN b o n)) (hl : TrOk w l) (s : Int) : NF (mrk w s l) b o n := by
  have h' := h.mrk hl s
  have t0 := ht (⟨b, o, none⟩, .i) (by simp [trN])
  have t2 := ht (⟨b, o + 2, none⟩, .o) (by simp [trN])
  have t6 := ht (⟨b, o + 6, none⟩, .i) (by simp [trN])
  exact ⟨h'.lead, h'.key, h'.text, h'.units, h'.tail, mrk_kind l w s _ .i hl t0.1, by rw [mrk_frozen]; exact t0.2, mrk_kind l w s _ .o hl t2.1, by rw [mrk_frozen]; exact t2.2, mrk_kind l w s _ .i hl t6.1, by rw [mrk_frozen]; exact t6.2⟩
theorem mrk_more (w : World) (s T : Int) (Q S : List (Addr × Kd)) (h : T = s + Q.length) : mrk (mrk w s Q) T S = mrk w s (Q ++ S) := by rw [mrk_app, h]
theorem mrk_one (w : World) (s T : Int) (Q : List (Addr × Kd)) (a : Addr) (q : Kd) (h : T = s + Q.length) : (mrk w s Q).setCell a (mkV q T) = mrk w s (Q ++ [(a, q)]) := by rw [mrk_snoc, h]

set_option maxHeartbeats 8000000 in
set_option maxRecDepth 100000 in
theorem markNodeS_tr (b off cap : Nat) (ns : List Nsh) (s : Int) (w : World) (h : TrOk w (trNs b off ns)) (hs : ∀ (j : Nat) (n : Nsh), ns[j]? = some n → ShN w b (off + j * 8) n) (hn : ns.length ≤ 1048576) (h0 : 0 ≤ s) (h1 : s + (trNs b off ns).length ≤ 4611686018427387904) :
    Calls Tryz.prog 23 #[.slice (some ⟨b, off, none⟩) ns.length cap, .int .i64 s] w fun e w' => e = .returned (.int .i64 (s + (trNs b off ns).length)) ∧ mrk w s (trNs b off ns) = w' := by
  have HH := hide h
  have HS := hide hs
  clear h hs
  go_enter Tryz.func23, Tryz.ntmps23
  go_wp2
  go_loopw [1, 5] (fun t i W => ∃ k : Nat, k ≤ ns.length ∧ i = .int .i64 k ∧ t = .int .i64 (s + (trNs b off (ns.take k)).length) ∧ W = mrk w s (trNs b off (ns.take k))) (fun _ i _ => ns.length - (intOf i).toNat)
  case atStart => exact ⟨0, Nat.zero_le _, rfl, by simp [trNs], by simp [trNs, mrk]⟩
  case round =>
    obtain ⟨k, hk, rfl, rfl, hW⟩ := hrel
    by_cases hlt : k < ns.length
    · have ht := trNs_take b ns off k hlt
      obtain ⟨r, hr⟩ := trNs_pre b ns off (k + 1)
      have hlen : (trNs b off ns).length = (trNs b off (ns.take k)).length + (trN b (off + k * 8) ns[k]).length + r.length := by rw [hr, ht]; simp; omega
      have okA : TrOk w (trNs b off (ns.take k) ++ trN b (off + k * 8) ns[k]) := by rw [← ht]; rw [hr] at HH; exact HH.out.left
      have sh := HS.out k ns[k] (by simp [hlt])
      have HN : Hid (trNs b off (ns.take (k + 1)) = trNs b off (ns.take k) ++ trN b (off + k * 8) ns[k]) := ht
      clear ht hr
      generalize ns[k] = n at *
      generalize trNs b off (ns.take k) = Q at *
      have okN := okA.right
      have okQ := okA.left
      have hln : (trN b (off + k * 8) n).length = 3 + (trK n.lead).length + n.key.2.1 + n.text.2.1 + n.units.2.1 + (trK n.tail).length := by
        simp only [trN, List.length_append, List.length_singleton, trL_lis _ _ sh.okk, trL_lis _ _ sh.okx, trL_lis _ _ sh.oku]; omega
      have s2 : TrOk w (trK n.lead) := okN.of (by simp only [trN, List.mem_append]; intro y hy; simp [hy])
      have s4 : TrOk w (trL .i n.key.1 n.key.2.1) := okN.of (by simp only [trN, List.mem_append]; intro y hy; simp [hy])
      have s5 : TrOk w (trL .b n.text.1 n.text.2.1) := okN.of (by simp only [trN, List.mem_append]; intro y hy; simp [hy])
      have s6 : TrOk w (trL .i n.units.1 n.units.2.1) := okN.of (by simp only [trN, List.mem_append]; intro y hy; simp [hy])
      have s8 : TrOk w (trK n.tail) := okN.of (by simp only [trN, List.mem_append]; intro y hy; simp [hy])
      have s1 : TrOk w [((⟨b, off + k * 8, none⟩ : Addr), Kd.i)] := okN.of (by simp [trN])
      have s3 : TrOk w [((⟨b, off + k * 8 + 2, none⟩ : Addr), Kd.o)] := okN.of (by simp [trN])
      have s7 : TrOk w [((⟨b, off + k * 8 + 6, none⟩ : Addr), Kd.i)] := okN.of (by simp [trN])
      have NFs := hide (fun (l : List (Addr × Kd)) (hl : TrOk w l) => nf_of sh okN hl s)
      have HSh := hide sh
      have O0 := hide okQ
      have O1 := hide (O0.out.app s1)
      have O2 := hide (O1.out.app s2)
      have O3 := hide (O2.out.app s3)
      have O4 := hide (O3.out.app s4)
      have O5 := hide (O4.out.app s5)
      have O6 := hide (O5.out.app s6)
      have O7 := hide (O6.out.app s7)
      have G2 := hide s2
      have G4 := hide s4
      have G5 := hide s5
      have G6 := hide s6
      have G8 := hide s8
      have hT0 : 0 ≤ s + (Q.length : Int) := by omega
      have hT1 : s + (Q.length : Int) + 3 + (trK n.lead).length + n.key.2.1 + n.text.2.1 + n.units.2.1 + (trK n.tail).length ≤ 4611686018427387904 := by omega
      have HLn := hide hln
      clear okA okN okQ s1 s2 s3 s4 s5 s6 s7 s8 sh hln hlen
      obtain ⟨T, hT⟩ : ∃ T : Int, T = s + Q.length := ⟨_, rfl⟩
      have HT := hide hT
      rw [← hT] at hT0 hT1 ⊢
      clear hT
      subst hW
      obtain ⟨Q1, hQ1⟩ : ∃ Q1, Q1 = Q ++ [((⟨b, off + k * 8, none⟩ : Addr), Kd.i)] := ⟨_, rfl⟩
      obtain ⟨Q2, hQ2⟩ : ∃ Q2, Q2 = Q1 ++ trK n.lead := ⟨_, rfl⟩
      obtain ⟨Q3, hQ3⟩ : ∃ Q3, Q3 = Q2 ++ [((⟨b, off + k * 8 + 2, none⟩ : Addr), Kd.o)] := ⟨_, rfl⟩
      obtain ⟨Q4, hQ4⟩ : ∃ Q4, Q4 = Q3 ++ trL .i n.key.1 n.key.2.1 := ⟨_, rfl⟩
      obtain ⟨Q5, hQ5⟩ : ∃ Q5, Q5 = Q4 ++ trL .b n.text.1 n.text.2.1 := ⟨_, rfl⟩
      obtain ⟨Q6, hQ6⟩ : ∃ Q6, Q6 = Q5 ++ trL .i n.units.1 n.units.2.1 := ⟨_, rfl⟩
      obtain ⟨Q7, hQ7⟩ : ∃ Q7, Q7 = Q6 ++ [((⟨b, off + k * 8 + 6, none⟩ : Addr), Kd.i)] := ⟨_, rfl⟩
      obtain ⟨Q8, hQ8⟩ : ∃ Q8, Q8 = Q7 ++ trK n.tail := ⟨_, rfl⟩
      have HQE : Hid (Q8 = Q ++ trN b (off + k * 8) n) := by unfold Hid; rw [hQ8, hQ7, hQ6, hQ5, hQ4, hQ3, hQ2, hQ1]; simp only [trN, List.append_assoc]
      rw [← hQ1] at O1 O2 O3 O4 O5 O6 O7
      rw [← hQ2] at O2 O3 O4 O5 O6 O7
      rw [← hQ3] at O3 O4 O5 O6 O7
      rw [← hQ4] at O4 O5 O6 O7
      rw [← hQ5] at O5 O6 O7
      rw [← hQ6] at O6 O7
      rw [← hQ7] at O7
      have T1 : Hid (T + 1 = s + Q1.length) := by unfold Hid; rw [hQ1, HT.out]; simp; omega
      have T2 : Hid (T + 1 + (trK n.lead).length = s + Q2.length) := by unfold Hid; rw [hQ2, List.length_append, T1.out]; simp; omega
      have T3 : Hid (T + 1 + (trK n.lead).length + 1 = s + Q3.length) := by unfold Hid; rw [hQ3, List.length_append, T2.out]; simp; omega
      have T4 : Hid (T + 1 + (trK n.lead).length + 1 + n.key.2.1 = s + Q4.length) := by unfold Hid; rw [hQ4, List.length_append, trL_lis _ _ HSh.out.okk, T3.out]; simp; omega
      have T5 : Hid (T + 1 + (trK n.lead).length + 1 + n.key.2.1 + n.text.2.1 = s + Q5.length) := by unfold Hid; rw [hQ5, List.length_append, trL_lis _ _ HSh.out.okx, T4.out]; simp; omega
      have T6 : Hid (T + 1 + (trK n.lead).length + 1 + n.key.2.1 + n.text.2.1 + n.units.2.1 = s + Q6.length) := by unfold Hid; rw [hQ6, List.length_append, trL_lis _ _ HSh.out.oku, T5.out]; simp; omega
      have T7 : Hid (T + 1 + (trK n.lead).length + 1 + n.key.2.1 + n.text.2.1 + n.units.2.1 + 1 = s + Q7.length) := by unfold Hid; rw [hQ7, List.length_append, T6.out]; simp; omega
      have T8 : Hid (T + 1 + (trK n.lead).length + 1 + n.key.2.1 + n.text.2.1 + n.units.2.1 + 1 + (trK n.tail).length = s + Q8.length) := by unfold Hid; rw [hQ8, List.length_append, T7.out]; simp; omega
      have e1 : Hid ((mrk w s Q).setCell ⟨b, off + k * 8, none⟩ (.int .i64 T) = mrk w s Q1) := by unfold Hid; rw [hQ1]; exact mrk_one w s T Q _ .i HT.out
      have e2 : Hid (mrk (mrk w s Q1) (T + 1) (trK n.lead) = mrk w s Q2) := by unfold Hid; rw [hQ2]; exact mrk_more w s _ Q1 _ T1.out
      have e3 : Hid ((mrk w s Q2).setCell ⟨b, off + k * 8 + 2, none⟩ (.bool ((T + 1 + (trK n.lead).length) % 3 == 0)) = mrk w s Q3) := by unfold Hid; rw [hQ3]; exact mrk_one w s _ Q2 _ .o T2.out
      have e4 : Hid (mrk (mrk w s Q3) (T + 1 + (trK n.lead).length + 1) (trL .i n.key.1 n.key.2.1) = mrk w s Q4) := by unfold Hid; rw [hQ4]; exact mrk_more w s _ Q3 _ T3.out
      have e5 : Hid (mrk (mrk w s Q4) (T + 1 + (trK n.lead).length + 1 + n.key.2.1) (trL .b n.text.1 n.text.2.1) = mrk w s Q5) := by unfold Hid; rw [hQ5]; exact mrk_more w s _ Q4 _ T4.out
      have e6 : Hid (mrk (mrk w s Q5) (T + 1 + (trK n.lead).length + 1 + n.key.2.1 + n.text.2.1) (trL .i n.units.1 n.units.2.1) = mrk w s Q6) := by unfold Hid; rw [hQ6]; exact mrk_more w s _ Q5 _ T5.out
      have e7 : Hid ((mrk w s Q6).setCell ⟨b, off + k * 8 + 6, none⟩ (.int .i64 (T + 1 + (trK n.lead).length + 1 + n.key.2.1 + n.text.2.1 + n.units.2.1)) = mrk w s Q7) := by unfold Hid; rw [hQ7]; exact mrk_one w s _ Q6 _ .i T6.out
      have e8 : Hid (mrk (mrk w s Q7) (T + 1 + (trK n.lead).length + 1 + n.key.2.1 + n.text.2.1 + n.units.2.1 + 1) (trK n.tail) = mrk w s Q8) := by unfold Hid; rw [hQ8]; exact mrk_more w s _ Q7 _ T7.out
      clear hQ1 hQ2 hQ3 hQ4 hQ5 hQ6 hQ7 hQ8 T1 T2 T3 T4 T5 T6 T7
      obtain ⟨c1, c3, c4, c5, c7, ⟨z0, k0⟩, f0, ⟨z2, k2⟩, f2, ⟨z6, k6⟩, f6⟩ := NFs.out Q O0.out
      go_wp2_with fail
      rw [e1.out]
      refine (markCommentS_lis n.lead (T + 1) (mrk w s Q1) (HSh.out.okl.mrk O1.out s) (G2.out.mrk O1.out s) (by omega) (by omega)).mono ?_
      rintro e w11 ⟨rfl, rfl⟩
      rw [e2.out]
      clear c1 c3 c4 c5 c7 k0 f0 k2 f2 k6 f6
      obtain ⟨c1, c3, c4, c5, c7, ⟨z0, k0⟩, f0, ⟨z2, k2⟩, f2, ⟨z6, k6⟩, f6⟩ := NFs.out Q2 O2.out
      go_wp2_with fail
      rw [e3.out]
      refine (markIntS_lis n.key (T + 1 + (trK n.lead).length + 1) (mrk w s Q3) HSh.out.okk (G4.out.mrk O3.out s) (by omega) (by omega)).mono ?_
      rintro e w13 ⟨rfl, rfl⟩
      rw [e4.out]
      clear c1 c3 c4 c5 c7 k0 f0 k2 f2 k6 f6
      obtain ⟨c1, c3, c4, c5, c7, ⟨z0, k0⟩, f0, ⟨z2, k2⟩, f2, ⟨z6, k6⟩, f6⟩ := NFs.out Q4 O4.out
      go_wp2_with fail
      refine (markByteS_lis n.text (T + 1 + (trK n.lead).length + 1 + n.key.2.1) (mrk w s Q4) HSh.out.okx (G5.out.mrk O4.out s) (by omega) (by omega)).mono ?_
      rintro e w14 ⟨rfl, rfl⟩
      rw [e5.out]
      clear c1 c3 c4 c5 c7 k0 f0 k2 f2 k6 f6
      obtain ⟨c1, c3, c4, c5, c7, ⟨z0, k0⟩, f0, ⟨z2, k2⟩, f2, ⟨z6, k6⟩, f6⟩ := NFs.out Q5 O5.out
      go_wp2_with fail
      refine (markIntS_lis n.units (T + 1 + (trK n.lead).length + 1 + n.key.2.1 + n.text.2.1) (mrk w s Q5) HSh.out.oku (G6.out.mrk O5.out s) (by omega) (by omega)).mono ?_
      rintro e w15 ⟨rfl, rfl⟩
      rw [e6.out]
      clear c1 c3 c4 c5 c7 k0 f0 k2 f2 k6 f6
      obtain ⟨c1, c3, c4, c5, c7, ⟨z0, k0⟩, f0, ⟨z2, k2⟩, f2, ⟨z6, k6⟩, f6⟩ := NFs.out Q6 O6.out
      go_wp2_with fail
      rw [e7.out]
      refine (markCommentS_lis n.tail (T + 1 + (trK n.lead).length + 1 + n.key.2.1 + n.text.2.1 + n.units.2.1 + 1) (mrk w s Q7) (HSh.out.okt.mrk O7.out s) (G8.out.mrk O7.out s) (by omega) (by omega)).mono ?_
      rintro e w17 ⟨rfl, rfl⟩
      rw [e8.out]
      clear c1 c3 c4 c5 c7 k0 f0 k2 f2 k6 f6
      go_wp2
      go_roundw
      case rel => exact ⟨k + 1, by omega, by go_num, by rw [HN.out, ← HQE.out, ← T8.out], by rw [HN.out, ← HQE.out]⟩
      case measure => simp [intOf]; omega
    · go_wp2
      go_ret
      have hkn : k = ns.length := by omega
      subst hkn
      rw [List.take_length] at *
      exact ⟨rfl, by first | rfl | exact hW.symm⟩
end Go.Proofs.YthcjmmpkgljjhaaGreatDoor

namespace Go.Proofs.YthcjmmpkgljjhaaGreatDoor
open Go.RowKit

theorem KdAt.grown {w w' : World} {x : Addr} {q : Kd} (h : KdAt w x q) (g : w.grownBy w' none) : KdAt w' x q := by
  cases q <;> (obtain ⟨z, h⟩ := h; exact ⟨z, g.cell h (by simp)⟩)
theorem frozen_grown {w w' : World} {x : Addr} {v : Value} (hc : w.cell? x = some v) (h : w.frozen? x = false) (g : w.grownBy w' none) : w'.frozen? x = false :=
  (World.frozen?_of_block (g.block x.block (World.block_lt_of_cell? w x hc) (by simp))).trans h
theorem TrOk.grown {w w' : World} {l : List (Addr × Kd)} (h : TrOk w l) (g : w.grownBy w' none) : TrOk w' l := fun y hy => by
  obtain ⟨h1, h2⟩ := h y hy
  obtain ⟨v, hv⟩ := Option.isSome_iff_exists.1 h1.isS
  exact ⟨h1.grown g, frozen_grown hv h2 g⟩
theorem ShC.grown {w w' : World} {b off : Nat} {xs : List Lis} (h : ShC w b off xs) (g : w.grownBy w' none) : ShC w' b off xs := fun j x hj => ⟨g.cell (h j x hj).1 (by simp), (h j x hj).2⟩
theorem Lcs.ok.grown {w w' : World} {x : Lcs} (h : Lcs.ok w x) (g : w.grownBy w' none) : Lcs.ok w' x := by
  obtain ⟨h1, h2⟩ := h
  refine ⟨?_, h2⟩
  rcases h1 with h | ⟨b, off, h, h'⟩
  · exact .inl h
  · exact .inr ⟨b, off, h, h'.grown g⟩
theorem ShN.grown {w w' : World} {b o : Nat} {n : Nsh} (h : ShN w b o n) (g : w.grownBy w' none) : ShN w' b o n :=
  ⟨g.cell h.lead (by simp), g.cell h.key (by simp), g.cell h.text (by simp), g.cell h.units (by simp), g.cell h.tail (by simp), h.okl.grown g, h.okk, h.okx, h.oku, h.okt.grown g⟩

/-- Nodes in memory. -/
abbrev Lns := Option Addr × List Nsh × Nat
def Lns.v (x : Lns) : Value := .slice x.1 x.2.1.length x.2.2
def trM : Lns → List (Addr × Kd)
  | (none, _, _) => []
  | (some a, ns, _) => trNs a.block a.off ns
def Lns.ok (w : World) (x : Lns) : Prop := (x.2.1 = [] ∨ ∃ b off, x.1 = some ⟨b, off, none⟩ ∧ ∀ (j : Nat) (n : Nsh), x.2.1[j]? = some n → ShN w b (off + j * 8) n) ∧ x.2.1.length ≤ 1048576
theorem trM_nil (a : Option Addr) (c : Nat) : trM (a, [], c) = [] := by cases a <;> rfl
theorem Lns.ok.grown {w w' : World} {x : Lns} (h : Lns.ok w x) (g : w.grownBy w' none) : Lns.ok w' x := by
  obtain ⟨h1, h2⟩ := h
  refine ⟨?_, h2⟩
  rcases h1 with h | ⟨b, off, h, h'⟩
  · exact .inl h
  · exact .inr ⟨b, off, h, fun j n hj => (h' j n hj).grown g⟩

set_option maxHeartbeats 1000000 in
set_option maxRecDepth 100000 in
theorem markNodeS_lis (x : Lns) (s : Int) (w : World) (hx : Lns.ok w x) (h : TrOk w (trM x)) (h0 : 0 ≤ s) (h1 : s + (trM x).length ≤ 4611686018427387904) :
    Calls Tryz.prog 23 #[x.v, .int .i64 s] w fun e w' => e = .returned (.int .i64 (s + (trM x).length)) ∧ mrk w s (trM x) = w' := by
  obtain ⟨a, xs, cap⟩ := x
  obtain ⟨hx, hn⟩ := hx
  simp only [Lns.v] at *
  rcases hx with rfl | ⟨b, off, rfl, hsh⟩
  · rw [trM_nil]
    clear h h1
    simp only [List.length_nil]
    go_enter Tryz.func23, Tryz.ntmps23
    go_wp2
    refine wp_loop_rounds 1 ?_
    rw [rounds_succ]
    go_wp2
    go_ret
    exact ⟨by simp, rfl⟩
  · exact markNodeS_tr b off cap xs s w h hsh hn h0 h1

set_option maxHeartbeats 1000000 in
set_option maxRecDepth 100000 in
theorem markTree_tr (x : Lns) (y : Lcs) (s : Int) (w : World) (hx : Lns.ok w x) (hy : Lcs.ok w y) (h : TrOk w (trM x ++ trK y)) (h0 : 0 ≤ s) (h1 : s + (trM x).length + (trK y).length ≤ 4611686018427387904) :
    Calls Tryz.prog 9 #[.agg #[x.v, y.v], .int .i64 s] w fun e w' => e = .returned (.int .i64 (s + (trM x).length + (trK y).length)) ∧ mrk (w.alloc (Obj.cells #[x.v, y.v] 30)) s (trM x ++ trK y) = w' := by
  have gA := World.grownBy_alloc w (Obj.cells #[x.v, y.v] 30) none
  have hh := h.grown gA
  have c1 : (w.alloc (Obj.cells #[x.v, y.v] 30)).cell? ⟨w.heap.size, 1, none⟩ = some (.slice y.1 y.2.1.length y.2.2) := by simp [go_sem, Lcs.v]
  have d1 := mrk_slice (s := s) hh.left c1
  have HA := hide (markNodeS_lis x s _ (hx.grown gA) hh.left h0 (by omega))
  have HB := hide (markCommentS_lis y (s + (trM x).length) (mrk (w.alloc (Obj.cells #[x.v, y.v] 30)) s (trM x)) ((hy.grown gA).mrk hh.left s) (hh.right.mrk hh.left s) (by omega) (by omega))
  rw [mrk_more _ _ _ _ _ rfl] at HB
  unfold Lns.v Lcs.v at *
  clear hh h hx hy gA
  go_enter Tryz.func9, Tryz.ntmps9
  go_wp2_with fail
  refine HA.out.mono ?_
  rintro e w1 ⟨rfl, rfl⟩
  go_wp2_with fail
  refine HB.out.mono ?_
  rintro e w2 ⟨rfl, rfl⟩
  go_wp2
  go_ret
  exact ⟨rfl, rfl⟩
end Go.Proofs.YthcjmmpkgljjhaaGreatDoor

namespace Go.Proofs.YthcjmmpkgljjhaaGreatDoor
open Go.RowKit

theorem Holds.head {w : World} {s : Int} {a : Addr} {q : Kd} {l : List (Addr × Kd)} (h : Holds w s ([(a, q)] ++ l)) : w.cell? a = some (mkV q s) ∧ Holds w (s + 1) l :=
  ⟨by have := h 0 (a, q) rfl; simpa using this, by have := h.right; simpa using this⟩
theorem Holds.lis {w : World} {s : Int} {q : Kd} {x : Lis} {l : List (Addr × Kd)} (hx : x.ok) (h : Holds w s (trL q x.1 x.2.1 ++ l)) : Holds w s (trL q x.1 x.2.1) ∧ Holds w (s + x.2.1) l :=
  ⟨h.left, by have := h.right; rw [trL_lis q x hx] at this; exact this⟩

set_option maxHeartbeats 1000000 in
set_option maxRecDepth 100000 in
theorem heldByteS_lis (x : Lis) (s : Int) (w : World) (hx : Lis.ok x) (h : Holds w s (trL .b x.1 x.2.1)) (h0 : 0 ≤ s) (h1 : s ≤ 4611686018427387904) :
    Calls Tryz.prog 45 #[.slice x.1 x.2.1 x.2.2, .int .i64 s] w fun e w' => e = .returned (.int .i64 (s + x.2.1)) ∧ w = w' := by
  obtain ⟨a, n, cap⟩ := x
  obtain ⟨hx, hn⟩ := hx
  simp only at *
  rcases hx with rfl | ⟨b, off, rfl⟩
  · clear h
    go_enter Tryz.func45, Tryz.ntmps45
    go_wp2
    refine wp_loop_rounds 1 ?_
    rw [rounds_succ]
    go_wp2
    go_ret
    exact ⟨by simp, rfl⟩
  · exact heldByteS_tr b off n cap s w h (by omega) h0 h1
set_option maxHeartbeats 1000000 in
set_option maxRecDepth 100000 in
theorem heldIntS_lis (x : Lis) (s : Int) (w : World) (hx : Lis.ok x) (h : Holds w s (trL .i x.1 x.2.1)) (h0 : 0 ≤ s) (h1 : s ≤ 4611686018427387904) :
    Calls Tryz.prog 44 #[.slice x.1 x.2.1 x.2.2, .int .i64 s] w fun e w' => e = .returned (.int .i64 (s + x.2.1)) ∧ w = w' := by
  obtain ⟨a, n, cap⟩ := x
  obtain ⟨hx, hn⟩ := hx
  simp only at *
  rcases hx with rfl | ⟨b, off, rfl⟩
  · clear h
    go_enter Tryz.func44, Tryz.ntmps44
    go_wp2
    refine wp_loop_rounds 1 ?_
    rw [rounds_succ]
    go_wp2
    go_ret
    exact ⟨by simp, rfl⟩
  · exact heldIntS_tr b off n cap s w h (by omega) h0 h1
set_option maxHeartbeats 1000000 in
set_option maxRecDepth 100000 in
theorem heldCommentS_nil (a : Option Addr) (cap : Nat) (s : Int) (w : World) :
    Calls Tryz.prog 26 #[.slice a 0 cap, .int .i64 s] w fun e w' => e = .returned (.int .i64 s) ∧ w = w' := by
  go_enter Tryz.func26, Tryz.ntmps26
  go_wp2
  refine wp_loop_rounds 1 ?_
  rw [rounds_succ]
  go_wp2
  go_ret
  exact ⟨rfl, rfl⟩
end Go.Proofs.YthcjmmpkgljjhaaGreatDoor

namespace Go.Proofs.YthcjmmpkgljjhaaGreatDoor
open Go.RowKit

set_option maxHeartbeats 8000000 in
set_option maxRecDepth 100000 in
theorem heldNodeS_tr (b off cap : Nat) (ns : List Nsh) (s : Int) (w : World) (h : Holds w s (trNs b off ns)) (hs : ∀ (j : Nat) (n : Nsh), ns[j]? = some n → ShN w b (off + j * 8) n) (hl : ∀ n ∈ ns, n.lead.2.1 = [] ∧ n.tail.2.1 = []) (hn : ns.length ≤ 1048576) (h0 : 0 ≤ s) (h1 : s + (trNs b off ns).length ≤ 4611686018427387904) :
    Calls Tryz.prog 25 #[.slice (some ⟨b, off, none⟩) ns.length cap, .int .i64 s] w fun e w' => e = .returned (.int .i64 (s + (trNs b off ns).length)) ∧ w = w' := by
  have HH := hide h
  have HS := hide hs
  have HL := hide hl
  clear h hs hl
  go_enter Tryz.func25, Tryz.ntmps25
  go_wp2
  go_loopw [1, 5] (fun t i W => ∃ k : Nat, k ≤ ns.length ∧ i = .int .i64 k ∧ t = .int .i64 (s + (trNs b off (ns.take k)).length) ∧ w = W) (fun _ i _ => ns.length - (intOf i).toNat)
  case atStart => exact ⟨0, Nat.zero_le _, rfl, by simp [trNs], rfl⟩
  case round =>
    obtain ⟨k, hk, rfl, rfl, rfl⟩ := hrel
    by_cases hlt : k < ns.length
    · have ht := trNs_take b ns off k hlt
      obtain ⟨r, hr⟩ := trNs_pre b ns off (k + 1)
      have hlen : (trNs b off ns).length = (trNs b off (ns.take k)).length + (trN b (off + k * 8) ns[k]).length + r.length := by rw [hr, ht]; simp; omega
      have hN : Holds w (s + (trNs b off (ns.take k)).length) (trN b (off + k * 8) ns[k]) := by
        rw [hr, ht] at HH; exact HH.out.left.right
      have sh := HS.out k ns[k] (by simp [hlt])
      obtain ⟨hle, hta⟩ := HL.out ns[k] (List.getElem_mem hlt)
      have HN : Hid (trNs b off (ns.take (k + 1)) = trNs b off (ns.take k) ++ trN b (off + k * 8) ns[k]) := ht
      clear ht hr
      generalize ns[k] = n at *
      generalize trNs b off (ns.take k) = Q at *
      obtain ⟨⟨la, lx, lc⟩, ⟨ka, kn, kc⟩, ⟨xa, xn, xc⟩, ⟨ua, un, uc⟩, ⟨ta, tx, tc⟩⟩ := n
      simp only at hle hta
      subst hle hta
      have hln : (trN b (off + k * 8) ⟨(la, [], lc), (ka, kn, kc), (xa, xn, xc), (ua, un, uc), (ta, [], tc)⟩).length = 3 + kn + xn + un := by
        have e1 := trL_lis .i (ka, kn, kc) sh.okk
        have e2 := trL_lis .b (xa, xn, xc) sh.okx
        have e3 := trL_lis .i (ua, un, uc) sh.oku
        simp only at e1 e2 e3
        simp only [trN, trK_nil, List.length_append, List.length_singleton, List.length_nil, e1, e2, e3]; omega
      simp only [trN, trK_nil, List.nil_append, List.append_nil] at hN
      obtain ⟨z0, hN⟩ := hN.head
      obtain ⟨z2, hN⟩ := hN.head
      obtain ⟨hK, hN⟩ := Holds.lis (x := (ka, kn, kc)) sh.okk hN
      obtain ⟨hX, hN⟩ := Holds.lis (x := (xa, xn, xc)) sh.okx hN
      obtain ⟨hU, hN⟩ := Holds.lis (x := (ua, un, uc)) sh.oku hN
      have z6 := hN 0 _ rfl
      simp only at z6 hX hU hN
      have c1 : w.cell? ⟨b, off + k * 8 + 1, none⟩ = some (.slice la 0 lc) := sh.lead
      have c3 : w.cell? ⟨b, off + k * 8 + 3, none⟩ = some (.slice ka kn kc) := sh.key
      have c4 : w.cell? ⟨b, off + k * 8 + 4, none⟩ = some (.slice xa xn xc) := sh.text
      have c5 : w.cell? ⟨b, off + k * 8 + 5, none⟩ = some (.slice ua un uc) := sh.units
      have c7 : w.cell? ⟨b, off + k * 8 + 7, none⟩ = some (.slice ta 0 tc) := sh.tail
      have HLn : Hid (((trN b (off + k * 8) ⟨(la, [], lc), (ka, kn, kc), (xa, xn, xc), (ua, un, uc), (ta, [], tc)⟩).length : Int) = 3 + kn + xn + un) := by unfold Hid; omega
      have hT0 : 0 ≤ s + (Q.length : Int) := by omega
      have hT1 : s + (Q.length : Int) + 3 + kn + xn + un ≤ 4611686018427387904 := by omega
      have HN2 : Hid (s + ((trNs b off (ns.take (k + 1))).length : Int) = s + Q.length + 1 + 1 + kn + xn + un + 1) := by
        unfold Hid; rw [HN.out, List.length_append]; have := HLn.out; push_cast; omega
      generalize s + (Q.length : Int) = T at *
      have A1 := hide (heldCommentS_nil la lc (T + 1) w)
      have A2 := hide (heldIntS_lis (ka, kn, kc) (T + 1 + 1) w sh.okk hK (by omega) (by omega))
      have A3 := hide (heldByteS_lis (xa, xn, xc) (T + 1 + 1 + kn) w sh.okx hX (by omega) (by omega))
      have A4 := hide (heldIntS_lis (ua, un, uc) (T + 1 + 1 + kn + xn) w sh.oku hU (by omega) (by omega))
      have A5 := hide (heldCommentS_nil ta tc (T + 1 + 1 + kn + xn + un + 1) w)
      simp only [mkV] at z0 z2 z6
      clear hK hX hU hN sh hln HLn hlen HN
      have q0 : (T != T) = false := by simp
      have hb : ((T + 1) % 3 == 0) = decide ((T + 1) % 3 = 0) := rfl
      obtain ⟨t, ht⟩ : ∃ t, decide ((T + 1) % 3 = 0) = t := ⟨_, rfl⟩
      rw [ht] at z2 hb
      clear ht
      cases t
      all_goals
        go_wp2_with fail
        refine A1.out.mono ?_
        rintro e w1 ⟨rfl, rfl⟩
        go_wp2_with fail
        refine A2.out.mono ?_
        rintro e w1 ⟨rfl, rfl⟩
        go_wp2_with fail
        refine A3.out.mono ?_
        rintro e w1 ⟨rfl, rfl⟩
        go_wp2_with fail
        refine A4.out.mono ?_
        rintro e w1 ⟨rfl, rfl⟩
        go_wp2_with fail
        refine A5.out.mono ?_
        rintro e w1 ⟨rfl, rfl⟩
        go_wp2
        go_roundw
        case rel => exact ⟨k + 1, by omega, by go_num, by rw [HN2.out], trivial⟩
        case measure => simp [intOf]; omega
    · go_wp2
      go_ret
      have hkn : k = ns.length := by omega
      subst hkn
      rw [List.take_length]
      exact ⟨rfl, rfl⟩
end Go.Proofs.YthcjmmpkgljjhaaGreatDoor

namespace Go.Proofs.YthcjmmpkgljjhaaGreatDoor
open Go.RowKit

theorem Holds.grown {w w' : World} {s : Int} {l : List (Addr × Kd)} (h : Holds w s l) (g : w.grownBy w' none) : Holds w' s l := fun j y hj => g.cell (h j y hj) (by simp)

set_option maxHeartbeats 1000000 in
set_option maxRecDepth 100000 in
theorem heldNodeS_lis (x : Lns) (s : Int) (w : World) (hx : Lns.ok w x) (hl : ∀ n ∈ x.2.1, n.lead.2.1 = [] ∧ n.tail.2.1 = []) (h : Holds w s (trM x)) (h0 : 0 ≤ s) (h1 : s + (trM x).length ≤ 4611686018427387904) :
    Calls Tryz.prog 25 #[x.v, .int .i64 s] w fun e w' => e = .returned (.int .i64 (s + (trM x).length)) ∧ w = w' := by
  obtain ⟨a, xs, cap⟩ := x
  obtain ⟨hx, hn⟩ := hx
  simp only [Lns.v] at *
  rcases hx with rfl | ⟨b, off, rfl, hsh⟩
  · rw [trM_nil]
    clear h h1
    simp only [List.length_nil]
    go_enter Tryz.func25, Tryz.ntmps25
    go_wp2
    refine wp_loop_rounds 1 ?_
    rw [rounds_succ]
    go_wp2
    go_ret
    exact ⟨by simp, rfl⟩
  · exact heldNodeS_tr b off cap xs s w h hsh hl hn h0 h1

set_option maxHeartbeats 1000000 in
set_option maxRecDepth 100000 in
/-- The tree holds its marks; its tail is empty. -/
theorem heldTree_tr (x : Lns) (a : Option Addr) (cap : Nat) (s : Int) (w : World) (hx : Lns.ok w x) (hl : ∀ n ∈ x.2.1, n.lead.2.1 = [] ∧ n.tail.2.1 = []) (h : Holds w s (trM x)) (h0 : 0 ≤ s) (h1 : s + (trM x).length ≤ 4611686018427387904) :
    Calls Tryz.prog 10 #[.agg #[x.v, .slice a 0 cap], .int .i64 s] w fun e w' => e = .returned (.int .i64 (s + (trM x).length)) ∧ w.grownBy w' none := by
  have gA := World.grownBy_alloc w (Obj.cells #[x.v, .slice a 0 cap] 30) none
  have HG := hide gA
  have HA := hide (heldNodeS_lis x s _ (hx.grown gA) hl (h.grown gA) h0 h1)
  have HB := hide (fun W => heldCommentS_nil a cap (s + (trM x).length) W)
  unfold Lns.v at *
  clear h hx gA hl
  go_enter Tryz.func10, Tryz.ntmps10
  go_wp2_with fail
  refine HA.out.mono ?_
  rintro e w1 ⟨rfl, rfl⟩
  go_wp2_with fail
  refine (HB.out _).mono ?_
  rintro e w2 ⟨rfl, rfl⟩
  go_wp2
  go_ret
  exact ⟨rfl, HG.out⟩
end Go.Proofs.YthcjmmpkgljjhaaGreatDoor

