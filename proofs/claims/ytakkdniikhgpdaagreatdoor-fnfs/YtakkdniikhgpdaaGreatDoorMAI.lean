import Derived.Test.YtakkdniikhgpdaaGreatDoorMAH
namespace Go.Proofs.YtakkdniikhgpdaaGreatDoor
open Go.RowKit
attribute [-go_sem] Builtin.append_

/-- What a draw of nodes leaves. -/
def Ndk (F : Nat) (v : Value) (zs : List Int) (Γ : Gk) (w : World) (r : List Nod × Nat) (e : Ending) (w' : World) : Prop := ∃ a n c, e = .returned (.slice a n c) ∧ ∃ Γ', JN (Ful Γ') (a, n, c) r.1 ∧ Lo w.heap.size (a, n, c) ∧ KD F v zs Γ w r.2 Γ' w'
theorem JC.rle {R R' : Rk} (h : Rle R R') {v : Sv} {cs : List Cm} (hc : JC R v cs) : JC R' v cs := hc.mono h.b h.c
theorem Rle.refl (R : Rk) : Rle R R := ⟨fun _ _ h => h, fun _ _ h => h, fun _ _ h => h⟩
theorem Rle.trans {R R' R'' : Rk} (h : Rle R R') (h' : Rle R' R'') : Rle R R'' := ⟨fun v ys x => h'.b v ys (h.b v ys x), fun v ys x => h'.i v ys (h.i v ys x), fun v ys x => h'.c v ys (h.c v ys x)⟩
section
variable {F : Nat} {v : Value} {zs : List Int} {i : Nat} {Γ Γ1 : Gk} {w w1 : World}
theorem Ful.blk {k : KK} {vv : Sv} {ys : List El} {Γ' : Gk} (h : Ful Γ k vv ys) (hg : ∀ b y, vv.1 = some ⟨b, 0, none⟩ → Γ b = some y → Γ' b = some y) : Ful Γ' k vv ys := by
  rcases h with h | ⟨b, m, h1, h2, h3⟩
  · exact .inl h
  · exact .inr ⟨b, m, h1, hg b _ (by rw [h1]) h2, h3⟩
/-- A node in a block of its own, as a list. -/
theorem KD.lit (h : KD F v zs Γ w i Γ1 w1) {k n : Int} {l y x u t : Sv} {mm : Bool} {p : Nod} (hp : JD (Ful Γ1) (.d k l mm y x u n t) p) (arr : Array Value) (ha : arr = (El.d k l mm y x u n t).en.toArray) :
    ∃ Γ', KD F v zs Γ w i Γ' (w1.alloc (.cells arr 119)) ∧ JN (Ful Γ') (some ⟨w1.heap.size, 0, none⟩, 1, 1) [p] ∧ Ful Γ' .nd (some ⟨w1.heap.size, 0, none⟩, 1, 1) [.d k l mm y x u n t] ∧ Rle (Ful Γ1) (Ful Γ') ∧ Γ' w1.heap.size = some (.nd, 1, [.d k l mm y x u n t]) ∧ ∀ b, b ≠ w1.heap.size → Γ' b = Γ1 b := by
  have hD := h.new1 (.d k l mm y x u n t) arr ha
  have hr : Rle (Ful Γ1) (Ful (updK Γ1 w1.heap.size (.nd, 1, [.d k l mm y x u n t]))) := rle_nd (fun k y e => by rw [h.st.mt.gone (Nat.le_refl _)] at e; cases e)
  have hf : Ful (updK Γ1 w1.heap.size (.nd, 1, [.d k l mm y x u n t])) .nd (some ⟨w1.heap.size, 0, none⟩, 1, 1) [.d k l mm y x u n t] := .inr ⟨_, 1, rfl, updK_at _ _ _, by unfold maxLen; omega⟩
  exact ⟨_, hD, ⟨_, hf, JD.mono hr hp, trivial⟩, hf, hr, updK_at _ _ _, fun b hb => updK_ne hb⟩
/-- A node's block, of which a cell is written. -/
theorem KD.field (h : KD F v zs Γ w i Γ1 w1) {b m : Nat} {y y' : El} {ys : List El} (hb : Γ1 b = some (.nd, m, y :: ys)) (hlo : w.heap.size ≤ b) (f : Nat) {u : Value} (hf : f < 8) (he : y'.en = y.en.set f u) (hkd : y'.kd = .nd) :
    ∃ Γ', KD F v zs Γ w i Γ' (w1.setCell ⟨b, f, none⟩ u) ∧ Γ' b = some (.nd, m, y' :: ys) ∧ Rle (Ful Γ1) (Ful Γ') ∧ ∀ c, c ≠ b → Γ' c = Γ1 c :=
  ⟨_, h.set0 hb hlo f hf he hkd, updK_at _ _ _, rle_nd (fun k y e => by rw [hb] at e; cases e; rfl), fun c hc => updK_ne hc⟩
end

set_option maxHeartbeats 8000000 in
set_option maxRecDepth 100000 in
theorem drawNodes_k {F : Nat} {v : Value} {zs : List Int} (hz : Zk zs) (rare : Int) (h1 : 1 ≤ rare) (h2 : rare ≤ 1000000) (d : Nat) (hd4 : d ≤ 4) (ih : ∀ e, d = e + 1 → ∀ (i : Nat) (Γ : Gk) (w : World), KS F v zs i Γ w → Calls Tryz.prog 66 #[.pointer (some ⟨F, 0, none⟩), .int .i64 (e : Int), .int .i64 rare] w fun r w' => Ndk F v zs Γ w (dNodes zs rare e i) r w') (i : Nat) (Γ : Gk) (w : World) (hs : KS F v zs i Γ w) :
    Calls Tryz.prog 66 #[.pointer (some ⟨F, 0, none⟩), .int .i64 (d : Int), .int .i64 rare] w fun r w' => Ndk F v zs Γ w (dNodes zs rare d i) r w' := by
  have HZ := hide hz
  have HN := hide (hs.next hz)
  have hkb := nx_bd hz.by' i
  have H1 := hide (dN_scal (zs := zs) (rare := rare) (i := i) (d := d))
  have H2 := hide (dN_num (zs := zs) (rare := rare) (i := i) (d := d))
  have H3 := hide (dN_str (zs := zs) (rare := rare) (i := i) (d := d))
  have H4 := hide (fun e => dN_cont (zs := zs) (rare := rare) (i := i) (d := e))
  have IH := hide ih
  generalize (nx zs i).1 = k0 at *
  generalize (nx zs i).2 = j0 at *
  obtain ⟨hk0, hk1⟩ := hkb
  clear hs hz ih
  go_enter Tryz.func66, Tryz.ntmps66
  go_wp2_with fail
  refine HN.out.mono ?_
  rintro e w1 ⟨rfl, hD1⟩
  have HD1 := hide hD1
  have HC := hide (drawComments_k hD1.st HZ.out rare h1 h2)
  generalize dComs zs rare j0 = L at *
  clear HN hD1
  go_wp2_with fail
  refine HC.out.mono ?_
  rintro e w2 ⟨a1, n1, c1, rfl, Γ2, hJ2, hD2'⟩
  have D2 := hide (HD1.out.trans hD2')
  have HJ2 := hide hJ2
  clear HC HD1 hD2' hJ2
  have hkk0 : 0 ≤ k0 % 16 := by omega
  have hkk1 : k0 % 16 ≤ 15 := by omega
  have hnil : ∀ {G : Gk}, JC (Ful G) nilS [] := fun {G} => ⟨[], .inl ⟨rfl, rfl⟩, trivial⟩
  have hnI : ∀ {G : Gk}, JI (Ful G) nilS [] := fun {G} => .inl ⟨rfl, rfl⟩
  have hnB : ∀ {G : Gk}, JB (Ful G) nilS [] := fun {G} => .inl ⟨rfl, rfl⟩
  have HNl := hide (And.intro @hnil (And.intro @hnI @hnB))
  clear hnil hnI hnB
  by_cases hS : k0 % 16 < 3 ∨ (d = 0 ∧ 9 < k0 % 16)
  · have HE := hide (H1.out hS)
    have hS' : k0 % 16 < 3 ∨ (¬ k0 % 16 < 3 ∧ (d : Int) ≤ 0 ∧ 9 < k0 % 16) := by omega
    clear hS H1
    rcases hS' with hA | ⟨hA, hd0, h9⟩
    all_goals
      have hp : JD (Ful Γ2) (.d (k0 % 16 % 3) (a1, n1, c1) false nilS nilS nilS (0) nilS) { nod0 with k := k0 % 16 % 3, lead := L.1 } := ⟨⟨rfl, rfl, rfl⟩, HJ2.out, HNl.out.2.1, HNl.out.2.2, HNl.out.2.1, HNl.out.1⟩
      obtain ⟨Γ3, D3, _, _, r3, _, _⟩ := D2.out.lit hp #[.int .i64 (k0 % 16 % 3), .slice a1 n1 c1, .bool false, .slice none 0 0, .slice none 0 0, .slice none 0 0, .int .i64 0, .slice none 0 0] rfl
      obtain ⟨Γ4, D4, j4, _⟩ := D3.lit (JD.mono r3 hp) #[.int .i64 (k0 % 16 % 3), .slice a1 n1 c1, .bool false, .slice none 0 0, .slice none 0 0, .slice none 0 0, .int .i64 0, .slice none 0 0] rfl
      have HD4 := hide D4
      have HJ4 := hide j4
      have hlo := D2.out.gr.size
      clear D3 D4 j4 r3 hp HJ2 D2 IH H2 H3 H4
      go_wp2
      go_ret
      rw [HE.out]
      exact ⟨_, _, _, rfl, Γ4, by simpa only [World.size_alloc] using HJ4.out, fun a e => by cases e; simp; omega, HD4.out⟩
  have hA : ¬ k0 % 16 < 3 := fun h => hS (.inl h)
  by_cases hB : k0 % 16 < 6
  · have HE := hide (H2.out hS (by omega))
    have hS' : ¬ (d : Int) ≤ 0 ∨ ((d : Int) ≤ 0 ∧ ¬ 9 < k0 % 16) := by omega
    clear hS H2
    rcases hS' with hd0 | ⟨hd0, h9⟩
    all_goals
      have hp : JD (Ful Γ2) (.d (3) (a1, n1, c1) false nilS nilS nilS (0) nilS) { nod0 with k := 3, lead := L.1 } := ⟨⟨rfl, rfl, rfl⟩, HJ2.out, HNl.out.2.1, HNl.out.2.2, HNl.out.2.1, HNl.out.1⟩
      obtain ⟨Γ3, D3, _, _, r3, hb3, _⟩ := D2.out.lit hp #[.int .i64 (3), .slice a1 n1 c1, .bool false, .slice none 0 0, .slice none 0 0, .slice none 0 0, .int .i64 0, .slice none 0 0] rfl
      have HNu := hide (drawNumber_k D3.st HZ.out)
      have hwd := WdK.at (L := numW) (by decide) ((nx zs L.2).1 % 22).toNat
      have HDn : Hid (dNum zs L.2 = (numW.getD ((nx zs L.2).1 % 22).toNat [], (nx zs L.2).2)) := rfl
      have HD3 := hide D3
      have HB3 := hide hb3
      have HJ3 := hide (JC.rle r3 HJ2.out)
      have hlo := D2.out.gr.size
      rw [HDn.out] at HNu
      clear D3 hp r3 hb3 HJ2 D2 IH H1 H3 H4
      generalize numW.getD ((nx zs L.2).1 % 22).toNat [] = t at *
      generalize (nx zs L.2).2 = jn at *
      go_wp2_with fail
      refine HNu.out.mono ?_
      rintro e w4 ⟨rfl, D4⟩
      obtain ⟨cap, w5, hrun, D5, hcp, _, sz5⟩ := (HD3.out.trans D4).conv t hwd.2 (by omega)
      have hlt := D4.gr.size
      simp only [World.size_alloc] at hlt
      have hn5 : Γ3 w4.heap.size = none := D4.st.mt.gone (Nat.le_refl _)
      have x5 : Gex Γ3 (updK Γ3 w4.heap.size (.bs, cap, t.map .b)) := (Gex.refl _).upd hn5
      obtain ⟨⟨e0, e1, e2, e3, e4, e5, e6, e7⟩, hfz⟩ := D5.st.mt.eight (x5 _ _ HB3.out)
      have fz4 := hfz 4 (by decide)
      obtain ⟨Γ6, D6, b6, r6, _⟩ := D5.field (x5 _ _ HB3.out) hlo 4 (y' := (.d (3) (a1, n1, c1) false nilS (some ⟨w4.heap.size, 0, none⟩, t.length, cap) nilS (0) nilS)) (u := .slice (some ⟨w4.heap.size, 0, none⟩) t.length cap) (by decide) rfl rfl
      have hp6 : JD (Ful Γ6) ((.d (3) (a1, n1, c1) false nilS (some ⟨w4.heap.size, 0, none⟩, t.length, cap) nilS (0) nilS)) { nod0 with k := 3, lead := L.1, text := t } := ⟨⟨rfl, rfl, rfl⟩, (JC.rle r6 (JC.rle x5.rle HJ3.out)), HNl.out.2.1, r6.b _ _ (.inr ⟨w4.heap.size, cap, by simp, updK_at _ _ _, hcp⟩), HNl.out.2.1, HNl.out.1⟩
      obtain ⟨Γ7, D7, j7, _⟩ := D6.lit hp6 #[.int .i64 3, .slice a1 n1 c1, .bool false, .slice none 0 0, .slice (some ⟨w4.heap.size, 0, none⟩) t.length cap, .slice none 0 0, .int .i64 0, .slice none 0 0] rfl
      have HD7 := hide D7
      have HJ7 := hide j7
      have hs5 : w2.heap.size + 1 ≤ w5.heap.size := by omega
      simp only [Sv.v] at e0 e1 e2 e3 e4 e5 e6 e7
      clear HNu D4 D5 D6 D7 j7 hp6 r6 b6 x5 hfz HD3 HB3 HJ3 sz5
      generalize w2.heap.size = Nb at *
      go_wp2
      go_ret
      rw [HE.out, HDn.out]
      exact ⟨_, _, _, rfl, Γ7, by simpa only [World.size_setCell] using HJ7.out, fun a e => by cases e; simp; omega, HD7.out⟩
  by_cases hC : k0 % 16 < 9 ∨ d = 0
  · have HE := hide (H3.out hS (by omega) hC)
    have hS' : (¬ (d : Int) ≤ 0 ∧ k0 % 16 < 9) ∨ ((d : Int) ≤ 0 ∧ ¬ 9 < k0 % 16 ∧ k0 % 16 < 9) ∨ ((d : Int) ≤ 0 ∧ ¬ 9 < k0 % 16 ∧ ¬ k0 % 16 < 9) := by omega
    clear hS hC H3
    rcases hS' with ⟨hd0, h8⟩ | ⟨hd0, h9, h8⟩ | ⟨hd0, h9, h8⟩
    all_goals
      have hp : JD (Ful Γ2) (.d (4) (a1, n1, c1) false nilS nilS nilS (0) nilS) { nod0 with k := 4, lead := L.1 } := ⟨⟨rfl, rfl, rfl⟩, HJ2.out, HNl.out.2.1, HNl.out.2.2, HNl.out.2.1, HNl.out.1⟩
      obtain ⟨Γ3, D3, _, _, r3, hb3, _⟩ := D2.out.lit hp #[.int .i64 (4), .slice a1 n1 c1, .bool false, .slice none 0 0, .slice none 0 0, .slice none 0 0, .int .i64 0, .slice none 0 0] rfl
      have HNu := hide (drawUnits_k D3.st HZ.out 7 (by omega) (by omega))
      have HD3 := hide D3
      have HB3 := hide hb3
      have HJ3 := hide (JC.rle r3 HJ2.out)
      have hlo := D2.out.gr.size
      clear D3 hp r3 hb3 HJ2 D2 IH H1 H2 H4
      generalize dus zs 7 L.2 = U at *
      go_wp2_with fail
      refine HNu.out.mono ?_
      rintro e w5 ⟨ua, un, uc, rfl, Γ5, hJ5, _, D4⟩
      have D5 := HD3.out.trans D4
      have hlt := D4.gr.size
      simp only [World.size_alloc] at hlt
      obtain ⟨⟨e0, e1, e2, e3, e4, e5, e6, e7⟩, hfz⟩ := D5.st.mt.eight (D4.ex _ _ HB3.out)
      have fz5 := hfz 5 (by decide)
      obtain ⟨Γ6, D6, b6, r6, _⟩ := D5.field (D4.ex _ _ HB3.out) hlo 5 (y' := (.d (4) (a1, n1, c1) false nilS nilS (ua, un, uc) (0) nilS)) (u := .slice ua un uc) (by decide) rfl rfl
      have hp6 : JD (Ful Γ6) ((.d (4) (a1, n1, c1) false nilS nilS (ua, un, uc) (0) nilS)) { nod0 with k := 4, lead := L.1, units := U.1 } := ⟨⟨rfl, rfl, rfl⟩, (JC.rle r6 (JC.rle D4.ex.rle HJ3.out)), HNl.out.2.1, HNl.out.2.2, r6.i _ _ hJ5, HNl.out.1⟩
      obtain ⟨Γ7, D7, j7, _⟩ := D6.lit hp6 #[.int .i64 4, .slice a1 n1 c1, .bool false, .slice none 0 0, .slice none 0 0, .slice ua un uc, .int .i64 0, .slice none 0 0] rfl
      have HD7 := hide D7
      have HJ7 := hide j7
      simp only [Sv.v] at e0 e1 e2 e3 e4 e5 e6 e7
      clear HNu D4 D5 D6 D7 j7 hp6 r6 b6 hfz HD3 HB3 HJ3 hJ5
      generalize w2.heap.size = Nb at *
      go_wp2
      go_ret
      rw [HE.out]
      exact ⟨_, _, _, rfl, Γ7, by simpa only [World.size_setCell] using HJ7.out, fun a e => by cases e; simp; omega, HD7.out⟩
  obtain ⟨d', rfl⟩ : ∃ d', d = d' + 1 := ⟨d - 1, by omega⟩
  have hd0 : ¬ (d' : Int) + 1 ≤ 0 := by omega
  have h8 : ¬ k0 % 16 < 9 := fun h => hC (.inl h)
  rw [show ((d' + 1 : Nat) : Int) = (d' : Int) + 1 by omega]
  have hE := H4.out d' (by omega) (by omega)
  rw [show k0 % 16 % 2 = k0 % 2 by omega] at hE
  obtain ⟨ob, hob'⟩ : ∃ ob, ob = decide (k0 % 2 = 1) := ⟨_, rfl⟩
  rw [← hob'] at hE
  have hob : (ob = true ∧ (5 + k0 % 2 == 6) = true) ∨ (ob = false ∧ (5 + k0 % 2 == 6) = false) := by
    by_cases h : k0 % 2 = 1
    · exact .inl ⟨by rw [hob']; simpa using h, by rw [h]; rfl⟩
    · have h0 : k0 % 2 = 0 := by omega
      exact .inr ⟨by rw [hob']; simpa using h, by rw [h0]; rfl⟩
  unfold dBel at hE
  have hp : JD (Ful Γ2) (.d (5 + k0 % 2) (a1, n1, c1) false nilS nilS nilS (0) nilS) { nod0 with k := 5 + k0 % 2, lead := L.1 } := ⟨⟨rfl, rfl, rfl⟩, HJ2.out, HNl.out.2.1, HNl.out.2.2, HNl.out.2.1, HNl.out.1⟩
  obtain ⟨Γ3, D3, _, _, r3, hb3, _⟩ := D2.out.lit hp #[.int .i64 (5 + k0 % 2), .slice a1 n1 c1, .bool false, .slice none 0 0, .slice none 0 0, .slice none 0 0, .int .i64 0, .slice none 0 0] rfl
  have HNx := hide (D3.next HZ.out)
  have hkb4 := nx_bd HZ.out.by' L.2
  have HB3 := hide hb3
  have HJ3 := hide (JC.rle r3 HJ2.out)
  have hlo := D2.out.gr.size
  replace IH := hide (IH.out d' rfl)
  generalize (nx zs L.2).1 = k4 at *
  generalize (nx zs L.2).2 = j4 at *
  obtain ⟨M, hM⟩ : ∃ M : Nat, k4 % 5 = (M : Int) := ⟨(k4 % 5).toNat, by omega⟩
  have hM4 : M ≤ 4 := by omega
  rw [hM, Int.toNat_natCast] at hE
  obtain ⟨I, hI⟩ : ∃ I : Nat → List Nod × Nat × Nat, I = fun j => dItems zs (dNodes zs rare d') ob j j4 := ⟨_, rfl⟩
  have HGo : Hid (∀ j, (I j).2.1 = j → (j < 2 ∨ (I j).2.2 < zs.length) → I (j + 1) = ((I j).1 ++ (dItem zs (dNodes zs rare d') ob (I j).2.2).1, j + 1, (dItem zs (dNodes zs rare d') ob (I j).2.2).2)) := fun j a b => by rw [hI] at a b ⊢; exact dItems_go a b
  have HSt : Hid (∀ j, (I j).2.1 = j → ¬ (j < 2 ∨ (I j).2.2 < zs.length) → ∀ M, j ≤ M → I M = I j) := fun j a b => by rw [hI] at a b ⊢; exact dItems_stop a b
  have HLe : Hid (∀ j, (I j).1.length ≤ j * nBk d') := fun j => by rw [hI]; exact dItems_len (fun p => (dNodes_len d' p).2) j j4
  have HI0 : Hid (I 0 = ([], 0, j4)) := by rw [hI]; rfl
  rw [show dItems zs (dNodes zs rare d') ob M j4 = I M by rw [hI]] at hE
  have HE := hide hE
  have HM := hide hM
  have HOb := hide hob
  have hnB := nBk_le d' (by omega)
  have hnB1 := nBk_pos d'
  clear hI hE hM D3 hp r3 hb3 HJ2 H1 H2 H3 H4 hob' hob hS hC
  go_wp2_with fail
  refine HNx.out.mono ?_
  rintro e w4 ⟨rfl, hD4, _⟩
  have HD4 := hide hD4
  clear HNx hD4 D2
  generalize w2.heap.size = Nb at *
  go_wp2
  rw [HM.out]
  go_loopw [10, 11] (fun o t W => ∃ (j : Nat) (Γ1 : Gk) (a : Option Addr) (cn c : Nat) (be : List El), j ≤ M ∧ t = .int .i64 j ∧ o = .slice a cn c ∧ (I j).2.1 = j ∧ Ful Γ1 .nd (a, cn, c) be ∧ Js (JD (Ful Γ1)) be (I j).1 ∧ Lo (Nb + 1) (a, cn, c) ∧ Γ1 Nb = some (.nd, 1, [.d (5 + k0 % 2) (a1, n1, c1) false nilS nilS nilS ((j : Int)) nilS]) ∧ JC (Ful Γ1) (a1, n1, c1) L.1 ∧ KD F v zs Γ w (I j).2.2 Γ1 W)
    (fun _ t _ => M - (intOf t).toNat)
  case atStart => exact ⟨0, Γ3, none, 0, 0, [], Nat.zero_le _, rfl, rfl, by rw [HI0.out], .inl ⟨rfl, rfl⟩, by rw [HI0.out]; exact trivial, Lo.nil _, HB3.out, HJ3.out, by rw [HI0.out]; exact HD4.out⟩
  case round =>
    obtain ⟨j, Γc, ba, cnt, bc, be, hj, rfl, rfl, hIj, hFc, hJc, hLc, hNc, hJL, hDc⟩ := hrel
    have hle := HLe.out j
    have hcb : cnt ≤ 6000 := by
      have h5 : j * nBk d' ≤ 4 * nBk d' := Nat.mul_le_mul_right _ (by omega)
      have h6 := hFc.n
      have h7 := hJc.len
      omega
    clear hle
    have hbb : ∀ b, (ba, cnt, bc).1 = some ⟨b, 0, none⟩ → b < wr.heap.size := fun b e => by
      rcases id hFc with ⟨h0, _⟩ | ⟨b', m', h0, h1, _⟩
      · cases h0; cases e
      · cases h0; cases e; exact (hDc.st.mt.lt h1).2
    have HDc := hide hDc
    clear HD4 HB3 HJ3 HI0
    by_cases hlm : j < M
    · have hlm' : (j : Int) < (M : Int) := by omega
      rcases (show j < 2 ∨ ¬ j < 2 by omega) with hl2 | hl2
      case' inr =>
        have hl2' : ¬ (j : Int) < 2 := by omega
        have HLf := hide (hDc.st.left HZ.out)
        have hzl := HZ.out.ln
        go_wp2_with fail
        refine HLf.out.mono ?_
        rintro e wc ⟨rfl, gL⟩
        have HDc' := hide (HDc.out.keep gL)
        have hbb' : ∀ b, (ba, cnt, bc).1 = some ⟨b, 0, none⟩ → b < wc.heap.size := fun b e => Nat.lt_of_lt_of_le (hbb b e) gL.size
        clear HLf HDc hDc gL hbb
        rename Hid (KD F v zs Γ w (I j).2.2 Γc wc) => HDc
        rename ∀ b, (ba, cnt, bc).1 = some ⟨b, 0, none⟩ → b < wc.heap.size => hbb
        by_cases hpos : (I j).2.2 < zs.length
        case neg =>
          have hpos' : ¬ (0 : Int) < ((zs.length - (I j).2.2 : Nat) : Int) := by omega
          have hIM := HSt.out j hIj (by omega) M (by omega)
          have HCm := hide (drawComments_k HDc.out.st HZ.out rare h1 h2)
          rw [hIM] at HE
          generalize dComs zs rare (I j).2.2 = TT at *
          go_wp2_with fail
          refine HCm.out.mono ?_
          rintro e w6 ⟨ta, tn, tc, rfl, Γ6, hJt, D6'⟩
          have D6 := HDc.out.trans D6'
          have hN6 := D6'.ex _ _ hNc
          obtain ⟨⟨n0, n1', n2, n3, n4, n5, n6, n7⟩, nfz⟩ := D6.st.mt.eight hN6
          have nf7 := nfz 7 (by decide)
          obtain ⟨Γ7, D7, b7, r7, o7⟩ := D6.field hN6 (by omega) 7 (y' := .d (5 + k0 % 2) (a1, n1, c1) false nilS nilS nilS ((j : Int)) (ta, tn, tc)) (u := .slice ta tn tc) (by decide) rfl rfl
          have hF7 : Ful Γ7 .nd (ba, cnt, bc) be := (D6'.ex.ful hFc).blk (fun b y e h => by
            have := hLc ⟨b, 0, none⟩ e
            rw [o7 b (by simp at this; omega)]
            exact h)
          have hp7 : JD (Ful Γ7) (.d (5 + k0 % 2) (a1, n1, c1) false nilS nilS nilS ((j : Int)) (ta, tn, tc)) { nod0 with k := 5 + k0 % 2, lead := L.1, cnt := (j : Int), tail := TT.1 } := ⟨⟨rfl, rfl, rfl⟩, JC.rle (D6'.ex.rle.trans r7) hJL, HNl.out.2.1, HNl.out.2.2, HNl.out.2.1, JC.rle r7 hJt⟩
          obtain ⟨Γ8, D8, _, hF8, r8, b8, o8⟩ := D7.lit hp7 #[.int .i64 (5 + k0 % 2), .slice a1 n1 c1, .bool false, .slice none 0 0, .slice none 0 0, .slice none 0 0, .int .i64 (j : Int), .slice ta tn tc] rfl
          have hs7 := D7.gr.size
          have hlt7 : ∀ b y, Γ7 b = some y → b < w6.heap.size := fun b y h => by
            have := (D7.st.mt.lt (b := b) (k := y.1) (m := y.2.1) (ys := y.2.2) h).2
            simpa using this
          have hF8' : Ful Γ8 .nd (ba, cnt, bc) be := hF7.blk (fun b y e h => by
            have := hlt7 b y h
            rw [o8 b (by simp; omega)]
            exact h)
          obtain ⟨oa, oc, w10, Γ10, hrun, D10, hF10, hL10, r10, _⟩ := D8.appN hF8 w.heap.size (Nat.le_refl _) (Nat.le_trans hs7 (by simp)) (fun a e => by cases e; exact hs7) hF8' (by omega)
          simp only [World.size_setCell] at hrun
          have HJn := hide (show JN (Ful Γ10) (oa, 1 + cnt, oc) ({ nod0 with k := 5 + k0 % 2, lead := L.1, cnt := (j : Int), tail := TT.1 } :: (I j).1) from ⟨_, hF10, ⟨JD.mono (r8.trans r10) hp7, hJc.mono (fun e c => JD.mono ((((D6'.ex.rle).trans r7).trans r8).trans r10))⟩⟩)
          have HL10 := hide hL10
          have HD10 := hide D10
          simp only [Sv.v, nilS] at n1' n3 n4 n5 n7
          generalize 1 + cnt = MM at *
          clear HCm D6 D6' D7 D8 D10 hF10 hF8 hF8' hF7 hp7 hJt hL10 hN6 nfz hlt7 hs7 r7 r8 r10 o7 o8 b7 b8 HDc hFc hJc hLc hJL hNc IH
          go_wp2
          go_ret
          rw [HE.out, hIj]
          exact ⟨_, _, _, rfl, Γ10, HJn.out, HL10.out, HD10.out⟩
        have hpos' : (0 : Int) < ((zs.length - (I j).2.2 : Nat) : Int) := by omega
        have hcond : j < 2 ∨ (I j).2.2 < zs.length := .inr hpos
      case' inl =>
        have hl2' : (j : Int) < 2 := by omega
        have hcond : j < 2 ∨ (I j).2.2 < zs.length := .inl hl2
        generalize hwc : wr = wc at *
        clear hDc
      all_goals
        have HX := hide (IH.out (I j).2.2 Γc wc HDc.out.st)
        have HLn := hide (dNodes_len (zs := zs) (rare := rare) d' (I j).2.2)
        have hgo := HGo.out j hIj hcond
        have HDi : Hid (dItem zs (dNodes zs rare d') ob (I j).2.2 = if ob then (memH (dKey zs (dNodes zs rare d' (I j).2.2).2).1 (dNodes zs rare d' (I j).2.2).1, (dKey zs (dNodes zs rare d' (I j).2.2).2).2) else dNodes zs rare d' (I j).2.2) := rfl
        rw [HDi.out] at hgo
        generalize dNodes zs rare d' (I j).2.2 = X at *
        have HGj := hide hgo
        clear hgo HDi
        go_wp2_with fail
        refine HX.out.mono ?_
        rintro e w6 ⟨xa, xn, xc, rfl, Γ6, ⟨xe, hFx, hJx⟩, hLx, D6'⟩
        have hxl := hJx.len
        have hln := HLn.out
        obtain ⟨X1, X2⟩ := X
        simp only at hJx hxl hln D6' HGj
        obtain ⟨p0, pr, rfl⟩ : ∃ p0 pr, X1 = p0 :: pr := by
          cases X1 with
          | nil => simp at hln
          | cons p0 pr => exact ⟨p0, pr, rfl⟩
        obtain ⟨e0', er, rfl⟩ : ∃ e0 er, xe = e0 :: er := by
          cases xe with
          | nil => exact hJx.elim
          | cons p0 pr => exact ⟨p0, pr, rfl⟩
        have hxb : er.length + 1 ≤ 1365 := by simp at hxl hln; omega
        clear hxl hln HLn
        rcases id hFx with ⟨_, h0⟩ | ⟨bx, mx, hxv, hΓx, hmx⟩
        · cases h0
        cases hxv
        have hs6 := D6'.gr.size
        have hbx : wc.heap.size ≤ bx := hLx ⟨bx, 0, none⟩ rfl
        have hNx : Nb < wc.heap.size := (HDc.out.st.mt.lt hNc).2
        have D6 := HDc.out.trans D6'
        obtain ⟨⟨n0, n1', n2, n3, n4, n5, n6, n7⟩, _⟩ := D6.st.mt.eight (D6'.ex _ _ hNc)
        have D6ex := D6'.ex
        have hF6 := D6'.ex.ful hFc
        have hbo : ∀ b y, (ba, cnt, bc).1 = some ⟨b, 0, none⟩ → Γ6 b = some y → b < bx := fun b y e h => by
          have := hbb b e
          omega
        rcases HOb.out with ⟨ho, q6⟩ | ⟨ho, q6⟩
        · subst ho
          cases e0' with
          | b _ => exact hJx.1.elim
          | i _ => exact hJx.1.elim
          | c _ _ => exact hJx.1.elim
          | d xk xl xm xy xx xu xnn xt =>
          obtain ⟨hJ0, hJr⟩ := hJx
          obtain ⟨⟨i0, i1, i2, i3, _, _, _, _⟩, jfz⟩ := D6.st.mt.eight hΓx
          have jf2 := jfz 2 (by decide)
          obtain ⟨Γ7, D7, b7, r7, o7⟩ := D6.field hΓx (by have := HDc.out.gr.size; omega) 2 (y' := .d xk xl true xy xx xu xnn xt) (u := .bool true) (by decide) rfl rfl
          have HKy := hide (drawKey_k D7.st HZ.out)
          generalize dKey zs X2 = KY at *
          have HD7 := hide D7
          have hq0 : (0 : Int) < (er.length : Int) + 1 := by omega
          simp only [Sv.v] at i1 i3 n1' n3 n4 n5 n7
          simp only [List.length_cons]
          clear D6' D7 HX jfz
          go_wp2_with fail
          refine HKy.out.mono ?_
          rintro e w8 ⟨ka, kn, kc, rfl, Γ8, hJk, D8⟩
          have D8' := HD7.out.trans D8
          have b8 := D8.ex _ _ b7
          obtain ⟨⟨_, _, _, l3, _, _, _, _⟩, lfz⟩ := D8'.st.mt.eight b8
          have lf3 := lfz 3 (by decide)
          obtain ⟨Γ9, D9, b9, r9, o9⟩ := D8'.field b8 (by have := HDc.out.gr.size; omega) 3 (y' := .d xk xl true (ka, kn, kc) xx xu xnn xt) (u := .slice ka kn kc) (by decide) rfl rfl
          have r69 := (r7.trans D8.ex.rle).trans r9
          have hF9 : Ful Γ9 .nd (ba, cnt, bc) be := hF6.blk (fun b y e h => by
            have := hbo b y e h
            rw [o9 b (by omega)]
            exact D8.ex _ _ (by rw [o7 b (by omega)]; exact h))
          obtain ⟨oa, oc, w10, Γ10, hrun, D10, hF10, hL10, r10, o10⟩ := D9.appN hF9 (Nb + 1) (by omega) (by have := D8.gr.size; simp at this ⊢; omega) hLc (sa := some ⟨bx, 0, none⟩) (sn := er.length + 1) (sc := xc) (els := .d xk xl true (ka, kn, kc) xx xu xnn xt :: er) (.inr ⟨bx, xc, by simp, b9, hmx⟩) (by omega)
          have hN10 : Γ10 Nb = some (.nd, 1, [.d (5 + k0 % 2) (a1, n1, c1) false nilS nilS nilS ((j : Int)) nilS]) := by
            rw [o10 Nb (by omega), o9 Nb (by omega)]
            exact D8.ex _ _ (by rw [o7 Nb (by omega)]; exact D6ex _ _ hNc)
          have hJ0' : JD (Ful Γ9) (.d xk xl true (ka, kn, kc) xx xu xnn xt) { p0 with mem := true, key := KY.1 } := by
            obtain ⟨⟨a1, _, a3⟩, a4, _, a6, a7, a8⟩ := JD.mono r69 hJ0
            exact ⟨⟨a1, rfl, a3⟩, a4, r9.i _ _ hJk, a6, a7, a8⟩
          have hJn := ((hJc.mono (fun e c => JD.mono ((D6ex.rle.trans r69).trans r10))).app (cs' := memH KY.1 (p0 :: pr)) (els' := .d xk xl true (ka, kn, kc) xx xu xnn xt :: er) ⟨JD.mono r10 hJ0', hJr.mono (fun e c => JD.mono (r69.trans r10))⟩)
          have hJl := JC.rle ((D6ex.rle.trans r69).trans r10) hJL
          obtain ⟨⟨_, _, _, _, _, _, c6, _⟩, cfz⟩ := D10.st.mt.eight hN10
          have cf6 := cfz 6 (by decide)
          obtain ⟨Γ11, D11, b11, r11, o11⟩ := D10.field hN10 (by omega) 6 (y' := .d (5 + k0 % 2) (a1, n1, c1) false nilS nilS nilS ((j : Int) + 1) nilS) (u := .int .i64 ((j : Int) + 1)) (by decide) rfl rfl
          have HD11 := hide D11
          have HB11 := hide b11
          have HF11 := hide (hF10.blk (Γ' := Γ11) (fun b y e h => by
            have := hL10 ⟨b, 0, none⟩ e
            rw [o11 b (by simp at this; omega)]
            exact h))
          have HJn := hide (hJn.mono (fun e c => JD.mono r11))
          have HJl := hide (JC.rle r11 hJl)
          have HL10 := hide hL10
          clear D6 D6ex D10 D11 hF10 hFx hJn hJl hN10 b11 cfz HDc hFc hJc hLc hJL hF6 hbo hbb o10 o11 r10 r11 hΓx hNc hL10 hLx hJr hJ0 hJ0' hJk D8 D8' D9 b7 b8 b9 r7 r9 r69 o7 o9 hF9 HD7 HKy lfz
          go_wp2
          go_roundw
          case rel => exact ⟨j + 1, Γ11, _, _, _, _, by omega, by go_num, rfl, by rw [HGj.out], HF11.out, by rw [HGj.out]; exact HJn.out, HL10.out, by push_cast; exact HB11.out, HJl.out, by rw [HGj.out]; exact HD11.out⟩
          case measure => simp [intOf]; omega
        · subst ho
          obtain ⟨oa, oc, w10, Γ10, hrun, D10, hF10, hL10, r10, o10⟩ := D6.appN hF6 (Nb + 1) (by omega) (by have := D6'.gr.size; omega) hLc hFx (by simp only [List.length_cons]; omega)
          have hN10 : Γ10 Nb = some (.nd, 1, [.d (5 + k0 % 2) (a1, n1, c1) false nilS nilS nilS ((j : Int)) nilS]) := by
            rw [o10 Nb (by omega)]
            exact D6ex _ _ hNc
          have hJn := ((hJc.mono (fun e c => JD.mono (D6ex.rle.trans r10))).app (hJx.mono (fun e c => JD.mono r10)))
          have hJl := JC.rle (D6ex.rle.trans r10) hJL
          simp only [Sv.v] at n1' n3 n4 n5 n7
          simp only [List.length_cons] at hrun hF10 hL10 ⊢
          obtain ⟨⟨_, _, _, _, _, _, c6, _⟩, cfz⟩ := D10.st.mt.eight hN10
          have cf6 := cfz 6 (by decide)
          obtain ⟨Γ11, D11, b11, r11, o11⟩ := D10.field hN10 (by omega) 6 (y' := .d (5 + k0 % 2) (a1, n1, c1) false nilS nilS nilS ((j : Int) + 1) nilS) (u := .int .i64 ((j : Int) + 1)) (by decide) rfl rfl
          have HD11 := hide D11
          have HB11 := hide b11
          have HF11 := hide (hF10.blk (Γ' := Γ11) (fun b y e h => by
            have := hL10 ⟨b, 0, none⟩ e
            rw [o11 b (by simp at this; omega)]
            exact h))
          have HJn := hide (hJn.mono (fun e c => JD.mono r11))
          have HJl := hide (JC.rle r11 hJl)
          have HL10 := hide hL10
          clear D6 D6ex D10 D11 hF10 hFx hJn hJl hN10 b11 cfz HDc hFc hJc hLc hJL hF6 hbo hbb o10 o11 r10 r11 hΓx hNc hL10 hLx hJx D6' HX
          go_wp2
          go_roundw
          case rel => exact ⟨j + 1, Γ11, _, _, _, _, by omega, by go_num, rfl, by rw [HGj.out], HF11.out, by rw [HGj.out]; exact HJn.out, HL10.out, by push_cast; exact HB11.out, HJl.out, by rw [HGj.out]; exact HD11.out⟩
          case measure => simp [intOf]; omega
    · have hlm' : ¬ (j : Int) < (M : Int) := by omega
      have hjM : j = M := by omega
      have hIM : I M = I j := by rw [hjM]
      clear hDc hjM
      have HCm := hide (drawComments_k HDc.out.st HZ.out rare h1 h2)
      rw [hIM] at HE
      generalize dComs zs rare (I j).2.2 = TT at *
      go_wp2_with fail
      refine HCm.out.mono ?_
      rintro e w6 ⟨ta, tn, tc, rfl, Γ6, hJt, D6'⟩
      have D6 := HDc.out.trans D6'
      have hN6 := D6'.ex _ _ hNc
      obtain ⟨⟨n0, n1', n2, n3, n4, n5, n6, n7⟩, nfz⟩ := D6.st.mt.eight hN6
      have nf7 := nfz 7 (by decide)
      obtain ⟨Γ7, D7, b7, r7, o7⟩ := D6.field hN6 (by omega) 7 (y' := .d (5 + k0 % 2) (a1, n1, c1) false nilS nilS nilS ((j : Int)) (ta, tn, tc)) (u := .slice ta tn tc) (by decide) rfl rfl
      have hF7 : Ful Γ7 .nd (ba, cnt, bc) be := (D6'.ex.ful hFc).blk (fun b y e h => by
        have := hLc ⟨b, 0, none⟩ e
        rw [o7 b (by simp at this; omega)]
        exact h)
      have hp7 : JD (Ful Γ7) (.d (5 + k0 % 2) (a1, n1, c1) false nilS nilS nilS ((j : Int)) (ta, tn, tc)) { nod0 with k := 5 + k0 % 2, lead := L.1, cnt := (j : Int), tail := TT.1 } := ⟨⟨rfl, rfl, rfl⟩, JC.rle (D6'.ex.rle.trans r7) hJL, HNl.out.2.1, HNl.out.2.2, HNl.out.2.1, JC.rle r7 hJt⟩
      obtain ⟨Γ8, D8, _, hF8, r8, b8, o8⟩ := D7.lit hp7 #[.int .i64 (5 + k0 % 2), .slice a1 n1 c1, .bool false, .slice none 0 0, .slice none 0 0, .slice none 0 0, .int .i64 (j : Int), .slice ta tn tc] rfl
      have hs7 := D7.gr.size
      have hlt7 : ∀ b y, Γ7 b = some y → b < w6.heap.size := fun b y h => by
        have := (D7.st.mt.lt (b := b) (k := y.1) (m := y.2.1) (ys := y.2.2) h).2
        simpa using this
      have hF8' : Ful Γ8 .nd (ba, cnt, bc) be := hF7.blk (fun b y e h => by
        have := hlt7 b y h
        rw [o8 b (by simp; omega)]
        exact h)
      obtain ⟨oa, oc, w10, Γ10, hrun, D10, hF10, hL10, r10, _⟩ := D8.appN hF8 w.heap.size (Nat.le_refl _) (Nat.le_trans hs7 (by simp)) (fun a e => by cases e; exact hs7) hF8' (by omega)
      simp only [World.size_setCell] at hrun
      have HJn := hide (show JN (Ful Γ10) (oa, 1 + cnt, oc) ({ nod0 with k := 5 + k0 % 2, lead := L.1, cnt := (j : Int), tail := TT.1 } :: (I j).1) from ⟨_, hF10, ⟨JD.mono (r8.trans r10) hp7, hJc.mono (fun e c => JD.mono ((((D6'.ex.rle).trans r7).trans r8).trans r10))⟩⟩)
      have HL10 := hide hL10
      have HD10 := hide D10
      simp only [Sv.v, nilS] at n1' n3 n4 n5 n7
      generalize 1 + cnt = MM at *
      clear HCm D6 D6' D7 D8 D10 hF10 hF8 hF8' hF7 hp7 hJt hL10 hN6 nfz hlt7 hs7 r7 r8 r10 o7 o8 b7 b8 HDc hFc hJc hLc hJL hNc IH
      go_wp2
      go_ret
      rw [HE.out, hIj]
      exact ⟨_, _, _, rfl, Γ10, HJn.out, HL10.out, HD10.out⟩

theorem drawNodes_any {F : Nat} {v : Value} {zs : List Int} (hz : Zk zs) (rare : Int) (h1 : 1 ≤ rare) (h2 : rare ≤ 1000000) : ∀ (d : Nat), d ≤ 4 → ∀ (i : Nat) (Γ : Gk) (w : World), KS F v zs i Γ w →
    Calls Tryz.prog 66 #[.pointer (some ⟨F, 0, none⟩), .int .i64 (d : Int), .int .i64 rare] w fun r w' => Ndk F v zs Γ w (dNodes zs rare d i) r w'
  | 0, hd, i, Γ, w, hs => drawNodes_k hz rare h1 h2 0 hd (fun e he => by omega) i Γ w hs
  | d + 1, hd, i, Γ, w, hs => drawNodes_k hz rare h1 h2 (d + 1) hd (fun e he => by
      obtain rfl : d = e := by omega
      exact drawNodes_any hz rare h1 h2 d (by omega)) i Γ w hs
end Go.Proofs.YtakkdniikhgpdaaGreatDoor

