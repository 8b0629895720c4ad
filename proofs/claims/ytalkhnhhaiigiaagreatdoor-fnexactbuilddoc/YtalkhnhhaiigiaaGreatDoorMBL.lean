import Derived.Test.YtalkhnhhaiigiaaGreatDoorMBK
namespace Go.Proofs.YtalkhnhhaiigiaaGreatDoor
open Go.RowKit

theorem enc_bysB (p : Int) (h0 : 0 ≤ p) (h1 : p ≤ 1114111) : Bys (enc p) := by
  intro z hz
  unfold enc at hz
  repeat' split at hz
  all_goals simp at hz
  all_goals omega
theorem hd16_b (n : Int) (h0 : 0 ≤ n) (h1 : n < 16) : 0 ≤ hd16 n ∧ hd16 n ≤ 255 := by unfold hd16; split <;> omega
theorem qOne_bys (p : Int) (h0 : 0 ≤ p) (h1 : p ≤ 1114111) : Bys (qOne p) := by
  unfold qOne
  split
  · intro z hz
    unfold short at hz
    repeat' split at hz
    all_goals simp at hz
    all_goals omega
  · split
    · intro z hz
      have a := hd16_b (p / 4096 % 16) (by omega) (by omega)
      have b := hd16_b (p / 256 % 16) (by omega) (by omega)
      have c := hd16_b (p / 16 % 16) (by omega) (by omega)
      have d := hd16_b (p % 16) (by omega) (by omega)
      simp [hex4] at hz
      omega
    · exact enc_bysB p h0 h1
theorem quR_bys (us : List Int) : Bys (quR us).1 := by
  unfold quR
  split
  · rename_i h
    intro z hz
    simp only [List.cons_append, List.mem_cons, List.mem_append, List.not_mem_nil, or_false] at hz
    rcases hz with rfl | hz | rfl
    · omega
    · unfold qAll at hz
      obtain ⟨p, hp, hz⟩ := List.mem_flatMap.1 hz
      have hb := fu_bd us h p hp
      exact qOne_bys p hb.1 hb.2 z hz
    · omega
  · intro z hz; simp at hz
theorem keyB_bys (us : List Int) : Bys (keyB us) := by
  unfold keyB
  split
  · rename_i h
    intro z hz
    have := (q_char z (nm_chars us h z hz)).2
    omega
  · exact quR_bys us

set_option maxHeartbeats 2000000 in
set_option maxRecDepth 100000 in
theorem quotedForm_any (v : Value) (us : List Int) (w : World) (hT : Tab w) (hv : RdI w.heap.size w v us) (hn : us.length ≤ 1048576) :
    Calls Tryz.prog 82 #[v] w fun e w' => e = .returned (.string (strOfNums (quR us).1)) ∧ w.grownBy w' none := by
  have HQ := hide (implQuote_any v us w hT hv hn)
  obtain ⟨a, cap, hv0, _⟩ := id hv
  subst hv0
  clear hv
  go_enter Tryz.func82, Tryz.ntmps82
  go_wp2_with fail
  refine HQ.out.mono ?_
  rintro e w1 ⟨v1, rfl, o1, g1⟩
  have hconv := conv_rd o1.rd
  obtain ⟨a1, c1, hv1, _, _⟩ := o1.sl
  have G := hide g1
  generalize hq : (quR us).1 = qs at *
  have HQQ := hide hq
  subst hv1
  clear HQ o1 g1 hq
  go_wp2
  go_ret
  exact ⟨by rw [HQQ.out]; rfl, G.out⟩

theorem ext_name (us : List Int) : (strOfNums (34 :: us ++ [34])).extract 1 (us.length + 1) = strOfNums us := by
  apply ByteArray.ext
  apply Array.toList_inj.1
  rw [Lib.extract_data, strOfNums_data, strOfNums_data]
  simp

set_option maxHeartbeats 2000000 in
set_option maxRecDepth 100000 in
theorem keyForm_any (v : Value) (us : List Int) (w : World) (hT : Tab w) (hv : RdI w.heap.size w v us) (hn : us.length ≤ 1048576) :
    Calls Tryz.prog 84 #[v] w fun e w' => e = .returned (.string (strOfNums (keyB us))) ∧ w.grownBy w' none := by
  have HQ := hide (quotedForm_any v us w hT hv hn)
  have HI : Hid (∀ W : World, w.grownBy W none → _) := fun W (g : w.grownBy W none) => implIsName_any v us W ((hv.keep g).wideC g.size) (by omega)
  obtain ⟨a, cap, hv0, _⟩ := id hv
  subst hv0
  clear hv
  go_enter Tryz.func84, Tryz.ntmps84
  go_wp2_with fail
  refine HQ.out.mono ?_
  rintro e w1 ⟨rfl, g1⟩
  have HI1 := hide (HI.out w1 g1)
  have G := hide g1
  clear HQ HI g1
  go_wp2_with fail
  refine HI1.out.mono ?_
  rintro e w2 ⟨rfl, rfl⟩
  clear HI1
  cases hb : nmR us with
  | false =>
    have HK := hide (show keyB us = (quR us).1 by unfold keyB; rw [hb]; rfl)
    go_wp2
    go_ret
    exact ⟨by rw [HK.out]; rfl, G.out⟩
  | true =>
    have HK := hide (show keyB us = us by unfold keyB; rw [hb]; rfl)
    have e1 := ext_name us
    rw [qu_name us hb]
    have hsz : (strOfNums (34 :: us ++ [34])).size = us.length + 2 := by rw [strOfNums_size]; simp
    simp only
    generalize strOfNums (34 :: us ++ [34]) = qs at *
    go_wp2
    go_ret
    refine ⟨?_, G.out⟩
    rw [HK.out, ← e1]
    rfl
end Go.Proofs.YtalkhnhhaiigiaaGreatDoor

namespace Go.Proofs.YtalkhnhhaiigiaaGreatDoor
open Go.RowKit
attribute [-go_sem] Builtin.append_

theorem store_func (W : World) (b o : Nat) (x : Value) (f : Fn) (p c : Array Value) (hc : W.cell? ⟨b, o, none⟩ = some x) (hf : W.frozen? ⟨b, o, none⟩ = false) : (store ⟨b, o, none⟩ (.func f p c)).run Tryz.prog W = .ok () (W.setCell ⟨b, o, none⟩ (.func f p c)) := by
  rw [run_store Tryz.prog W _ _ _ rfl, hc]
  simp [hf]

abbrev wNul : List Int := [110, 117, 108, 108]
abbrev wTru : List Int := [116, 114, 117, 101]
abbrev wFal : List Int := [102, 97, 108, 115, 101]

/-- The shaper in block bs. -/
structure Shp (w : World) (bs : Nat) (nv : Value) (ind : Int) : Prop where
  sz : bs + 3 < w.heap.size
  n : w.cell? ⟨bs, 0, none⟩ = some nv
  fz : w.frozen? ⟨bs, 0, none⟩ = false
  i : w.cell? ⟨bs, 1, none⟩ = some (.int .i64 ind)
  v0 : w.cell? ⟨bs, 2, none⟩ = some (.func (.func 80) #[] #[.pointer (some ⟨bs + 1, 0, none⟩)]) ∧ w.cell? ⟨bs + 1, 0, none⟩ = some (.string (strOfNums wNul))
  v1 : w.cell? ⟨bs, 3, none⟩ = some (.func (.func 80) #[] #[.pointer (some ⟨bs + 2, 0, none⟩)]) ∧ w.cell? ⟨bs + 2, 0, none⟩ = some (.string (strOfNums wTru))
  v2 : w.cell? ⟨bs, 4, none⟩ = some (.func (.func 80) #[] #[.pointer (some ⟨bs + 3, 0, none⟩)]) ∧ w.cell? ⟨bs + 3, 0, none⟩ = some (.string (strOfNums wFal))
  v3 : w.cell? ⟨bs, 5, none⟩ = some (.func (.func 46) #[] #[])
  v4 : w.cell? ⟨bs, 6, none⟩ = some (.func (.func 47) #[] #[])
  v5 : w.cell? ⟨bs, 7, none⟩ = some (.func (.func 48) #[.pointer (some ⟨bs, 0, none⟩)] #[])
  v6 : w.cell? ⟨bs, 8, none⟩ = some (.func (.func 49) #[.pointer (some ⟨bs, 0, none⟩)] #[])
theorem Shp.keep {w w' : World} {bs : Nat} {nv : Value} {ind : Int} (h : Shp w bs nv ind) (g : w.grownBy w' none) : Shp w' bs nv ind :=
  ⟨Nat.lt_of_lt_of_le h.sz g.size, g.cell h.n (by simp), by rw [World.frozen?_of_block (g.block bs (World.block_lt_of_cell? w _ h.n) (by simp))]; exact h.fz, g.cell h.i (by simp), ⟨g.cell h.v0.1 (by simp), g.cell h.v0.2 (by simp)⟩, ⟨g.cell h.v1.1 (by simp), g.cell h.v1.2 (by simp)⟩, ⟨g.cell h.v2.1 (by simp), g.cell h.v2.2 (by simp)⟩, g.cell h.v3 (by simp), g.cell h.v4 (by simp), g.cell h.v5 (by simp), g.cell h.v6 (by simp)⟩
theorem Shp.turn {w : World} {bs : Nat} {nv : Value} {ind : Int} (h : Shp w bs nv ind) (nv' : Value) : Shp (w.setCell ⟨bs, 0, none⟩ nv') bs nv' ind := by
  have c : ∀ b j, (b ≠ bs ∨ j ≠ 0) → (w.setCell ⟨bs, 0, none⟩ nv').cell? ⟨b, j, none⟩ = w.cell? ⟨b, j, none⟩ := fun b j hj => World.cell?_setCell_other _ _ _ _ (by intro e; have h1 := congrArg Addr.block e; have h2 := congrArg Addr.off e; simp only at h1 h2; omega)
  refine ⟨by simpa using h.sz, by have := h.n; simp [go_sem, this], by simpa using h.fz, by rw [c _ _ (.inr (by omega))]; exact h.i, ⟨by rw [c _ _ (.inr (by omega))]; exact h.v0.1, by rw [c _ _ (.inl (by omega))]; exact h.v0.2⟩, ⟨by rw [c _ _ (.inr (by omega))]; exact h.v1.1, by rw [c _ _ (.inl (by omega))]; exact h.v1.2⟩, ⟨by rw [c _ _ (.inr (by omega))]; exact h.v2.1, by rw [c _ _ (.inl (by omega))]; exact h.v2.2⟩, by rw [c _ _ (.inr (by omega))]; exact h.v3, by rw [c _ _ (.inr (by omega))]; exact h.v4, by rw [c _ _ (.inr (by omega))]; exact h.v5, by rw [c _ _ (.inr (by omega))]; exact h.v6⟩

set_option maxHeartbeats 4000000 in
set_option maxRecDepth 100000 in
theorem newShaper_any (a : Option Addr) (L cap : Nat) (ind : Int) (w : World) :
    Calls Tryz.prog 22 #[.slice a L cap, .int .i64 ind] w fun e w' => e = .returned (.pointer (some ⟨w.heap.size, 0, none⟩)) ∧ Shp w' w.heap.size (.slice a L cap) ind ∧ w.grownBy w' none := by
  obtain ⟨W0, hW0⟩ : ∃ W0, W0 = (((w.alloc (Obj.cells #[.slice a L cap, .int .i64 ind, .nilFunc, .nilFunc, .nilFunc, .nilFunc, .nilFunc, .nilFunc, .nilFunc] 91)).alloc (Obj.cells #[.string { data := #[110, 117, 108, 108] }] 9)).alloc (Obj.cells #[.string { data := #[116, 114, 117, 101] }] 9)).alloc (Obj.cells #[.string { data := #[102, 97, 108, 115, 101] }] 9) := ⟨_, rfl⟩
  have hb : ∀ j, W0.frozen? ⟨w.heap.size, j, none⟩ = false := fun j => by rw [hW0]; simp [go_sem]
  have hg : w.grownBy W0 none := by rw [hW0]; exact grown_trans (grown_trans (grown_trans (World.grownBy_alloc _ _ _) (World.grownBy_alloc _ _ _)) (World.grownBy_alloc _ _ _)) (World.grownBy_alloc _ _ _)
  have q0 : W0.cell? ⟨w.heap.size, 0, none⟩ = some (.slice a L cap) := by rw [hW0]; simp [go_sem]
  have q1 : W0.cell? ⟨w.heap.size, 1, none⟩ = some (.int .i64 ind) := by rw [hW0]; simp [go_sem]
  have q2 : W0.cell? ⟨w.heap.size, 2, none⟩ = some .nilFunc := by rw [hW0]; simp [go_sem]
  have q3 : W0.cell? ⟨w.heap.size, 3, none⟩ = some .nilFunc := by rw [hW0]; simp [go_sem]
  have q4 : W0.cell? ⟨w.heap.size, 4, none⟩ = some .nilFunc := by rw [hW0]; simp [go_sem]
  have q5 : W0.cell? ⟨w.heap.size, 5, none⟩ = some .nilFunc := by rw [hW0]; simp [go_sem]
  have q6 : W0.cell? ⟨w.heap.size, 6, none⟩ = some .nilFunc := by rw [hW0]; simp [go_sem]
  have q7 : W0.cell? ⟨w.heap.size, 7, none⟩ = some .nilFunc := by rw [hW0]; simp [go_sem]
  have q8 : W0.cell? ⟨w.heap.size, 8, none⟩ = some .nilFunc := by rw [hW0]; simp [go_sem]
  have t0 : W0.cell? ⟨w.heap.size + 1, 0, none⟩ = some (.string { data := #[110, 117, 108, 108] }) := by rw [hW0]; simp [go_sem]
  have t1 : W0.cell? ⟨w.heap.size + 1 + 1, 0, none⟩ = some (.string { data := #[116, 114, 117, 101] }) := by rw [hW0]; simp [go_sem]
  have t2 : W0.cell? ⟨w.heap.size + 1 + 1 + 1, 0, none⟩ = some (.string { data := #[102, 97, 108, 115, 101] }) := by rw [hW0]; simp [go_sem]
  obtain ⟨W1, hW1⟩ : ∃ W1, W1 = W0.setCell ⟨w.heap.size, 2, none⟩ (.func (.func 80) #[] #[.pointer (some ⟨w.heap.size + 1, 0, none⟩)]) := ⟨_, rfl⟩
  have e1 : (store ⟨w.heap.size, 2, none⟩ (.func (.func 80) #[] #[.pointer (some ⟨w.heap.size + 1, 0, none⟩)])).run Tryz.prog W0 = .ok () W1 := by rw [hW1]; exact store_func W0 _ _ _ _ _ _ q2 (hb 2)
  obtain ⟨W2, hW2⟩ : ∃ W2, W2 = W1.setCell ⟨w.heap.size, 3, none⟩ (.func (.func 80) #[] #[.pointer (some ⟨w.heap.size + 1 + 1, 0, none⟩)]) := ⟨_, rfl⟩
  have p2 : W1.cell? ⟨w.heap.size, 3, none⟩ = some .nilFunc := by rw [hW1, World.cell?_setCell_other _ _ _ _ (by intro e; have h2 := congrArg Addr.off e; simp only at h2; omega)]; exact q3
  have e2 : (store ⟨w.heap.size, 3, none⟩ (.func (.func 80) #[] #[.pointer (some ⟨w.heap.size + 1 + 1, 0, none⟩)])).run Tryz.prog W1 = .ok () W2 := by rw [hW2]; exact store_func W1 _ _ _ _ _ _ p2 (by rw [hW1]; simpa using hb 3)
  obtain ⟨W3, hW3⟩ : ∃ W3, W3 = W2.setCell ⟨w.heap.size, 4, none⟩ (.func (.func 80) #[] #[.pointer (some ⟨w.heap.size + 1 + 1 + 1, 0, none⟩)]) := ⟨_, rfl⟩
  have p3 : W2.cell? ⟨w.heap.size, 4, none⟩ = some .nilFunc := by rw [hW2, World.cell?_setCell_other _ _ _ _ (by intro e; have h2 := congrArg Addr.off e; simp only at h2; omega)]; rw [hW1, World.cell?_setCell_other _ _ _ _ (by intro e; have h2 := congrArg Addr.off e; simp only at h2; omega)]; exact q4
  have e3 : (store ⟨w.heap.size, 4, none⟩ (.func (.func 80) #[] #[.pointer (some ⟨w.heap.size + 1 + 1 + 1, 0, none⟩)])).run Tryz.prog W2 = .ok () W3 := by rw [hW3]; exact store_func W2 _ _ _ _ _ _ p3 (by rw [hW2, hW1]; simpa using hb 4)
  obtain ⟨W4, hW4⟩ : ∃ W4, W4 = W3.setCell ⟨w.heap.size, 5, none⟩ (.func (.func 46) #[] #[]) := ⟨_, rfl⟩
  have p4 : W3.cell? ⟨w.heap.size, 5, none⟩ = some .nilFunc := by rw [hW3, World.cell?_setCell_other _ _ _ _ (by intro e; have h2 := congrArg Addr.off e; simp only at h2; omega)]; rw [hW2, World.cell?_setCell_other _ _ _ _ (by intro e; have h2 := congrArg Addr.off e; simp only at h2; omega)]; rw [hW1, World.cell?_setCell_other _ _ _ _ (by intro e; have h2 := congrArg Addr.off e; simp only at h2; omega)]; exact q5
  have e4 : (store ⟨w.heap.size, 5, none⟩ (.func (.func 46) #[] #[])).run Tryz.prog W3 = .ok () W4 := by rw [hW4]; exact store_func W3 _ _ _ _ _ _ p4 (by rw [hW3, hW2, hW1]; simpa using hb 5)
  obtain ⟨W5, hW5⟩ : ∃ W5, W5 = W4.setCell ⟨w.heap.size, 6, none⟩ (.func (.func 47) #[] #[]) := ⟨_, rfl⟩
  have p5 : W4.cell? ⟨w.heap.size, 6, none⟩ = some .nilFunc := by rw [hW4, World.cell?_setCell_other _ _ _ _ (by intro e; have h2 := congrArg Addr.off e; simp only at h2; omega)]; rw [hW3, World.cell?_setCell_other _ _ _ _ (by intro e; have h2 := congrArg Addr.off e; simp only at h2; omega)]; rw [hW2, World.cell?_setCell_other _ _ _ _ (by intro e; have h2 := congrArg Addr.off e; simp only at h2; omega)]; rw [hW1, World.cell?_setCell_other _ _ _ _ (by intro e; have h2 := congrArg Addr.off e; simp only at h2; omega)]; exact q6
  have e5 : (store ⟨w.heap.size, 6, none⟩ (.func (.func 47) #[] #[])).run Tryz.prog W4 = .ok () W5 := by rw [hW5]; exact store_func W4 _ _ _ _ _ _ p5 (by rw [hW4, hW3, hW2, hW1]; simpa using hb 6)
  obtain ⟨W6, hW6⟩ : ∃ W6, W6 = W5.setCell ⟨w.heap.size, 7, none⟩ (.func (.func 48) #[.pointer (some ⟨w.heap.size, 0, none⟩)] #[]) := ⟨_, rfl⟩
  have p6 : W5.cell? ⟨w.heap.size, 7, none⟩ = some .nilFunc := by rw [hW5, World.cell?_setCell_other _ _ _ _ (by intro e; have h2 := congrArg Addr.off e; simp only at h2; omega)]; rw [hW4, World.cell?_setCell_other _ _ _ _ (by intro e; have h2 := congrArg Addr.off e; simp only at h2; omega)]; rw [hW3, World.cell?_setCell_other _ _ _ _ (by intro e; have h2 := congrArg Addr.off e; simp only at h2; omega)]; rw [hW2, World.cell?_setCell_other _ _ _ _ (by intro e; have h2 := congrArg Addr.off e; simp only at h2; omega)]; rw [hW1, World.cell?_setCell_other _ _ _ _ (by intro e; have h2 := congrArg Addr.off e; simp only at h2; omega)]; exact q7
  have e6 : (store ⟨w.heap.size, 7, none⟩ (.func (.func 48) #[.pointer (some ⟨w.heap.size, 0, none⟩)] #[])).run Tryz.prog W5 = .ok () W6 := by rw [hW6]; exact store_func W5 _ _ _ _ _ _ p6 (by rw [hW5, hW4, hW3, hW2, hW1]; simpa using hb 7)
  obtain ⟨W7, hW7⟩ : ∃ W7, W7 = W6.setCell ⟨w.heap.size, 8, none⟩ (.func (.func 49) #[.pointer (some ⟨w.heap.size, 0, none⟩)] #[]) := ⟨_, rfl⟩
  have p7 : W6.cell? ⟨w.heap.size, 8, none⟩ = some .nilFunc := by rw [hW6, World.cell?_setCell_other _ _ _ _ (by intro e; have h2 := congrArg Addr.off e; simp only at h2; omega)]; rw [hW5, World.cell?_setCell_other _ _ _ _ (by intro e; have h2 := congrArg Addr.off e; simp only at h2; omega)]; rw [hW4, World.cell?_setCell_other _ _ _ _ (by intro e; have h2 := congrArg Addr.off e; simp only at h2; omega)]; rw [hW3, World.cell?_setCell_other _ _ _ _ (by intro e; have h2 := congrArg Addr.off e; simp only at h2; omega)]; rw [hW2, World.cell?_setCell_other _ _ _ _ (by intro e; have h2 := congrArg Addr.off e; simp only at h2; omega)]; rw [hW1, World.cell?_setCell_other _ _ _ _ (by intro e; have h2 := congrArg Addr.off e; simp only at h2; omega)]; exact q8
  have e7 : (store ⟨w.heap.size, 8, none⟩ (.func (.func 49) #[.pointer (some ⟨w.heap.size, 0, none⟩)] #[])).run Tryz.prog W6 = .ok () W7 := by rw [hW7]; exact store_func W6 _ _ _ _ _ _ p7 (by rw [hW6, hW5, hW4, hW3, hW2, hW1]; simpa using hb 8)
  have hs7 : ∀ b j, (b ≠ w.heap.size ∨ j < 2) → W7.cell? ⟨b, j, none⟩ = W0.cell? ⟨b, j, none⟩ := fun b j hj => by
    rw [hW7, hW6, hW5, hW4, hW3, hW2, hW1]
    have ne : ∀ (U : World) (o : Nat) (x : Value), 2 ≤ o → (U.setCell ⟨w.heap.size, o, none⟩ x).cell? ⟨b, j, none⟩ = U.cell? ⟨b, j, none⟩ := fun U o x ho => World.cell?_setCell_other _ _ _ _ (by intro e; have h1 := congrArg Addr.block e; have h2 := congrArg Addr.off e; simp only at h1 h2; omega)
    rw [ne _ _ _ (by omega), ne _ _ _ (by omega), ne _ _ _ (by omega), ne _ _ _ (by omega), ne _ _ _ (by omega), ne _ _ _ (by omega), ne _ _ _ (by omega)]
  have hsame : ∀ (U : World) (o o' : Nat) (x : Value), o ≠ o' → (U.setCell ⟨w.heap.size, o, none⟩ x).cell? ⟨w.heap.size, o', none⟩ = U.cell? ⟨w.heap.size, o', none⟩ := fun U o o' x ho => World.cell?_setCell_other _ _ _ _ (by intro e; have h2 := congrArg Addr.off e; simp only at h2; omega)
  have HSH : Hid (Shp W7 w.heap.size (.slice a L cap) ind) := by
    refine ⟨by rw [hW7, hW6, hW5, hW4, hW3, hW2, hW1, hW0]; simp, by rw [hs7 _ _ (.inr (by omega))]; exact q0, by rw [hW7, hW6, hW5, hW4, hW3, hW2, hW1]; simpa using hb 0, by rw [hs7 _ _ (.inr (by omega))]; exact q1, ⟨?_, by rw [hs7 _ _ (.inl (by omega))]; exact t0⟩, ⟨?_, by rw [hs7 _ _ (.inl (by omega))]; exact t1⟩, ⟨?_, by rw [hs7 _ _ (.inl (by omega))]; exact t2⟩, ?_, ?_, ?_, ?_⟩
    · rw [hW7, hsame _ _ _ _ (by omega), hW6, hsame _ _ _ _ (by omega), hW5, hsame _ _ _ _ (by omega), hW4, hsame _ _ _ _ (by omega), hW3, hsame _ _ _ _ (by omega), hW2, hsame _ _ _ _ (by omega), hW1]; simp [go_sem, q2]
    · rw [hW7, hsame _ _ _ _ (by omega), hW6, hsame _ _ _ _ (by omega), hW5, hsame _ _ _ _ (by omega), hW4, hsame _ _ _ _ (by omega), hW3, hsame _ _ _ _ (by omega), hW2]; simp [go_sem, p2]
    · rw [hW7, hsame _ _ _ _ (by omega), hW6, hsame _ _ _ _ (by omega), hW5, hsame _ _ _ _ (by omega), hW4, hsame _ _ _ _ (by omega), hW3]; simp [go_sem, p3]
    · rw [hW7, hsame _ _ _ _ (by omega), hW6, hsame _ _ _ _ (by omega), hW5, hsame _ _ _ _ (by omega), hW4]; simp [go_sem, p4]
    · rw [hW7, hsame _ _ _ _ (by omega), hW6, hsame _ _ _ _ (by omega), hW5]; simp [go_sem, p5]
    · rw [hW7, hsame _ _ _ _ (by omega), hW6]; simp [go_sem, p6]
    · rw [hW7]; simp [go_sem, p7]
  have HG7 : Hid (w.grownBy W7 none) := by
    have hB := (below_of_grown hg)
    unfold Hid
    rw [hW7, hW6, hW5, hW4, hW3, hW2, hW1]
    exact grown_of_below (((((((hB.setCell (by simp) _).setCell (by simp) _).setCell (by simp) _).setCell (by simp) _).setCell (by simp) _).setCell (by simp) _).setCell (by simp) _)
  rw [hW0] at e1
  clear hs7 hsame hW7 hW6 hW5 hW4 hW3 hW2 hW1 q0 q1 q2 q3 q4 q5 q6 q7 q8 t0 t1 t2 hb hg p2 p3 p4 p5 p6 p7 hW0
  go_enter Tryz.func22, Tryz.ntmps22
  go_wp2
  go_ret
  exact ⟨rfl, HSH.out, HG7.out⟩
end Go.Proofs.YtalkhnhhaiigiaaGreatDoor

namespace Go.Proofs.YtalkhnhhaiigiaaGreatDoor
open Go.RowKit
attribute [-go_sem] Builtin.append_

/-- What a call answers: a part that lives in new memory. -/
def GivesP (w : World) (ps : List Pc) (e : Ending) (w' : World) : Prop := ∃ f caps, e = .returned (.func (.func f) #[] caps) ∧ PartAt w' (fun k => w.heap.size ≤ k ∧ k < w'.heap.size) f caps ps ∧ w.grownBy w' none
theorem GivesP.from {w w0 : World} {ps : List Pc} {e : Ending} {w' : World} (h : GivesP w0 ps e w') (g : w.grownBy w0 none) : GivesP w ps e w' := by
  obtain ⟨f, caps, h1, h2, h3⟩ := h
  exact ⟨f, caps, h1, h2.at (fun k hk => ⟨Nat.le_trans g.size hk.1, hk.2⟩) (fun _ _ => rfl), grown_trans g h3⟩

set_option maxHeartbeats 2000000 in
set_option maxRecDepth 100000 in
theorem always_any (p : Nod) (lv kv xv uv tv : Value) (b : Nat) (wl : List Int) (hb : Bys wl) (hn : wl.length ≤ 1000) (w : World) (hc : w.cell? ⟨b, 0, none⟩ = some (.string (strOfNums wl)))
    (sl : Sl lv p.lead.length) (sk : Sl kv p.key.length) (sx : Sl xv p.text.length) (su : Sl uv p.units.length) (st : Sl tv p.tail.length) :
    Calls Tryz.prog 80 #[.agg #[.int .i64 p.k, lv, .bool p.mem, kv, xv, uv, .int .i64 p.cnt, tv], .pointer (some ⟨b, 0, none⟩)] w fun e w' => GivesP w (textP wl) e w' := by
  obtain ⟨la, lc, rfl, _⟩ := sl
  obtain ⟨ka, kc, rfl, _⟩ := sk
  obtain ⟨xa, xc, rfl, _⟩ := sx
  obtain ⟨ua, uc, rfl, _⟩ := su
  obtain ⟨ta, tc, rfl, _⟩ := st
  obtain ⟨W, hW⟩ : ∃ W, W = w.alloc (Obj.cells #[.int .i64 p.k, .slice la p.lead.length lc, .bool p.mem, .slice ka p.key.length kc, .slice xa p.text.length xc, .slice ua p.units.length uc, .int .i64 p.cnt, .slice ta p.tail.length tc] 75) := ⟨_, rfl⟩
  have gW : w.grownBy W none := by rw [hW]; exact World.grownBy_alloc _ _ _
  have HT := hide (textPart_any wl hb (by omega) W)
  have hc' := gW.cell hc (by simp)
  have HG := hide gW
  subst hW
  clear gW hc
  go_enter Tryz.func80, Tryz.ntmps80
  go_wp2_with fail
  refine HT.out.mono ?_
  rintro e w1 ⟨f, caps, rfl, hp, g⟩
  have HP := hide (show GivesP _ (textP wl) _ w1 from ⟨f, caps, rfl, hp, g⟩)
  clear HT hp g hc'
  go_wp2
  go_ret
  exact HP.out.from HG.out

set_option maxHeartbeats 2000000 in
set_option maxRecDepth 100000 in
theorem number_any (p : Nod) (lv kv xv uv tv : Value) (w : World) (hx : RdB w.heap.size w xv p.text) (sx : Sl xv p.text.length) (hb : Bys p.text) (hn : p.text.length ≤ 1048576)
    (sl : Sl lv p.lead.length) (sk : Sl kv p.key.length) (su : Sl uv p.units.length) (st : Sl tv p.tail.length) :
    Calls Tryz.prog 46 #[.agg #[.int .i64 p.k, lv, .bool p.mem, kv, xv, uv, .int .i64 p.cnt, tv]] w fun e w' => GivesP w (textP p.text) e w' := by
  obtain ⟨la, lc, rfl, _⟩ := sl
  obtain ⟨ka, kc, rfl, _⟩ := sk
  obtain ⟨xa, xc, rfl, _⟩ := sx
  obtain ⟨ua, uc, rfl, _⟩ := su
  obtain ⟨ta, tc, rfl, _⟩ := st
  obtain ⟨W, hW⟩ : ∃ W, W = w.alloc (Obj.cells #[.int .i64 p.k, .slice la p.lead.length lc, .bool p.mem, .slice ka p.key.length kc, .slice xa p.text.length xc, .slice ua p.units.length uc, .int .i64 p.cnt, .slice ta p.tail.length tc] 75) := ⟨_, rfl⟩
  have gW : w.grownBy W none := by rw [hW]; exact World.grownBy_alloc _ _ _
  have hconv := conv_rd (hx.keep gW)
  have HT := hide (textPart_any p.text hb (by omega) W)
  have HG := hide gW
  subst hW
  clear hx gW
  go_enter Tryz.func46, Tryz.ntmps46
  go_wp2_with fail
  refine HT.out.mono ?_
  rintro e w1 ⟨f, caps, rfl, hp, g⟩
  have HP := hide (show GivesP _ (textP p.text) _ w1 from ⟨f, caps, rfl, hp, g⟩)
  clear HT hp g hconv
  go_wp2
  go_ret
  exact HP.out.from HG.out

set_option maxHeartbeats 2000000 in
set_option maxRecDepth 100000 in
theorem string_any (p : Nod) (lv kv xv uv tv : Value) (w : World) (hT : Tab w) (hu : RdI w.heap.size w uv p.units) (su : Sl uv p.units.length) (hn : p.units.length ≤ 1048576)
    (sl : Sl lv p.lead.length) (sk : Sl kv p.key.length) (sx : Sl xv p.text.length) (st : Sl tv p.tail.length) :
    Calls Tryz.prog 47 #[.agg #[.int .i64 p.k, lv, .bool p.mem, kv, xv, uv, .int .i64 p.cnt, tv]] w fun e w' => GivesP w (textP (quR p.units).1) e w' := by
  obtain ⟨la, lc, rfl, _⟩ := sl
  obtain ⟨ka, kc, rfl, _⟩ := sk
  obtain ⟨xa, xc, rfl, _⟩ := sx
  obtain ⟨ua, uc, rfl, _⟩ := su
  obtain ⟨ta, tc, rfl, _⟩ := st
  obtain ⟨W, hW⟩ : ∃ W, W = w.alloc (Obj.cells #[.int .i64 p.k, .slice la p.lead.length lc, .bool p.mem, .slice ka p.key.length kc, .slice xa p.text.length xc, .slice ua p.units.length uc, .int .i64 p.cnt, .slice ta p.tail.length tc] 75) := ⟨_, rfl⟩
  have gW : w.grownBy W none := by rw [hW]; exact World.grownBy_alloc _ _ _
  have HQ := hide (quotedForm_any (.slice ua p.units.length uc) p.units W (hT.keep gW) ((hu.keep gW).wideC gW.size) hn)
  have hql := qu_len p.units
  have HT : Hid (∀ W : World, _) := fun W => textPart_any (quR p.units).1 (quR_bys _) (by omega) W
  have HG := hide gW
  subst hW
  clear hu gW
  go_enter Tryz.func47, Tryz.ntmps47
  go_wp2_with fail
  refine HQ.out.mono ?_
  rintro e w1 ⟨rfl, g1⟩
  have G1 := hide (grown_trans HG.out g1)
  clear HQ g1
  go_wp2_with fail
  refine (HT.out w1).mono ?_
  rintro e w2 ⟨f, caps, rfl, hp, g⟩
  have HP := hide (show GivesP w1 (textP (quR p.units).1) _ w2 from ⟨f, caps, rfl, hp, g⟩)
  clear HT hp g
  go_wp2
  go_ret
  exact HP.out.from G1.out

theorem pa_oneF {w : World} {F : Nat → Prop} {f : Nat} {caps : Array Value} {ds : List Pc} (h : PartAt w F f caps ds) (hF : ∀ k, F k → k < w.heap.size) :
    PaR (w.alloc (Obj.cells #[.func (.func f) #[] caps] 51)) (fun k => F k ∨ k = w.heap.size) (.slice (some ⟨w.heap.size, 0, none⟩) 1 1) [ds] := by
  have gA := World.grownBy_alloc w (Obj.cells #[.func (.func f) #[] caps] 51) none
  refine ⟨_, 1, rfl, Nat.le_refl _, by unfold maxLen; omega, fun _ => ⟨w.heap.size, 0, rfl, .inr rfl, by simp, fun j d hj => ?_⟩⟩
  match j, hj with
  | 0, hj => simp at hj; subst hj; exact ⟨f, caps, by simp [go_sem], h.at (fun k hk => .inl hk) (fun k hk => gA.block k (hF k hk) (by simp))⟩
  | j + 1, hj => simp at hj

set_option maxHeartbeats 2000000 in
set_option maxRecDepth 100000 in
theorem nest_any (bs : Nat) (nv : Value) (ind : Int) (v : Value) (dss : List (List Pc)) (F : Nat → Prop) (w : World) (hs : Shp w bs nv ind) (hp : PaR w F v dss) (hF : ∀ k, F k → k < w.heap.size) (hl : dss.length ≤ 1000000000) :
    Calls Tryz.prog 109 #[.pointer (some ⟨bs, 0, none⟩), v] w fun e w' => ∃ f caps, e = .returned (.func (.func f) #[] caps) ∧ PartAt w' (fun k => F k ∨ (w.heap.size ≤ k ∧ k < w'.heap.size)) f caps (nestP ind dss) ∧ w.grownBy w' none := by
  have HR : Hid (∀ W : World, w.grownBy W none → _) := fun W (g : w.grownBy W none) => row_any v dss F W (hp.at (fun _ h => h) g.size (fun k h => g.block k (hF k h) (by simp))) (fun k h => Nat.lt_of_lt_of_le (hF k h) g.size) hl
  have ci := hs.i
  obtain ⟨a, cap, hv, _, _⟩ := hp.sl
  subst hv
  clear hp hs
  go_enter Tryz.func109, Tryz.ntmps109
  obtain ⟨I, hI⟩ : ∃ I : World → Prop, I = (fun W : World => W.cell? ⟨bs, 1, none⟩ = some (.int .i64 ind)) := ⟨_, rfl⟩
  have HI0 : I w.drew := by rw [hI]; exact ci
  have gd : w.grownBy w.drew none := ⟨rfl, rfl, rfl, Nat.le_refl _, fun _ _ _ => rfl⟩
  have kpI : ∀ (U U' : World), I U → U.grownBy U' none → I U' := fun U U' h g => by rw [hI] at h ⊢; exact g.cell h (by simp)
  go_wp2
  refine region_anyI I (fun _ => false) (by kernel_rfl) ?_
  show anyI _ _ _ _ _ _ 10 (Array.replicate 10 false) _ _
  refine anyI_take (i := 0) (.pointer (some ⟨bs, 0, none⟩)) rfl (by kernel_rfl) (by kernel_rfl) (by kernel_rfl) (by kernel_rfl) (fun _ _ _ h => h) HI0 (yldI rfl (fun W hW => by go_simp)) ?_
  refine anyI_take (i := 1) (.pointer (some ⟨bs, 0, none⟩)) rfl (by kernel_rfl) (by kernel_rfl) (by kernel_rfl) (by kernel_rfl) (fun _ _ _ h => h) HI0 (yldI rfl (fun W hW => by go_simp)) ?_
  refine anyI_take (i := 2) (.pointer (some ⟨bs, 1, none⟩)) rfl (by kernel_rfl) (by kernel_rfl) (by kernel_rfl) (by kernel_rfl) (fun _ _ _ h => h) HI0 (yldI rfl (fun W hW => by go_simp)) ?_
  refine anyI_take (i := 3) (.int .i64 ind) rfl (by kernel_rfl) (by kernel_rfl) (by kernel_rfl) (by kernel_rfl) (fun _ _ _ h => h) HI0 (yldI rfl (fun W hW => by rw [hI] at hW; have h1 := hW; go_simp)) ?_
  refine anyI_take (i := 4) (.agg #[.int .i64 7, .slice none 0 0, .int .i64 ind]) rfl (by kernel_rfl) (by kernel_rfl) (by kernel_rfl) (by kernel_rfl) (fun _ _ _ h => h) HI0 (yldI rfl (fun W hW => by go_simp)) ?_
  refine anyI_take (i := 5) (.slice a dss.length cap) rfl (by kernel_rfl) (by kernel_rfl) (by kernel_rfl) (by kernel_rfl) (fun _ _ _ h => h) HI0 (yldI rfl (fun W hW => by go_simp)) ?_
  generalize hG : Act.put _ _ _ = A0
  simp [Act.put] at hG
  subst hG
  refine anyI_one (i := 6) (by kernel_rfl) (wpOp_call rfl rfl (by go_simp) (HR.out w.drew gd) ?_)
  rintro e w1 ⟨f, caps, rfl, hp1, g1⟩
  have HI1 := kpI _ _ HI0 g1
  refine ⟨_, rfl, .inr HI1, ?_⟩
  have g1' := grown_trans gd g1
  have hF1 : ∀ k, (F k ∨ (w.drew.heap.size ≤ k ∧ k < w1.heap.size)) → k < w1.heap.size := fun k hk => hk.elim (fun h => Nat.lt_of_lt_of_le (hF k h) g1'.size) (fun h => h.2)
  have hpr := pa_oneF hp1 hF1
  have gA := World.grownBy_alloc w1 (Obj.cells #[.func (.func f) #[] caps] 51) none
  have HI2 := kpI _ _ HI1 gA
  have HOV := hide (overPart_any 7 ind _ _ _ _ hpr (fun k hk => hk.elim (fun h => by have := hF1 k h; simp; omega) (fun h => by simp; omega)) (by simp))
  refine anyI_one (i := 7) (by kernel_rfl) (wpOp_val (w' := w1.alloc (Obj.cells #[.func (.func f) #[] caps] 51)) (v := .slice (some ⟨w1.heap.size, 0, none⟩) 1 1) rfl rfl (by go_simp) ⟨.inr HI2, ?_⟩)
  refine anyI_one (i := 8) (by kernel_rfl) (wpOp_call rfl rfl (by go_simp) HOV.out ?_)
  rintro e w2 ⟨f2, caps2, rfl, hp2, g2⟩
  have HI3 := kpI _ _ HI2 g2
  refine ⟨_, rfl, .inr HI3, ?_⟩
  refine anyI_one (i := 9) (by kernel_rfl) (wpOp_val (w' := w2) (v := .func (.func f2) #[] caps2) rfl rfl (by go_simp) ⟨.inr HI3, ?_⟩)
  refine anyI_done (by kernel_rfl) ?_ _
  have HP2 := hide hp2
  have HG2 := hide (grown_trans (grown_trans g1' gA) g2)
  have hs1 := g1'.size
  have hs2 := g2.size
  subst hI
  clear HOV hpr hp1 hp2 g1 g2 gA HR kpI hF1 HI0 HI1 HI2 HI3
  go_wp2
  go_ret
  refine ⟨f2, caps2, rfl, ?_, HG2.out⟩
  have hfin := HP2.out
  rw [show [rowP dss].flatten ++ [(⟨7, [], ind⟩ : Pc)] = nestP ind dss by simp [nestP]] at hfin
  simp at hs2
  refine hfin.at (fun k hk => ?_) (fun _ _ => rfl)
  rcases hk with (hk | hk) | hk
  · rcases hk with h | h
    · exact .inl h
    · have h1 := h.1; have h2 := h.2; exact .inr ⟨h1, by omega⟩
  · exact .inr ⟨by omega, by omega⟩
  · have h1 := hk.1; simp at h1; exact .inr ⟨by omega, hk.2⟩
end Go.Proofs.YtalkhnhhaiigiaaGreatDoor

