import Derived.Maps.AppendAt
import Derived.Lib.BufferMore
import Derived.Deep.Slices
import Derived.Handy
import Derived.Test.YthcjmmpkgljjhaaGreatDoorMBG
namespace Go.Proofs.YthcjmmpkgljjhaaGreatDoor
open Go.RowKit

theorem run_noneF {P : Program} {w : World} (base : Nat) (t ty e : TypeId) (i : TypeInfo) (size : Nat) (ht : P.underlying t = some (.slice e)) (hi : P.info? e = some i)
    (v : Value) (n : Nat) (xs : List Value) (hown : w.ownsRow base e size v n xs) (c : Nat) : (Builtin.append_ #[t, t] ty #[v, .slice none 0 c]).run P w = .ok v w := by
  rcases hown.2 with ⟨rfl, rfl⟩ | ⟨g, cap, cur, rfl, _, _, hnc, _⟩
  · simp [Builtin.append_, run_underlying ht, sizeOf, typeInfo, hi, Builtin.lenOf, Builtin.firstCells]
  · simp [Builtin.append_, run_underlying ht, sizeOf, typeInfo, hi, Builtin.lenOf, Builtin.firstCells, hnc, storeCells]

theorem wpList_append_knownF {P : Program} {w : World} {ops : Array Oper} {rest : List Oper} {o : Oper} {a : Act} {Q : Exit → Act → World → Prop} (hgd : o.guard = none) (s x : Operand) (t : TypeId)
    (ho : o.op = .call { callee := .builtin .append, args := #[s, x], argTypes := #[t, t] }) (v xv v' : Value) (w' : World) (hs : a.eval s = v) (hx : a.eval x = xv)
    (hrun : (Builtin.append_ #[t, t] o.type #[v, xv]).run P w = .ok v' w') (h : wpList P ops Q rest (a.put o.dst v') w') : wpList P ops Q (o :: rest) a w := by
  refine wpList_plain hgd fun K hK => ?_
  unfold Oper.wp
  simp only [execOp, ho, resolve, invoke, builtin, Sem.run_bind, Sem.run_pure, Result.andThen_ok, List.map_toArray, List.map_cons, List.map_nil, hs, hx, hrun]
  exact hK _ _ h

/-- An empty row that has just been laid. -/
theorem row_new (w : World) (e : TypeId) (size : Nat) : (w.alloc (Obj.cells #[] e)).ownsRow w.heap.size e size (.slice (some ⟨w.heap.size, 0, none⟩) 0 0) 0 [] :=
  ⟨by simp, .inr ⟨w.heap.size, 0, #[], rfl, Nat.le_refl _, by show (w.heap.push _)[w.heap.size]? = _; simp, Nat.le_refl _, by unfold maxLen; omega, by simp, by simp⟩⟩

/-- 'append(v, t...)' of numbers that are read. -/
theorem append_bytes (B B' : Nat) (w : World) (v tv : Value) (ys t : List Int) (hown : Ow .u8 5 B w v ys) (hrd : Rd .u8 B' w tv t) (hB : B ≤ w.heap.size) (hn : ys.length + t.length ≤ 100000000000) :
    ∃ v' w', (Builtin.append_ #[40, 40] 40 #[v, tv]).run Tryz.prog w = .ok v' w' ∧ Ow .u8 5 B w' v' (ys ++ t) ∧ w.grownBy w' v.ownBlock ∧ (v'.ownBlock = v.ownBlock ∨ v'.ownBlock = some w.heap.size) := by
  obtain ⟨i0, hi, hz0, hz1, hz2⟩ := info_parts info5
  obtain ⟨a, cap, htv, hr⟩ := hrd
  subst htv
  cases a with
  | none =>
    have ht : t = [] := by
      rcases t with _ | ⟨z, zs⟩
      · rfl
      · obtain ⟨b, off, ha, _⟩ := hr (by simp); cases ha
    subst ht
    exact ⟨v, w, run_noneF B _ _ _ i0 1 Tryz.underlying40 hi v _ _ hown cap, by simpa using hown, World.grownBy.refl _ _, .inl rfl⟩
  | some ad =>
    have hnews : ∀ j u, (t.map (Value.int .u8))[j]? = some u → w.cell? (ad.add j) = some u := by
      intro j u hj
      have hjl : j < t.length := by have := (List.getElem?_eq_some_iff.1 hj).1; simpa using this
      obtain ⟨b2, off2, ha, _, hc⟩ := hr (fun e => by rw [e] at hjl; simp at hjl)
      cases ha
      rw [Addr.add_lit, hc j hjl]
      simpa [hjl] using hj
    obtain ⟨v', w', hrun, h1, h2, _, h4⟩ := run_append_own_at (P := Tryz.prog) w B 40 40 5 i0 (.int .u8 0) 1 1 Tryz.underlying40 hi hz0 hz1 hz2 rfl (by decide) v ys.length (ys.map (Value.int .u8)) hown ad t.length cap (t.map (Value.int .u8)) (by simp) hnews
      (by intro u hu; simp only [List.mem_map] at hu; obtain ⟨z, _, rfl⟩ := hu; rfl) (by unfold maxLen; omega) (by omega) hB
    exact ⟨v', w', hrun, by unfold Ow; simpa using h1, h2, h4⟩

set_option maxHeartbeats 1000000 in
theorem l1copy_exact (a : Option Addr) (n cap : Nat) (v' : Value) (w w' : World) (hrun : (Builtin.append_ #[40, 40] 40 #[.slice none 0 0, .slice a n cap]).run Tryz.prog w = .ok v' w') :
    Calls Tryz.prog 35 #[.slice a n cap] w fun e w2 => e = .returned v' ∧ w' = w2 := by
  go_enter Tryz.func35, Tryz.ntmps35
  go_wp2_with (at_builtin; refine wpList_append_knownF rfl _ _ _ rfl _ _ _ _ rfl rfl hrun ?_)
  go_ret
  exact ⟨rfl, rfl⟩

theorem l1copy_any (v : Value) (zs : List Int) (w : World) (hv : Rd .u8 w.heap.size w v zs) (hn : zs.length ≤ 4194304) :
    Calls Tryz.prog 35 #[v] w fun e w' => ∃ v', e = .returned v' ∧ Ow .u8 5 w.heap.size w' v' zs ∧ w.grownBy w' none := by
  obtain ⟨v', w', hrun, o', g', _⟩ := append_bytes w.heap.size w.heap.size w (.slice none 0 0) v [] zs ⟨by simp, .inl ⟨rfl, rfl⟩⟩ hv (Nat.le_refl _) (by simp; omega)
  obtain ⟨a, cap, hv0, _⟩ := id hv
  subst hv0
  refine (l1copy_exact a zs.length cap v' w w' hrun).mono ?_
  rintro e w2 ⟨rfl, rfl⟩
  exact ⟨v', rfl, by simpa using o', g'⟩

/-- 'append(v, t...)' of numbers that are read. -/
theorem append_ints (B B' : Nat) (w : World) (v tv : Value) (ys t : List Int) (hown : Ow .i64 3 B w v ys) (hrd : Rd .i64 B' w tv t) (hB : B ≤ w.heap.size) (hn : ys.length + t.length ≤ 100000000000) :
    ∃ v' w', (Builtin.append_ #[39, 39] 39 #[v, tv]).run Tryz.prog w = .ok v' w' ∧ Ow .i64 3 B w' v' (ys ++ t) ∧ w.grownBy w' v.ownBlock ∧ (v'.ownBlock = v.ownBlock ∨ v'.ownBlock = some w.heap.size) := by
  obtain ⟨i0, hi, hz0, hz1, hz2⟩ := info_parts info3
  obtain ⟨a, cap, htv, hr⟩ := hrd
  subst htv
  cases a with
  | none =>
    have ht : t = [] := by
      rcases t with _ | ⟨z, zs⟩
      · rfl
      · obtain ⟨b, off, ha, _⟩ := hr (by simp); cases ha
    subst ht
    exact ⟨v, w, run_noneF B _ _ _ i0 1 Tryz.underlying39 hi v _ _ hown cap, by simpa using hown, World.grownBy.refl _ _, .inl rfl⟩
  | some ad =>
    have hnews : ∀ j u, (t.map (Value.int .i64))[j]? = some u → w.cell? (ad.add j) = some u := by
      intro j u hj
      have hjl : j < t.length := by have := (List.getElem?_eq_some_iff.1 hj).1; simpa using this
      obtain ⟨b2, off2, ha, _, hc⟩ := hr (fun e => by rw [e] at hjl; simp at hjl)
      cases ha
      rw [Addr.add_lit, hc j hjl]
      simpa [hjl] using hj
    obtain ⟨v', w', hrun, h1, h2, _, h4⟩ := run_append_own_at (P := Tryz.prog) w B 39 39 3 i0 (.int .i64 0) 1 8 Tryz.underlying39 hi hz0 hz1 hz2 rfl (by decide) v ys.length (ys.map (Value.int .i64)) hown ad t.length cap (t.map (Value.int .i64)) (by simp) hnews
      (by intro u hu; simp only [List.mem_map] at hu; obtain ⟨z, _, rfl⟩ := hu; rfl) (by unfold maxLen; omega) (by omega) hB
    exact ⟨v', w', hrun, by unfold Ow; simpa using h1, h2, h4⟩

set_option maxHeartbeats 1000000 in
theorem l5ints_exact (a : Option Addr) (n cap : Nat) (v' : Value) (w w' : World) (hrun : (Builtin.append_ #[39, 39] 39 #[.slice none 0 0, .slice a n cap]).run Tryz.prog w = .ok v' w') :
    Calls Tryz.prog 34 #[.slice a n cap] w fun e w2 => e = .returned v' ∧ w' = w2 := by
  go_enter Tryz.func34, Tryz.ntmps34
  go_wp2_with (at_builtin; refine wpList_append_knownF rfl _ _ _ rfl _ _ _ _ rfl rfl hrun ?_)
  go_ret
  exact ⟨rfl, rfl⟩

theorem l5ints_any (v : Value) (zs : List Int) (w : World) (hv : Rd .i64 w.heap.size w v zs) (hn : zs.length ≤ 4194304) :
    Calls Tryz.prog 34 #[v] w fun e w' => ∃ v', e = .returned v' ∧ Ow .i64 3 w.heap.size w' v' zs ∧ w.grownBy w' none := by
  obtain ⟨v', w', hrun, o', g', _⟩ := append_ints w.heap.size w.heap.size w (.slice none 0 0) v [] zs ⟨by simp, .inl ⟨rfl, rfl⟩⟩ hv (Nat.le_refl _) (by simp; omega)
  obtain ⟨a, cap, hv0, _⟩ := id hv
  subst hv0
  refine (l5ints_exact a zs.length cap v' w w' hrun).mono ?_
  rintro e w2 ⟨rfl, rfl⟩
  exact ⟨v', rfl, by simpa using o', g'⟩

attribute [-go_sem] Builtin.append_

set_option maxHeartbeats 1000000 in
set_option maxRecDepth 100000 in
theorem cloneB_any (v : Value) (zs : List Int) (w : World) (hv : Rd .u8 w.heap.size w v zs) (hn : zs.length ≤ 4194304) :
    Calls Tryz.prog 20 #[v] w fun e w' => ∃ v', e = .returned v' ∧ Ow .u8 5 w.heap.size w' v' zs ∧ w.grownBy w' none := by
  obtain ⟨a, cap, hv0, hr⟩ := id hv
  cases a with
  | none =>
    have hz : zs = [] := by
      rcases zs with _ | ⟨z, zs⟩
      · rfl
      · obtain ⟨b, off, ha, _⟩ := hr (by simp); cases ha
    subst hz hv0
    clear hv hr
    have hnil : ∀ w : World, (binOp .eql 40 (.slice none 0 cap) (.slice none 0 0)).run Tryz.prog w = .ok (.bool true) w := fun w => Lib.run_eql_slice_nil_nil w _ _ Tryz.underlying40
    simp only [List.length_nil]
    go_enter Tryz.func20, Tryz.ntmps20
    go_wp2
    go_ret
    exact ⟨_, rfl, ⟨by simp, .inl ⟨rfl, rfl⟩⟩, World.grownBy.refl _ _⟩
  | some ad =>
    subst hv0
    have hnil : ∀ w : World, (binOp .eql 40 (.slice (some ad) zs.length cap) (.slice none 0 0)).run Tryz.prog w = .ok (.bool false) w := fun w => Lib.run_eql_slice_some_nil w _ _ _ Tryz.underlying40
    obtain ⟨v', w', hrun, o', g', _⟩ := append_bytes w.heap.size w.heap.size (w.alloc (Obj.cells #[] 5)) (.slice (some ⟨w.heap.size, 0, none⟩) 0 0) (.slice (some ad) zs.length cap) [] zs (by simpa [Ow] using row_new w 5 1) (hv.keep (World.grownBy_alloc _ _ _)) (by simp) (by simp; omega)
    simp only [List.nil_append] at o'
    have g2 : w.grownBy w' none := grown_new (World.grownBy_alloc w (Obj.cells #[] 5) none) g' (fun j e => by cases e; exact Nat.le_refl _)
    clear hv hr g'
    go_enter Tryz.func20, Tryz.ntmps20
    go_wp2
    go_ret
    exact ⟨_, rfl, o', g2⟩

set_option maxHeartbeats 1000000 in
set_option maxRecDepth 100000 in
theorem cloneI_any (v : Value) (zs : List Int) (w : World) (hv : Rd .i64 w.heap.size w v zs) (hn : zs.length ≤ 4194304) :
    Calls Tryz.prog 19 #[v] w fun e w' => ∃ v', e = .returned v' ∧ Ow .i64 3 w.heap.size w' v' zs ∧ w.grownBy w' none := by
  obtain ⟨a, cap, hv0, hr⟩ := id hv
  cases a with
  | none =>
    have hz : zs = [] := by
      rcases zs with _ | ⟨z, zs⟩
      · rfl
      · obtain ⟨b, off, ha, _⟩ := hr (by simp); cases ha
    subst hz hv0
    clear hv hr
    have hnil : ∀ w : World, (binOp .eql 39 (.slice none 0 cap) (.slice none 0 0)).run Tryz.prog w = .ok (.bool true) w := fun w => Lib.run_eql_slice_nil_nil w _ _ Tryz.underlying39
    simp only [List.length_nil]
    go_enter Tryz.func19, Tryz.ntmps19
    go_wp2
    go_ret
    exact ⟨_, rfl, ⟨by simp, .inl ⟨rfl, rfl⟩⟩, World.grownBy.refl _ _⟩
  | some ad =>
    subst hv0
    have hnil : ∀ w : World, (binOp .eql 39 (.slice (some ad) zs.length cap) (.slice none 0 0)).run Tryz.prog w = .ok (.bool false) w := fun w => Lib.run_eql_slice_some_nil w _ _ _ Tryz.underlying39
    obtain ⟨v', w', hrun, o', g', _⟩ := append_ints w.heap.size w.heap.size (w.alloc (Obj.cells #[] 3)) (.slice (some ⟨w.heap.size, 0, none⟩) 0 0) (.slice (some ad) zs.length cap) [] zs (by simpa [Ow] using row_new w 3 1) (hv.keep (World.grownBy_alloc _ _ _)) (by simp) (by simp; omega)
    simp only [List.nil_append] at o'
    have g2 : w.grownBy w' none := grown_new (World.grownBy_alloc w (Obj.cells #[] 3) none) g' (fun j e => by cases e; exact Nat.le_refl _)
    clear hv hr g'
    go_enter Tryz.func19, Tryz.ntmps19
    go_wp2
    go_ret
    exact ⟨_, rfl, o', g2⟩

end Go.Proofs.YthcjmmpkgljjhaaGreatDoor

