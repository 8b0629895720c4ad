import Derived.Test.YtkkcnpokobndcaaDoorFsTo
import Derived.Maps.AppendAt
namespace Go.Proofs.YtkkcnpokobndcaaDoor
open Go.RowKit

theorem run_noneF {P : Program} {w : World} (base : Nat) (t ty e : TypeId) (i : TypeInfo) (size : Nat) (ht : P.underlying t = some (.slice e)) (hi : P.info? e = some i)
    (v : Value) (n : Nat) (xs : List Value) (hown : w.ownsRow base e size v n xs) (c : Nat) : (Builtin.append_ #[t, t] ty #[v, .slice none 0 c]).run P w = .ok v w := by
  rcases hown.2 with ⟨rfl, rfl⟩ | ⟨g, cap, cur, rfl, _, _, hnc, _⟩
  · simp [Builtin.append_, run_underlying ht, sizeOf, typeInfo, hi, Builtin.lenOf, Builtin.firstCells]
  · simp [Builtin.append_, run_underlying ht, sizeOf, typeInfo, hi, Builtin.lenOf, Builtin.firstCells, hnc, storeCells]

/-- 'append(v, t...)' of bytes that are read. -/
theorem append_bytes (B B' : Nat) (w : World) (v tv : Value) (ys t : List Int) (hown : OwB B w v ys) (hrd : RdB B' w tv t) (hB : B ≤ w.heap.size) (hn : ys.length + t.length ≤ 100000000000) :
    ∃ v' w', (Builtin.append_ #[25, 25] 25 #[v, tv]).run Tryd.prog w = .ok v' w' ∧ OwB B w' v' (ys ++ t) ∧ w.grownBy w' v.ownBlock ∧ (v'.ownBlock = v.ownBlock ∨ v'.ownBlock = some w.heap.size) := by
  obtain ⟨i0, hi, hz0, hz1, hz2⟩ := info_parts info5
  obtain ⟨a, cap, htv, hr⟩ := hrd
  subst htv
  cases a with
  | none =>
    have ht : t = [] := by
      rcases t with _ | ⟨z, zs⟩
      · rfl
      · obtain ⟨b, off, ha, _⟩ := hr (by simp); cases ha
    subst ht
    exact ⟨v, w, run_noneF B _ _ _ i0 1 Tryd.underlying25 hi v _ _ hown cap, by simpa using hown, World.grownBy.refl _ _, .inl rfl⟩
  | some ad =>
    have hnews : ∀ j u, (t.map (Value.int .u8))[j]? = some u → w.cell? (ad.add j) = some u := by
      intro j u hj
      have hjl : j < t.length := by have := (List.getElem?_eq_some_iff.1 hj).1; simpa using this
      obtain ⟨b2, off2, ha, _, hc⟩ := hr (fun e => by rw [e] at hjl; simp at hjl)
      cases ha
      rw [Addr.add_lit, hc j hjl]
      simpa [hjl] using hj
    obtain ⟨v', w', hrun, h1, h2, _, h4⟩ := run_append_own_at (P := Tryd.prog) w B 25 25 5 i0 (.int .u8 0) 1 1 Tryd.underlying25 hi hz0 hz1 hz2 rfl (by decide) v ys.length (ys.map (Value.int .u8)) hown ad t.length cap (t.map (Value.int .u8)) (by simp) hnews
      (by intro u hu; simp only [List.mem_map] at hu; obtain ⟨z, _, rfl⟩ := hu; rfl) (by unfold maxLen; omega) (by omega) hB
    exact ⟨v', w', hrun, by unfold OwB Ow; simpa using h1, h2, h4⟩

/-- 'append(v, f)' of one file, whose three cells lie in a block of their own. -/
theorem append_fl (B : Nat) (w : World) (v : Value) (fs : List Fl) (xs : List (Value × Value)) (b : Nat) (p : Fl) (x : Value × Value) (hl : xs.length = fs.length) (hown : w.ownsRow B 49 3 v fs.length (cellsF fs xs))
    (h0 : w.cell? ⟨b, 0, none⟩ = some x.1) (h1 : w.cell? ⟨b, 1, none⟩ = some x.2) (h2 : w.cell? ⟨b, 2, none⟩ = some (.int .i64 p.s)) (s1 : Sl x.1 p.n.length) (s2 : Sl x.2 p.d.length) (hB : B ≤ w.heap.size) (hn : fs.length ≤ 100000000) :
    ∃ v' w', (Builtin.append_ #[29, 29] 29 #[v, .slice (some ⟨b, 0, none⟩) 1 1]).run Tryd.prog w = .ok v' w' ∧ w'.ownsRow B 49 3 v' (fs ++ [p]).length (cellsF (fs ++ [p]) (xs ++ [x])) ∧ w.grownBy w' v.ownBlock ∧ (v'.ownBlock = v.ownBlock ∨ v'.ownBlock = some w.heap.size) ∧ ∃ a cap, v' = .slice a (fs.length + 1) cap := by
  obtain ⟨i0, hi, hz0, hz1, hz2⟩ := info_parts infoFl
  obtain ⟨x1, x2⟩ := x
  obtain ⟨a1, c1, e1, _, _⟩ := s1
  obtain ⟨a2, c2, e2, _, _⟩ := s2
  simp only at e1 e2 h0 h1 h2
  subst e1 e2
  have hnews : ∀ j u, ([.slice a1 p.n.length c1, .slice a2 p.d.length c2, .int .i64 p.s] : List Value)[j]? = some u → w.cell? ((⟨b, 0, none⟩ : Addr).add j) = some u := by
    intro j u hj
    rw [Addr.add_lit, Nat.zero_add]
    match j, hj with
    | 0, hj => simp at hj; subst hj; exact h0
    | 1, hj => simp at hj; subst hj; exact h1
    | 2, hj => simp at hj; subst hj; exact h2
    | j + 3, hj => simp at hj
  obtain ⟨v', w', hrun, h3, h4, _, h5⟩ := run_append_own_at (P := Tryd.prog) w B 29 29 49 i0 (.agg #[.slice none 0 0, .slice none 0 0, .int .i64 0]) 3 56 Tryd.underlying29 hi hz0 hz1 hz2 rfl (by decide) v fs.length (cellsF fs xs) hown ⟨b, 0, none⟩ 1 1 [.slice a1 p.n.length c1, .slice a2 p.d.length c2, .int .i64 p.s] rfl hnews
      (by intro u hu; simp at hu; rcases hu with rfl | rfl | rfl <;> rfl) (by unfold maxLen; omega) (by omega) hB
  refine ⟨v', w', hrun, ?_, h4, h5, ?_⟩
  · rw [cellsF_snoc fs xs p _ hl, List.length_append, List.length_singleton]; exact h3
  · rcases h3.2 with ⟨hv, hn⟩ | ⟨g, cap, cur, hv, _⟩
    · omega
    · exact ⟨_, cap, hv⟩

theorem wpList_append_knownF {P : Program} {w : World} {ops : Array Oper} {rest : List Oper} {o : Oper} {a : Act} {Q : Exit → Act → World → Prop} (hgd : o.guard = none) (s x : Operand) (t : TypeId)
    (ho : o.op = .call { callee := .builtin .append, args := #[s, x], argTypes := #[t, t] }) (v xv v' : Value) (w' : World) (hs : a.eval s = v) (hx : a.eval x = xv)
    (hrun : (Builtin.append_ #[t, t] o.type #[v, xv]).run P w = .ok v' w') (h : wpList P ops Q rest (a.put o.dst v') w') : wpList P ops Q (o :: rest) a w := by
  refine wpList_plain hgd fun K hK => ?_
  unfold Oper.wp
  simp only [execOp, ho, resolve, invoke, builtin, Sem.run_bind, Sem.run_pure, Result.andThen_ok, List.map_toArray, List.map_cons, List.map_nil, hs, hx, hrun]
  exact hK _ _ h

set_option maxHeartbeats 1000000 in
theorem l1copy_exact (a : Option Addr) (n cap : Nat) (v' : Value) (w w' : World) (hrun : (Builtin.append_ #[25, 25] 25 #[.slice none 0 0, .slice a n cap]).run Tryd.prog w = .ok v' w') :
    Calls Tryd.prog 31 #[.slice a n cap] w fun e w2 => e = .returned v' ∧ w' = w2 := by
  go_enter Tryd.func31, Tryd.ntmps31
  go_wp2_with (at_builtin; refine wpList_append_knownF rfl _ _ _ rfl _ _ _ _ rfl rfl hrun ?_)
  go_ret
  exact ⟨rfl, rfl⟩

theorem l1copy_any (v : Value) (zs : List Int) (w : World) (hv : RdB w.heap.size w v zs) (hn : zs.length ≤ 4194304) :
    Calls Tryd.prog 31 #[v] w fun e w' => ∃ v', e = .returned v' ∧ OwB w.heap.size w' v' zs ∧ w.grownBy w' none := by
  obtain ⟨v', w', hrun, o', g', _⟩ := append_bytes w.heap.size w.heap.size w (.slice none 0 0) v [] zs ⟨by simp, .inl ⟨rfl, rfl⟩⟩ hv (Nat.le_refl _) (by simp; omega)
  obtain ⟨a, cap, hv0, _⟩ := id hv
  subst hv0
  refine (l1copy_exact a zs.length cap v' w w' hrun).mono ?_
  rintro e w2 ⟨rfl, rfl⟩
  exact ⟨v', rfl, by simpa using o', g'⟩

end Go.Proofs.YtkkcnpokobndcaaDoor
