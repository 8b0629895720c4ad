import Derived.Handy
import Derived.Maps.AppendAt
import Derived.Test.YtakkdniikhgpdaaGreatDoorMAA
import Derived.Test.YtakkdniikhgpdaaGreatDoorMAG
namespace Go.Proofs.YtakkdniikhgpdaaGreatDoor
open Go.RowKit

theorem row_setF {B : Nat} {w : World} {e : TypeId} {size n : Nat} {v : Value} {xs : List Value} (h : w.ownsRow B e size v n xs) (a : Addr) (u : Value) (hb : v.ownBlock ≠ some a.block) : (w.setCell a u).ownsRow B e size v n xs :=
  World.ownsRow.kept h ⟨rfl, rfl, rfl, by simp, fun i _ hn => Below.heap_setCell _ _ _ _ (fun e => hn (by rw [e]))⟩ (by
    cases hv : v.ownBlock with
    | none => exact .inl rfl
    | some k => exact .inr (fun e => hb (by rw [hv, e])))
theorem Ow.setF {q : IntKind} {t : TypeId} {B : Nat} {w : World} {v : Value} {zs : List Int} (h : Ow q t B w v zs) (a : Addr) (u : Value) (hb : a.block < B) : Ow q t B (w.setCell a u) v zs :=
  row_setF h a u (fun e => by have := World.ownsRow.lt h _ e; omega)
theorem grown_bothF {W w1 : World} {a : Addr} {v : Value} (hg : W.grownBy w1 none) (h : W.cell? a = some v) (hf : W.frozen? a = false) : w1.cell? a = some v ∧ w1.frozen? a = false :=
  ⟨hg.cell h (by simp), (World.frozen?_of_block (hg.block a.block (World.block_lt_of_cell? W a h) (by simp))).trans hf⟩

theorem grown_setF (w : World) (a : Addr) (u : Value) : w.grownBy (w.setCell a u) (some a.block) :=
  ⟨rfl, rfl, rfl, by simp, fun i _ hn => Below.heap_setCell _ _ _ _ (fun e => hn (by rw [e]))⟩

def zerF : Nat → List Value
  | 0 => []
  | m + 1 => .slice none 0 0 :: .slice none 0 0 :: .int .i64 0 :: zerF m
theorem zerF_made : ∀ (n : Nat), (madeCells #[Value.slice none 0 0, .slice none 0 0, .int .i64 0] (n * 3)).toList = zerF n := by
  intro n
  apply List.ext_getElem?
  intro j
  have hz : ∀ (n j : Nat), (zerF n)[j]? = if j < n * 3 then some ((#[Value.slice none 0 0, .slice none 0 0, .int .i64 0] : Array Value).getD (j % 3) default) else none := by
    intro n
    induction n with
    | zero => intro j; simp [zerF]
    | succ n ih =>
      intro j
      match j with
      | 0 => simp [zerF]
      | 1 => simp only [zerF]; rw [if_pos (by omega)]; rfl
      | 2 => simp only [zerF]; rw [if_pos (by omega)]; rfl
      | j + 3 =>
        simp only [zerF, List.getElem?_cons_succ]
        rw [ih j, show (j + 3) % 3 = j % 3 by omega]
        by_cases h : j < n * 3
        · rw [if_pos h, if_pos (by omega)]
        · rw [if_neg h, if_neg (by omega)]
  rw [hz]
  by_cases h : j < n * 3
  · simp [madeCells, h]
  · simp [madeCells, h]

theorem setF3 (A R : List Value) (x y z x' y' z' : Value) (k : Nat) (hA : A.length = k * 3) :
    (((A ++ x :: y :: z :: R).set (k * 3) x').set (k * 3 + 1) y').set (k * 3 + 2) z' = A ++ x' :: y' :: z' :: R := by
  rw [List.set_append_right _ _ (by omega), List.set_append_right _ _ (by omega), List.set_append_right _ _ (by omega)]
  rw [show k * 3 - A.length = 0 by omega, show k * 3 + 1 - A.length = 1 by omega, show k * 3 + 2 - A.length = 2 by omega]
  rfl
theorem TxF.set {B : Nat} {w : World} {g : Nat} {fs : List Fl} {xs : List (Value × Value)} (h : TxF B w (some g) fs xs) (o : Nat) (u : Value) : TxF B (w.setCell ⟨g, o, none⟩ u) (some g) fs xs :=
  h.row (grown_setF w ⟨g, o, none⟩ u) (fun _ e => .inl e)

theorem OwF.setLow {B : Nat} {w : World} {v : Value} {fs : List Fl} (h : OwF B w v fs) (a : Addr) (u : Value) (hb : a.block < B) : OwF B (w.setCell a u) v fs := by
  obtain ⟨xs, ho, ht⟩ := h
  refine ⟨xs, row_setF ho a u (fun e => by have := World.ownsRow.lt ho _ e; omega), ht.len, fun j p x h1 h2 => ?_, ht.apart⟩
  obtain ⟨o1, o2, o3⟩ := ht.own j p x h1 h2
  exact ⟨o1.setF a u hb, o2.setF a u hb, o3⟩

end Go.Proofs.YtakkdniikhgpdaaGreatDoor

namespace Go.Proofs.YtakkdniikhgpdaaGreatDoor
open Go.RowKit

theorem run_noneFF {P : Program} {w : World} (base : Nat) (t ty e : TypeId) (i : TypeInfo) (size : Nat) (ht : P.underlying t = some (.slice e)) (hi : P.info? e = some i)
    (v : Value) (n : Nat) (xs : List Value) (hown : w.ownsRow base e size v n xs) (c : Nat) : (Builtin.append_ #[t, t] ty #[v, .slice none 0 c]).run P w = .ok v w := by
  rcases hown.2 with ⟨rfl, rfl⟩ | ⟨g, cap, cur, rfl, _, _, hnc, _⟩
  · simp [Builtin.append_, run_underlying ht, sizeOf, typeInfo, hi, Builtin.lenOf, Builtin.firstCells]
  · simp [Builtin.append_, run_underlying ht, sizeOf, typeInfo, hi, Builtin.lenOf, Builtin.firstCells, hnc, storeCells]

/-- 'append(v, t...)' of bytes that are read. -/
theorem append_bytesF (B B' : Nat) (w : World) (v tv : Value) (ys t : List Int) (hown : OwB B w v ys) (hrd : RdB B' w tv t) (hB : B ≤ w.heap.size) (hn : ys.length + t.length ≤ 100000000000) :
    ∃ v' w', (Builtin.append_ #[22, 22] 22 #[v, tv]).run Tryz.prog w = .ok v' w' ∧ OwB B w' v' (ys ++ t) ∧ w.grownBy w' v.ownBlock ∧ (v'.ownBlock = v.ownBlock ∨ v'.ownBlock = some w.heap.size) := by
  obtain ⟨i0, hi, hz0, hz1, hz2⟩ := info_parts info5
  obtain ⟨a, cap, htv, hr⟩ := hrd
  subst htv
  cases a with
  | none =>
    have ht : t = [] := by
      rcases t with _ | ⟨z, zs⟩
      · rfl
      · obtain ⟨b, off, ha, _⟩ := hr (by simp); cases ha
    subst ht
    exact ⟨v, w, run_noneFF B _ _ _ i0 1 Tryz.underlying22 hi v _ _ hown cap, by simpa using hown, World.grownBy.refl _ _, .inl rfl⟩
  | some ad =>
    have hnews : ∀ j u, (t.map (Value.int .u8))[j]? = some u → w.cell? (ad.add j) = some u := by
      intro j u hj
      have hjl : j < t.length := by have := (List.getElem?_eq_some_iff.1 hj).1; simpa using this
      obtain ⟨b2, off2, ha, _, hc⟩ := hr (fun e => by rw [e] at hjl; simp at hjl)
      cases ha
      rw [Addr.add_lit, hc j hjl]
      simpa [hjl] using hj
    obtain ⟨v', w', hrun, h1, h2, _, h4⟩ := run_append_own_at (P := Tryz.prog) w B 22 22 5 i0 (.int .u8 0) 1 1 Tryz.underlying22 hi hz0 hz1 hz2 rfl (by decide) v ys.length (ys.map (Value.int .u8)) hown ad t.length cap (t.map (Value.int .u8)) (by simp) hnews
      (by intro u hu; simp only [List.mem_map] at hu; obtain ⟨z, _, rfl⟩ := hu; rfl) (by unfold maxLen; omega) (by omega) hB
    exact ⟨v', w', hrun, by unfold OwB Ow; simpa using h1, h2, h4⟩

/-- 'append(v, f)' of one file, whose three cells lie in a block of their own. -/
theorem append_fl (B : Nat) (w : World) (v : Value) (fs : List Fl) (xs : List (Value × Value)) (b : Nat) (p : Fl) (x : Value × Value) (hl : xs.length = fs.length) (hown : w.ownsRow B 45 3 v fs.length (cellsF fs xs))
    (h0 : w.cell? ⟨b, 0, none⟩ = some x.1) (h1 : w.cell? ⟨b, 1, none⟩ = some x.2) (h2 : w.cell? ⟨b, 2, none⟩ = some (.int .i64 p.s)) (s1 : Sl x.1 p.n.length) (s2 : Sl x.2 p.d.length) (hB : B ≤ w.heap.size) (hn : fs.length ≤ 100000000) :
    ∃ v' w', (Builtin.append_ #[23, 23] 23 #[v, .slice (some ⟨b, 0, none⟩) 1 1]).run Tryz.prog w = .ok v' w' ∧ w'.ownsRow B 45 3 v' (fs ++ [p]).length (cellsF (fs ++ [p]) (xs ++ [x])) ∧ w.grownBy w' v.ownBlock ∧ (v'.ownBlock = v.ownBlock ∨ v'.ownBlock = some w.heap.size) ∧ ∃ a cap, v' = .slice a (fs.length + 1) cap := by
  obtain ⟨i0, hi, hz0, hz1, hz2⟩ := info_parts infoFl
  obtain ⟨x1, x2⟩ := x
  obtain ⟨a1, c1, e1, _, _⟩ := s1
  obtain ⟨a2, c2, e2, _, _⟩ := s2
  simp only at e1 e2 h0 h1 h2
  subst e1 e2
  have hnews : ∀ j u, ([.slice a1 p.n.length c1, .slice a2 p.d.length c2, .int .i64 p.s] : List Value)[j]? = some u → w.cell? ((⟨b, 0, none⟩ : Addr).add j) = some u := by
    intro j u hj
    rw [Addr.add_lit, Nat.zero_add]
    match j, hj with
    | 0, hj => simp at hj; subst hj; exact h0
    | 1, hj => simp at hj; subst hj; exact h1
    | 2, hj => simp at hj; subst hj; exact h2
    | j + 3, hj => simp at hj
  obtain ⟨v', w', hrun, h3, h4, _, h5⟩ := run_append_own_at (P := Tryz.prog) w B 23 23 45 i0 (.agg #[.slice none 0 0, .slice none 0 0, .int .i64 0]) 3 56 Tryz.underlying23 hi hz0 hz1 hz2 rfl (by decide) v fs.length (cellsF fs xs) hown ⟨b, 0, none⟩ 1 1 [.slice a1 p.n.length c1, .slice a2 p.d.length c2, .int .i64 p.s] rfl hnews
      (by intro u hu; simp at hu; rcases hu with rfl | rfl | rfl <;> rfl) (by unfold maxLen; omega) (by omega) hB
  refine ⟨v', w', hrun, ?_, h4, h5, ?_⟩
  · rw [cellsF_snoc fs xs p _ hl, List.length_append, List.length_singleton]; exact h3
  · rcases h3.2 with ⟨hv, hn⟩ | ⟨g, cap, cur, hv, _⟩
    · omega
    · exact ⟨_, cap, hv⟩

theorem wpList_append_knownFF {P : Program} {w : World} {ops : Array Oper} {rest : List Oper} {o : Oper} {a : Act} {Q : Exit → Act → World → Prop} (hgd : o.guard = none) (s x : Operand) (t : TypeId)
    (ho : o.op = .call { callee := .builtin .append, args := #[s, x], argTypes := #[t, t] }) (v xv v' : Value) (w' : World) (hs : a.eval s = v) (hx : a.eval x = xv)
    (hrun : (Builtin.append_ #[t, t] o.type #[v, xv]).run P w = .ok v' w') (h : wpList P ops Q rest (a.put o.dst v') w') : wpList P ops Q (o :: rest) a w := by
  refine wpList_plain hgd fun K hK => ?_
  unfold Oper.wp
  simp only [execOp, ho, resolve, invoke, builtin, Sem.run_bind, Sem.run_pure, Result.andThen_ok, List.map_toArray, List.map_cons, List.map_nil, hs, hx, hrun]
  exact hK _ _ h

set_option maxHeartbeats 1000000 in
theorem l1copy_exactF (a : Option Addr) (n cap : Nat) (v' : Value) (w w' : World) (hrun : (Builtin.append_ #[22, 22] 22 #[.slice none 0 0, .slice a n cap]).run Tryz.prog w = .ok v' w') :
    Calls Tryz.prog 24 #[.slice a n cap] w fun e w2 => e = .returned v' ∧ w' = w2 := by
  go_enter Tryz.func24, Tryz.ntmps24
  go_wp2_with (at_builtin; refine wpList_append_knownFF rfl _ _ _ rfl _ _ _ _ rfl rfl hrun ?_)
  go_ret
  exact ⟨rfl, rfl⟩

theorem l1copy_anyF (v : Value) (zs : List Int) (w : World) (hv : RdB w.heap.size w v zs) (hn : zs.length ≤ 4194304) :
    Calls Tryz.prog 24 #[v] w fun e w' => ∃ v', e = .returned v' ∧ OwB w.heap.size w' v' zs ∧ w.grownBy w' none := by
  obtain ⟨v', w', hrun, o', g', _⟩ := append_bytesF w.heap.size w.heap.size w (.slice none 0 0) v [] zs ⟨by simp, .inl ⟨rfl, rfl⟩⟩ hv (Nat.le_refl _) (by simp; omega)
  obtain ⟨a, cap, hv0, _⟩ := id hv
  subst hv0
  refine (l1copy_exactF a zs.length cap v' w w' hrun).mono ?_
  rintro e w2 ⟨rfl, rfl⟩
  exact ⟨v', rfl, by simpa using o', g'⟩

end Go.Proofs.YtakkdniikhgpdaaGreatDoor

namespace Go.Proofs.YtakkdniikhgpdaaGreatDoor
open Go.RowKit
attribute [-go_sem] Builtin.append_

theorem grown_in {a b c : World} {B : Nat} {r : Option Nat} (h : Below B a b) (k : b.grownBy c r) (hB : B ≤ b.heap.size) (hr : ∀ j, r = some j → B ≤ j) : Below B a c := h.grown k hB hr

set_option maxHeartbeats 8000000 in
set_option maxRecDepth 100000 in
theorem l7copy_any (v : Value) (fs : List Fl) (w : World) (hv : RdF w.heap.size w v fs) (hn : fs.length ≤ 1048576) (ht : ∀ p ∈ fs, p.n.length ≤ 1048576 ∧ p.d.length ≤ 1048576) :
    Calls Tryz.prog 43 #[.agg #[v]] w fun e w' => ∃ v', e = .returned (.agg #[v']) ∧ OwF w.heap.size w' v' fs ∧ w.grownBy w' none := by
  obtain ⟨a, cap, hv0, hcap, hmax, _⟩ := id hv
  have HV : Hid (RdF w.heap.size w v fs) := hv
  have HT : Hid (∀ p ∈ fs, p.n.length ≤ 1048576 ∧ p.d.length ≤ 1048576) := ht
  subst hv0
  clear hv ht
  go_enter Tryz.func43, Tryz.ntmps43
  go_wp2
  -- the argument's cell, the answer's, the local's: three blocks; what is laid lies behind them
  go_loopw [4] (fun i wr => ∃ (k : Nat) (ov : Value), k ≤ fs.length ∧ i = .int .i64 k ∧ Below (w.heap.size + 2) (((w.alloc (Obj.cells #[Value.slice a fs.length cap] 25)).alloc (Obj.cells #[Value.slice none 0 0] 25))) wr ∧ w.heap.size + 3 ≤ wr.heap.size ∧
      wr.cell? ⟨w.heap.size + 1 + 1, 0, none⟩ = some ov ∧ wr.frozen? ⟨w.heap.size + 1 + 1, 0, none⟩ = false ∧ OwF (w.heap.size + 3) wr ov (fs.take k)) (fun i _ => fs.length - (intOf i).toNat)
  case atStart =>
    refine ⟨0, .slice none 0 0, Nat.zero_le _, rfl, ?_, by simp, by simp [go_sem], by simp [go_sem], by simpa using OwF.nil _ _⟩
    exact (Below.refl _ _).alloc (by simp) _
  case round =>
    obtain ⟨k, ov, hk, rfl, hbel, hsz, hoc, hof, hown⟩ := hrel
    have hbw : Below w.heap.size w wr := (((Below.refl w.heap.size w).alloc (Nat.le_refl _) _).alloc (by simp) _).trans (hbel.mono (by omega))
    have hfc : wr.cell? ⟨w.heap.size, 0, none⟩ = some (.slice a fs.length cap) := by rw [hbel.cell (by simp)]; simp [go_sem]
    have hrc : wr.cell? ⟨w.heap.size + 1, 0, none⟩ = some (.slice none 0 0) := by rw [hbel.cell (by simp)]; simp [go_sem]
    have hrf : wr.frozen? ⟨w.heap.size + 1, 0, none⟩ = false := by rw [hbel.frozen (by simp)]; simp [go_sem]
    by_cases hlt : k < fs.length
    · obtain ⟨b, off, cap', x, hva, hb, hp⟩ := (HV.out.belowB hbw).at k hlt
      cases hva
      obtain ⟨nv, dv⟩ := x
      have z0 := hp.n; have z1 := hp.d; have z2 := hp.s
      have hpt := HT.out _ (List.getElem_mem hlt)
      have htk : fs.take (k + 1) = fs.take k ++ [fs[k]] := by rw [List.take_add_one]; simp [hlt]
      have hlk : (fs.take k).length = k := by simp; omega
      obtain ⟨O, hO⟩ : ∃ O, O = Obj.cells #[nv, dv, .int .i64 fs[k].s] 45 := ⟨_, rfl⟩
      obtain ⟨W0, hW0⟩ : ∃ W0, W0 = (wr.alloc O).drew := ⟨_, rfl⟩
      have g0 : wr.grownBy W0 none := by rw [hW0]; exact ⟨rfl, rfl, rfl, by simp, fun i hi _ => Below.heap_alloc wr O i hi⟩
      have hs0 : W0.heap.size = wr.heap.size + 1 := by rw [hW0]; simp
      obtain ⟨v1, w1, run1, o1, g1, _⟩ := append_bytesF W0.heap.size W0.heap.size W0 (.slice none 0 0) nv [] fs[k].n ⟨by simp, .inl ⟨rfl, rfl⟩⟩ ((hp.rn.keep g0).now) (Nat.le_refl _) (by simp; omega)
      simp only [List.nil_append] at o1
      obtain ⟨v2, w2, run2, o2, g2, _⟩ := append_bytesF w1.heap.size w1.heap.size w1 (.slice none 0 0) dv [] fs[k].d ⟨by simp, .inl ⟨rfl, rfl⟩⟩ ((hp.rd.keep (grown_trans g0 g1)).now) (Nat.le_refl _) (by simp; omega)
      simp only [List.nil_append] at o2
      have g1' : W0.grownBy w1 none := g1
      have g2' : w1.grownBy w2 none := g2
      have g02 := grown_trans g1' g2'
      obtain ⟨xs, hrow, htx⟩ := hown
      have hap : Apt v1 v2 := fun g e1 e2 => by have := World.ownsRow.lt o1 _ e1; have := World.ownsRow.lt o2 _ e2; omega
      have htx2 : TxF (w.heap.size + 3) w2 ov.ownBlock (fs.take k ++ [fs[k]]) (xs ++ [(v1, v2)]) :=
        (htx.keep g0).snoc (p := fs[k]) (x := (v1, v2)) (by omega) (fun j e => by have := (World.ownsRow.lt hrow j e).2; omega) g02 (o1.later g2') (row_base g1'.size o2) hap
      have hrow2 : w2.ownsRow (w.heap.size + 3) 45 3 ov (fs.take k).length (cellsF (fs.take k) xs) := World.ownsRow.kept hrow (grown_trans g0 g02) (by cases ov.ownBlock <;> simp)
      obtain ⟨W3, hW3⟩ : ∃ W3, W3 = w2.alloc (Obj.cells #[v1, v2, .int .i64 fs[k].s] 45) := ⟨_, rfl⟩
      have g3 : w2.grownBy W3 none := by rw [hW3]; exact World.grownBy_alloc _ _ _
      have hs3 : W3.heap.size = w2.heap.size + 1 := by rw [hW3]; simp
      have hs02 := g02.size
      obtain ⟨v3, w4, run3, hrow4, g4, hat, a3, c3, hv3⟩ := append_fl (w.heap.size + 3) W3 ov (fs.take k) xs w2.heap.size fs[k] (v1, v2) htx.len (World.ownsRow.kept hrow2 g3 (by cases ov.ownBlock <;> simp)) (by rw [hW3]; simp [go_sem]) (by rw [hW3]; simp [go_sem]) (by rw [hW3]; simp [go_sem]) o1.sl o2.sl (by omega) (by omega)
      have htx4 := (htx2.keep g3).row g4 (g' := v3.ownBlock) (fun j e => by
        rcases hat with h | h
        · exact .inl (by rw [← h]; exact e)
        · rw [h] at e; cases e; exact .inr (Nat.le_refl _))
      have hown4 : OwF (w.heap.size + 3) w4 v3 (fs.take (k + 1)) := by rw [htk]; exact ⟨_, hrow4, htx4⟩
      have hbl4 : Below (w.heap.size + 3) wr w4 := ((((Below.refl _ wr).grown (grown_trans g0 g02) hsz (fun _ e => by cases e)).grown g3 (by omega) (fun _ e => by cases e)).grown g4 (by omega) (fun j e => (World.ownsRow.lt hrow2 j e).1))
      have HEND : Hid (Below (w.heap.size + 2) (((w.alloc (Obj.cells #[Value.slice (some ⟨b, off, none⟩) fs.length cap] 25)).alloc (Obj.cells #[Value.slice none 0 0] 25))) (w4.setCell ⟨w.heap.size + 1 + 1, 0, none⟩ v3) ∧ w.heap.size + 3 ≤ (w4.setCell ⟨w.heap.size + 1 + 1, 0, none⟩ v3).heap.size ∧ OwF (w.heap.size + 3) (w4.setCell ⟨w.heap.size + 1 + 1, 0, none⟩ v3) v3 (fs.take (k + 1))) := by
        refine ⟨(hbel.trans (hbl4.mono (by omega))).setCell (by simp) _, ?_, hown4.setLow _ _ (by simp)⟩
        have := hbl4.size; simp; omega
      have oc4 : w4.cell? ⟨w.heap.size + 1 + 1, 0, none⟩ = some ov := by rw [hbl4.cell (by simp)]; exact hoc
      have of4 : w4.frozen? ⟨w.heap.size + 1 + 1, 0, none⟩ = false := by rw [hbl4.frozen (by simp)]; exact hof
      have oc0 := g0.cell hoc (by simp)
      have oc1 := g1'.cell oc0 (by simp)
      have oc2 := g2'.cell oc1 (by simp)
      have oc3 := g3.cell oc2 (by simp)
      have f0 : W0.cell? ⟨wr.heap.size, 0, none⟩ = some nv := by rw [hW0, hO]; simp [go_sem]
      have f1 : W0.cell? ⟨wr.heap.size, 1, none⟩ = some dv := by rw [hW0, hO]; simp [go_sem]
      have f2 : W0.cell? ⟨wr.heap.size, 2, none⟩ = some (.int .i64 fs[k].s) := by rw [hW0, hO]; simp [go_sem]
      have f1a := g1'.cell f1 (by simp)
      have f2a := g1'.cell f2 (by simp)
      have f2b := g2'.cell f2a (by simp)
      obtain ⟨na, ncap, hnv, _, _⟩ := hp.sn
      obtain ⟨da, dcap, hdv, _, _⟩ := hp.sd
      obtain ⟨oa, ocap, hov, _⟩ := (row_rd htx.len hrow (Nat.le_refl _) (fun j p x h1 h2 => by obtain ⟨q1, q2, _⟩ := htx.own j p x h1 h2; exact ⟨q1.rd, q1.sl, q2.rd, q2.sl⟩))
      obtain ⟨a1, cap1, hv1, _⟩ := o1.rd
      obtain ⟨a2, cap2, hv2, _⟩ := o2.rd
      have hvv : ov = .slice oa k ocap := by rw [hov, hlk]
      rw [hlk] at hv3
      simp only at hnv hdv z0 z1 z2
      subst hW3 hW0 hO hnv hdv
      subst hv1 hv2 hvv hv3
      have C1 := hide (l1copy_exactF _ _ _ _ _ _ run1)
      have C2 := hide (l1copy_exactF _ _ _ _ _ _ run2)
      obtain ⟨I, hI⟩ : ∃ I : World → Prop, I = (fun W : World => W.cell? ⟨w.heap.size + 1 + 1, 0, none⟩ = some (.slice oa k ocap) ∧ W.cell? ⟨wr.heap.size, 0, none⟩ = some (.slice na fs[k].n.length ncap) ∧ W.cell? ⟨wr.heap.size, 1, none⟩ = some (.slice da fs[k].d.length dcap) ∧ W.cell? ⟨wr.heap.size, 2, none⟩ = some (.int .i64 fs[k].s)) := ⟨_, rfl⟩
      have hIg : ∀ {W W' : World} {r : Option Nat}, I W → W.grownBy W' r → (∀ j, r = some j → j ≠ w.heap.size + 1 + 1 ∧ j ≠ wr.heap.size) → I W' := by
        intro W W' r h g hr
        rw [hI] at h ⊢
        have n1 : some (w.heap.size + 1 + 1) ≠ r := fun e => (hr _ e.symm).1 rfl
        have n2 : some wr.heap.size ≠ r := fun e => (hr _ e.symm).2 rfl
        exact ⟨g.cell h.1 n1, g.cell h.2.1 n2, g.cell h.2.2.1 n2, g.cell h.2.2.2 n2⟩
      have HI0 : I (wr.alloc (Obj.cells #[.slice na fs[k].n.length ncap, .slice da fs[k].d.length dcap, .int .i64 fs[k].s] 45)).drew := by rw [hI]; exact ⟨oc0, f0, f1, f2⟩
      have HI1 := hIg HI0 g1' (fun _ e => by cases e)
      have HI2 := hIg HI1 g2' (fun _ e => by cases e)
      have HI3 := hIg HI2 g3 (fun _ e => by cases e)
      have HI4 := hIg HI3 g4 (fun j e => by have := World.ownsRow.lt hrow j e; omega)
      clear hIg
      clear htx4 htx2 htx hown4 hbl4 hrow hrow2 hrow4 o1 o2 g0 g1 g1' g2 g2' g3 g4 g02 hat hap hp hpt htk hlk hov HT HV run1 run2 hbel hbw hs0 hs3 hs02
      generalize fs[k] = p at *
      go_wp2
      refine region_anyI I (fun i => i == 14) (by kernel_rfl) ?_
      show anyI _ _ _ _ _ _ 15 (Array.replicate 15 false) _ _
      refine anyI_take (i := 0) (.pointer (some ⟨w.heap.size + 1 + 1, 0, none⟩)) rfl (by kernel_rfl) (by kernel_rfl) (by kernel_rfl) (by kernel_rfl) (fun _ _ _ h => h) HI0 (yldI rfl (fun W hW => by go_simp)) ?_
      refine anyI_take (i := 1) (.slice oa k ocap) rfl (by kernel_rfl) (by kernel_rfl) (by kernel_rfl) (by kernel_rfl) (fun _ _ _ h => h) HI0 (yldI rfl (fun W hW => by rw [hI] at hW; obtain ⟨h1, h2, h3, h4⟩ := hW; go_simp)) ?_
      refine anyI_take (i := 2) (.pointer (some ⟨wr.heap.size, 0, none⟩)) rfl (by kernel_rfl) (by kernel_rfl) (by kernel_rfl) (by kernel_rfl) (fun _ _ _ h => h) HI0 (yldI rfl (fun W hW => by go_simp)) ?_
      refine anyI_take (i := 3) (.slice na p.n.length ncap) rfl (by kernel_rfl) (by kernel_rfl) (by kernel_rfl) (by kernel_rfl) (fun _ _ _ h => h) HI0 (yldI rfl (fun W hW => by rw [hI] at hW; obtain ⟨h1, h2, h3, h4⟩ := hW; go_simp)) ?_
      refine anyI_take (i := 5) (.pointer (some ⟨wr.heap.size, 1, none⟩)) rfl (by kernel_rfl) (by kernel_rfl) (by kernel_rfl) (by kernel_rfl) (fun _ _ _ h => h) HI0 (yldI rfl (fun W hW => by go_simp)) ?_
      refine anyI_take (i := 6) (.slice da p.d.length dcap) rfl (by kernel_rfl) (by kernel_rfl) (by kernel_rfl) (by kernel_rfl) (fun _ _ _ h => h) HI0 (yldI rfl (fun W hW => by rw [hI] at hW; obtain ⟨h1, h2, h3, h4⟩ := hW; go_simp)) ?_
      refine anyI_take (i := 8) (.pointer (some ⟨wr.heap.size, 2, none⟩)) rfl (by kernel_rfl) (by kernel_rfl) (by kernel_rfl) (by kernel_rfl) (fun _ _ _ h => h) HI0 (yldI rfl (fun W hW => by go_simp)) ?_
      refine anyI_take (i := 9) (.int .i64 p.s) rfl (by kernel_rfl) (by kernel_rfl) (by kernel_rfl) (by kernel_rfl) (fun _ _ _ h => h) HI0 (yldI rfl (fun W hW => by rw [hI] at hW; obtain ⟨h1, h2, h3, h4⟩ := hW; go_simp)) ?_
      refine anyI_one (i := 4) (by kernel_rfl) (wpOp_call rfl rfl (by go_simp) C1.out ?_)
      rintro e w5 ⟨rfl, rfl⟩
      refine ⟨_, rfl, .inr HI1, ?_⟩
      refine anyI_one (i := 7) (by kernel_rfl) (wpOp_call rfl rfl (by go_simp) C2.out ?_)
      rintro e w5 ⟨rfl, rfl⟩
      refine ⟨_, rfl, .inr HI2, ?_⟩
      refine anyI_one (i := 10) (by kernel_rfl) (wpOp_val (v := .agg #[.slice a1 p.n.length cap1, .slice a2 p.d.length cap2, .int .i64 p.s]) rfl rfl (by go_simp) ⟨.inr HI2, ?_⟩)
      refine anyI_one (i := 11) (by kernel_rfl) (wpOp_val (v := .slice (some ⟨w2.heap.size, 0, none⟩) 1 1) rfl rfl (by go_simp) ⟨.inr HI3, ?_⟩)
      refine anyI_one (i := 12) (by kernel_rfl) (wpOp_val (v := .slice a3 (k + 1) c3) rfl rfl (by go_simp) ⟨.inr HI4, ?_⟩)
      refine anyI_one (i := 13) (by kernel_rfl) (wpOp_val (v := .pointer (some ⟨w.heap.size + 1 + 1, 0, none⟩)) rfl rfl (by go_simp) ⟨.inr HI4, ?_⟩)
      refine anyI_one (i := 14) (by kernel_rfl) (wpOp_skip (w' := w4.setCell ⟨w.heap.size + 1 + 1, 0, none⟩ (.slice a3 (k + 1) c3)) rfl rfl (by go_simp) ⟨.inl rfl, ?_⟩)
      refine anyI_done (by kernel_rfl) ?_ _
      go_wp2
      go_roundw
      case rel => exact ⟨k + 1, _, by omega, by go_num, HEND.out.1, HEND.out.2.1, by simp [go_sem, oc4], by simp [go_sem, of4], HEND.out.2.2⟩
      case measure => simp [intOf]; omega
    · have hkn : k = fs.length := by omega
      subst hkn
      rw [List.take_length] at hown
      obtain ⟨oa, ocap, hov, _⟩ := hown.rd
      subst hov
      go_wp2
      refine bodyPost_ret (v := .agg #[.slice oa fs.length ocap]) (by simp [results, Tryz.results43, go_sem, hrc]) rfl ?_
      refine ⟨_, rfl, ?_, ?_⟩
      · exact (hown.setLow _ _ (by simp)).base (by omega)
      · exact grown_of_below (hbw.setCell (by simp) _)

end Go.Proofs.YtakkdniikhgpdaaGreatDoor

namespace Go.Proofs.YtakkdniikhgpdaaGreatDoor
open Go.RowKit

/-- A file as it is handed on: its texts read. -/
structure FlV (B : Nat) (w : World) (p : Fl) (x : Value × Value) : Prop where
  rn : RdB B w x.1 p.n
  sn : Sl x.1 p.n.length
  rd : RdB B w x.2 p.d
  sd : Sl x.2 p.d.length
theorem FlV.keep {B : Nat} {w w' : World} {p : Fl} {x : Value × Value} (h : FlV B w p x) (g : w.grownBy w' none) : FlV B w' p x := ⟨h.rn.keep g, h.sn, h.rd.keep g, h.sd⟩
theorem FlV.wide {B B' : Nat} {w : World} {p : Fl} {x : Value × Value} (h : FlV B w p x) (hB : B ≤ B') : FlV B' w p x := ⟨h.rn.wideF hB, h.sn, h.rd.wideF hB, h.sd⟩

/-- What l7find says. -/
def FindSays (B : Nat) (fs : List Fl) (n : List Int) (e : Ending) (w' : World) : Prop :=
  match findF fs n with
  | some f => ∃ x : Value × Value, e = .returned (.tuple #[.agg #[x.1, x.2, .int .i64 f.s], .bool true]) ∧ FlV B w' f x
  | none => e = .returned (.tuple #[.agg #[.slice none 0 0, .slice none 0 0, .int .i64 0], .bool false])

set_option maxHeartbeats 4000000 in
set_option maxRecDepth 100000 in
theorem l7find_any (v nv : Value) (fs : List Fl) (n : List Int) (w : World) (hv : RdF w.heap.size w v fs) (hnv : RdB w.heap.size w nv n) (hd : Fss fs) (hb : Byt n) :
    Calls Tryz.prog 23 #[.agg #[v], nv] w fun e w' => FindSays w.heap.size fs n e w' ∧ w.grownBy w' none := by
  obtain ⟨a, cap, hv0, hcap, hmax, _⟩ := id hv
  obtain ⟨na, ncap, hn0, _⟩ := id hnv
  have hlen := hd.len
  have HV : Hid (RdF w.heap.size w v fs) := hv
  have HN : Hid (RdB w.heap.size w nv n) := hnv
  have HD : Hid (Fss fs) := hd
  subst hv0 hn0
  clear hv hd hnv
  go_enter Tryz.func23, Tryz.ntmps23
  go_wp2
  have HC : Hid (∀ wr : World, ((w.alloc (.cells #[.slice a fs.length cap] 25)).alloc (.cells #[.slice none 0 0, .slice none 0 0, .int .i64 0] 45)).grownBy wr none → wr.cell? ⟨w.heap.size, 0, none⟩ = some (.slice a fs.length cap) ∧ (wr.cell? ⟨w.heap.size + 1, 0, none⟩ = some (.slice none 0 0) ∧ wr.cell? ⟨w.heap.size + 1, 1, none⟩ = some (.slice none 0 0) ∧ wr.cell? ⟨w.heap.size + 1, 2, none⟩ = some (.int .i64 0)) ∧ wr.frozen? ⟨w.heap.size + 1, 0, none⟩ = false ∧ wr.frozen? ⟨w.heap.size + 1, 1, none⟩ = false ∧ wr.frozen? ⟨w.heap.size + 1, 2, none⟩ = false) := fun wr g =>
    ⟨g.cell (by simp [go_sem]) (by simp), ⟨g.cell (by simp [go_sem]) (by simp), g.cell (by simp [go_sem]) (by simp), g.cell (by simp [go_sem]) (by simp)⟩, (grown_bothF (v := .slice none 0 0) g (by simp [go_sem]) (by simp [go_sem])).2, (grown_bothF (v := .slice none 0 0) g (by simp [go_sem]) (by simp [go_sem])).2, (grown_bothF (v := .int .i64 0) g (by simp [go_sem]) (by simp [go_sem])).2⟩
  go_loopw [6] (fun i wr => ∃ k : Nat, k ≤ fs.length ∧ i = .int .i64 k ∧ Hid (∀ j (hj : j < k) (hl : j < fs.length), fs[j].n ≠ n) ∧ ((w.alloc (.cells #[.slice a fs.length cap] 25)).alloc (.cells #[.slice none 0 0, .slice none 0 0, .int .i64 0] 45)).grownBy wr none) (fun i _ => fs.length - (intOf i).toNat)
  case atStart => exact ⟨0, Nat.zero_le _, rfl, fun j hj => by omega, World.grownBy.refl _ _⟩
  case round =>
    obtain ⟨k, hk, rfl, HA, hgr⟩ := hrel
    obtain ⟨hfc, ⟨r0, r1, r2⟩, q0, q1, q2⟩ := HC.out wr hgr
    have hgw : w.grownBy wr none := grown_trans (grown_trans (World.grownBy_alloc _ _ _) (World.grownBy_alloc _ _ _)) hgr
    by_cases hlt : k < fs.length
    · obtain ⟨b, off, cap', x, hva, hb2, hp⟩ := (HV.out.keep hgw).at k hlt
      cases hva
      obtain ⟨fv, dv⟩ := x
      have z0 := hp.n; have z1 := hp.d; have z2 := hp.s
      have k1 := fun m => conv_str (hp.rn.keep (grown_drewN (World.grownBy.refl wr none) m))
      have k2 := fun m => conv_str (HN.out.keep (grown_drewN hgw m))
      have HE := eqStr (HD.out.byt _ (List.getElem_mem hlt)).1 hb
      have hgd : w.grownBy wr none := hgw
      have hV : FlV w.heap.size wr fs[k] (fv, dv) := ⟨hp.rn, hp.sn, hp.rd, hp.sd⟩
      obtain ⟨fa, fcap, hfv, _, _⟩ := hp.sn
      obtain ⟨da, dcap, hdv, _, _⟩ := hp.sd
      simp only at hfv hdv z0 z1 z2
      by_cases heq : fs[k].n = n
      · have HF : Hid (findF fs n = some fs[k]) := find_yes k hlt (fun j hj => HA.out j hj (by omega)) heq
        rw [decide_eq_true heq] at HE
        have HVV : Hid (FlV w.heap.size wr fs[k] (fv, dv)) := hV
        subst hfv hdv
        clear hp heq hV
        generalize fs[k] = p at *
        go_wp2
        go_quiet (fail)
        go_wp2
        refine bodyPost_ret (v := .tuple #[.agg #[.slice fa p.n.length fcap, .slice da p.d.length dcap, .int .i64 p.s], .bool true]) (by simp [results, Tryz.results23, go_sem, r0, r1, r2]) rfl ?_
        have hgz : w.grownBy ((((wr.drewN nq).setCell ⟨w.heap.size + 1, 0, none⟩ (.slice fa p.n.length fcap)).setCell ⟨w.heap.size + 1, 1, none⟩ (.slice da p.d.length dcap)).setCell ⟨w.heap.size + 1, 2, none⟩ (.int .i64 p.s)) none :=
          grown_of_below ((((below_of_grown (grown_drewN hgd nq)).setCell (by simp) _).setCell (by simp) _).setCell (by simp) _)
        have hgx : ∀ (zs : List Int) (v : Value), RdB w.heap.size wr v zs → RdB w.heap.size ((((wr.drewN nq).setCell ⟨w.heap.size + 1, 0, none⟩ (.slice fa p.n.length fcap)).setCell ⟨w.heap.size + 1, 1, none⟩ (.slice da p.d.length dcap)).setCell ⟨w.heap.size + 1, 2, none⟩ (.int .i64 p.s)) v zs := fun zs v h =>
          ((((h.keep (grown_drewN (World.grownBy.refl _ _) nq)).beside (grown_setF _ _ _) (fun k e => by cases e; simp)).beside (grown_setF _ _ _) (fun k e => by cases e; simp)).beside (grown_setF _ _ _) (fun k e => by cases e; simp))
        refine ⟨?_, hgz⟩
        unfold FindSays
        rw [HF.out]
        exact ⟨(_, _), rfl, hgx _ _ HVV.out.rn, HVV.out.sn, hgx _ _ HVV.out.rd, HVV.out.sd⟩
      · rw [decide_eq_false heq] at HE
        have HB : Hid (∀ j (hj : j < k + 1) (hl : j < fs.length), fs[j].n ≠ n) := fun j hj hl => by
          by_cases hjk : j = k
          · subst hjk; exact heq
          · exact HA.out j (by omega) hl
        subst hfv hdv
        clear hp heq hV
        generalize fs[k] = p at *
        go_wp2
        go_quiet (fail)
        go_wp2
        go_roundw
        case rel => exact ⟨k + 1, by omega, by go_num, HB, grown_drewN hgr _⟩
        case measure => simp [intOf]; omega
    · have HF : Hid (findF fs n = none) := find_no (fun j hj => HA.out j (by omega) hj)
      go_wp2
      refine bodyPost_ret (v := .tuple #[.agg #[.slice none 0 0, .slice none 0 0, .int .i64 0], .bool false]) (by simp [results, Tryz.results23, go_sem, r0, r1, r2]) rfl ?_
      refine ⟨?_, ?_⟩
      · unfold FindSays; rw [HF.out]
      · exact grown_of_below ((((below_of_grown hgw).setCell (by simp) _).setCell (by simp) _).setCell (by simp) _)

end Go.Proofs.YtakkdniikhgpdaaGreatDoor

