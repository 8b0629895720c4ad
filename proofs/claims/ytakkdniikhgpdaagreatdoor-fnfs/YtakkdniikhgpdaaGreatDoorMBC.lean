import Derived.Test.YtakkdniikhgpdaaGreatDoorMBB
namespace Go.Proofs.YtakkdniikhgpdaaGreatDoor
open Go.RowKit

/-- A node at a place: its cells, and what its lists say. -/
structure Ndp (Γ : Gk) (w : World) (b o : Nat) (p : Nod) (l y x u t : Option Addr × Nat) : Prop where
  k : w.cell? ⟨b, o, none⟩ = some (.int .i64 p.k)
  lead : w.cell? ⟨b, o + 1, none⟩ = some (.slice l.1 p.lead.length l.2)
  mem : w.cell? ⟨b, o + 2, none⟩ = some (.bool p.mem)
  key : w.cell? ⟨b, o + 3, none⟩ = some (.slice y.1 p.key.length y.2)
  text : w.cell? ⟨b, o + 4, none⟩ = some (.slice x.1 p.text.length x.2)
  units : w.cell? ⟨b, o + 5, none⟩ = some (.slice u.1 p.units.length u.2)
  cnt : w.cell? ⟨b, o + 6, none⟩ = some (.int .i64 p.cnt)
  tail : w.cell? ⟨b, o + 7, none⟩ = some (.slice t.1 p.tail.length t.2)
  jl : JC (Pre Γ) (l.1, p.lead.length, l.2) p.lead
  jk : JI (Pre Γ) (y.1, p.key.length, y.2) p.key
  ju : JI (Pre Γ) (u.1, p.units.length, u.2) p.units
  jt : JC (Pre Γ) (t.1, p.tail.length, t.2) p.tail
theorem Ndp.keep {Γ : Gk} {w w' : World} {b o : Nat} {p : Nod} {l y x u t : Option Addr × Nat} (h : Ndp Γ w b o p l y x u t) {r : Option Nat} (g : w.grownBy w' r) (hb : some b ≠ r) : Ndp Γ w' b o p l y x u t :=
  ⟨g.cell h.k hb, g.cell h.lead hb, g.cell h.mem hb, g.cell h.key hb, g.cell h.text hb, g.cell h.units hb, g.cell h.cnt hb, g.cell h.tail hb, h.jl, h.jk, h.ju, h.jt⟩
theorem sv_eq {v : Sv} {n : Nat} (h : Sl v.v n) : v = (v.1, n, v.2.2) := by
  obtain ⟨a, cap, e, _⟩ := h
  obtain ⟨x, y, z⟩ := v
  simp only [Sv.v, Value.slice.injEq] at e ⊢
  obtain ⟨_, rfl, _⟩ := e
  rfl
theorem JC.len {Γ : Gk} {H : Nat} {w : World} {v : Sv} {cs : List Cm} (h : JC (Pre Γ) v cs) (hm : MT H Γ w) : v = (v.1, cs.length, v.2.2) := sv_eq (h.rd hm).sl
theorem JI.len {Γ : Gk} {H : Nat} {w : World} {v : Sv} {cs : List Int} (h : JI (Pre Γ) v cs) (hm : MT H Γ w) : v = (v.1, cs.length, v.2.2) := sv_eq (h.rd hm).2
theorem JB.len {Γ : Gk} {H : Nat} {w : World} {v : Sv} {cs : List Int} (h : JB (Pre Γ) v cs) (hm : MT H Γ w) : v = (v.1, cs.length, v.2.2) := sv_eq (h.rd hm).2
/-- The nodes of a tree that is not empty lie in one block. -/
theorem JN.base {H : Nat} {Γ : Gk} {w : World} {v : Sv} {ns : List Nod} (h : JN (Pre Γ) v ns) (hm : MT H Γ w) (h0 : 0 < ns.length) : ∃ b off cap, v = (some ⟨b, off, none⟩, ns.length, cap) ∧ ns.length ≤ cap ∧ cap ≤ maxLen ∧ H ≤ b ∧ b < w.heap.size ∧ ∀ (W : World), MT H Γ W → ∀ (j : Nat) (hj : j < ns.length), ∃ l y x u t, Ndp Γ W b (off + j * 8) ns[j] l y x u t := by
  obtain ⟨els, h1, h2⟩ := h
  have hl := h2.len
  obtain ⟨a, cap, hv, hc1, hc2⟩ := pre_len h1 hm
  rw [hl] at hv hc1
  rcases h1 with ⟨rfl, rfl⟩ | ⟨b, m, zs, rfl, h3, h4, h5⟩
  · simp at hl; omega
  · obtain ⟨rfl, rfl⟩ : cap = m ∧ a = some ⟨b, 0, none⟩ := by
      simp only [Sv.v, Value.slice.injEq] at hv
      exact ⟨hv.2.2.symm, hv.1.symm⟩
    refine ⟨b, 0, cap, by rw [hl], hc1, hc2, (hm.lt h3).1, (hm.lt h3).2, fun W hW j hj => ?_⟩
    obtain ⟨e, he, hjd⟩ := h2.at (j := j) (c := ns[j]) (by simp [hj])
    cases e with
    | d k l mm y x u n t =>
      obtain ⟨⟨rfl, rfl, rfl⟩, c1, i1, b1, i2, c2⟩ := hjd
      have e1 := c1.len hW; have e2 := i1.len hW; have e3 := b1.len hW; have e4 := i2.len hW; have e5 := c2.len hW
      have d0 := pre_at hW h3 h4 he (f := 0) (by decide); have d1 := pre_at hW h3 h4 he (f := 1) (by decide); have d2 := pre_at hW h3 h4 he (f := 2) (by decide); have d3 := pre_at hW h3 h4 he (f := 3) (by decide)
      have d4 := pre_at hW h3 h4 he (f := 4) (by decide); have d5 := pre_at hW h3 h4 he (f := 5) (by decide); have d6 := pre_at hW h3 h4 he (f := 6) (by decide); have d7 := pre_at hW h3 h4 he (f := 7) (by decide)
      rw [e1] at d1 c1; rw [e2] at d3 i1; rw [e3] at d4; rw [e4] at d5 i2; rw [e5] at d7 c2
      rw [Nat.zero_add]
      exact ⟨(l.1, l.2.2), (y.1, y.2.2), (x.1, x.2.2), (u.1, u.2.2), (t.1, t.2.2), d0, d1, d2, d3, d4, d5, d6, d7, c1, i1, i2, c2⟩
    | b _ => exact hjd.elim
    | i _ => exact hjd.elim
    | c _ _ => exact hjd.elim
theorem lloop_add {σ : Type} (f : σ → Option σ) (a : Nat) : ∀ (b : Nat) (s : σ), loopN f (a + b) s = (loopN f a s).bind (loopN f b)
  | 0, s => by simp only [Nat.add_zero]; cases h : loopN f a s <;> rfl
  | b + 1, s => by
    rw [← Nat.add_assoc, loopN_snoc, lloop_add f a b s]
    cases loopN f a s with
    | none => rfl
    | some x => rw [Option.bind_some, Option.bind_some, loopN_snoc]
/-- One item after another: what is left. -/
theorem lis_step {zs : List Int} {d : Nat} {m : Bool} {cnt : Nat} {R R2 : List Nod} {i : Nat} (hl : loopN (walkL triv d m) cnt (R, ()) = some (R2, ())) (hn : ∀ n ∈ R, n.k < 5 → n.cnt = 0) {k : Nat} (hk : k < cnt) : walkL triv d m ((lisF zs (loF zs d) cnt k R i).2.1, ()) = some ((lisF zs (loF zs d) cnt (k + 1) R i).2.1, ()) ∧ ∃ P, R = P ++ (lisF zs (loF zs d) cnt k R i).2.1 := by
  obtain ⟨b, rfl⟩ : ∃ b, cnt = k + (b + 1) := ⟨cnt - k - 1, by omega⟩
  rw [lloop_add, Option.bind_eq_some_iff] at hl
  obtain ⟨⟨R1, ⟨⟩⟩, h1, h2⟩ := hl
  rw [loopN, Option.bind_eq_some_iff] at h2
  obtain ⟨⟨R3, ⟨⟩⟩, h3, h4⟩ := h2
  have e1 := lis_rest (zs := zs) (fun R R2 i => lo_rest zs d m R R2 i) (k + (b + 1)) k R R1 i h1 hn
  have e2 := lis_rest (zs := zs) (fun R R2 i => lo_rest zs d m R R2 i) (k + (b + 1)) (k + 1) R R3 i (by rw [loopN_snoc, h1, Option.bind_some]; exact h3) hn
  rw [e1, e2]
  exact ⟨h3, (loop_splits (walk_splits triv d m).1 (walk_splits triv d m).2 k).2 R R1 h1⟩
theorem lis_end {zs : List Int} {d : Nat} {m : Bool} {cnt : Nat} {R R2 : List Nod} {i : Nat} (hl : loopN (walkL triv d m) cnt (R, ()) = some (R2, ())) (hn : ∀ n ∈ R, n.k < 5 → n.cnt = 0) : (lisF zs (loF zs d) cnt cnt R i).2.1 = R2 := lis_rest (zs := zs) (fun R R2 i => lo_rest zs d m R R2 i) cnt cnt R R2 i hl hn
theorem suf_drop {ns R' : List Nod} {j : Nat} {P : List Nod} (hP : ns.drop j = P ++ R') : R' = ns.drop (ns.length - R'.length) := by
  have h : ns = (ns.take j ++ P) ++ R' := by rw [List.append_assoc, ← hP, List.take_append_drop]
  generalize ns.take j ++ P = Q at h
  subst h
  simp
end Go.Proofs.YtakkdniikhgpdaaGreatDoor

namespace Go.Proofs.YtakkdniikhgpdaaGreatDoor
open Go.RowKit

/-- The contract of l6loose for values at the depth d. -/
def LoOk (F : Nat) (v : Value) (zs : List Int) (t : Tre) (d : Nat) : Prop :=
  ∀ (j : Nat) (R2 : List Nod) (m : Bool) (i : Nat) (Γ : Gk) (w : World) (nv tv : Sv), j < t.nodes.length → walkL triv d m (t.nodes.drop j, ()) = some (R2, ()) → KS F v zs i Γ w → JN (Pre Γ) nv t.nodes → JC (Pre Γ) tv t.tail →
    Calls Tryz.prog 71 #[.agg #[nv.v, tv.v], .int .i64 j, .pointer (some ⟨F, 0, none⟩)] w fun e w' => e = .returned (.string (strOfNums (loF zs d (t.nodes.drop j) i).1)) ∧ KD F v zs Γ w (loF zs d (t.nodes.drop j) i).2.2 Γ w'

set_option maxHeartbeats 8000000 in
set_option maxRecDepth 100000 in
theorem loose_scal {F : Nat} {v : Value} {zs : List Int} (hz : Zk zs) (t : Tre) (hG : ∀ p ∈ t.nodes, Gx p) (hN : t.nodes.length ≤ 341) (d : Nat) (j i : Nat) (Γ : Gk) (w : World) (nv tv : Sv) (hj : j < t.nodes.length) (hk5 : t.nodes[j].k < 5) (hs : KS F v zs i Γ w) (hJN : JN (Pre Γ) nv t.nodes) (hJC : JC (Pre Γ) tv t.tail) :
    Calls Tryz.prog 71 #[.agg #[nv.v, tv.v], .int .i64 j, .pointer (some ⟨F, 0, none⟩)] w fun e w' => e = .returned (.string (strOfNums (loF zs (d + 1) (t.nodes.drop j) i).1)) ∧ KD F v zs Γ w (loF zs (d + 1) (t.nodes.drop j) i).2.2 Γ w' := by
  have hdr : t.nodes.drop j = t.nodes[j] :: t.nodes.drop (j + 1) := List.drop_eq_getElem_cons hj
  have hg := hG _ (List.getElem_mem hj)
  have HP : Hid (loF zs (d + 1) (t.nodes.drop j) i = if t.nodes[j].k = 4 then ((lqF zs t.nodes[j].units i).1, t.nodes.drop (j + 1), (lqF zs t.nodes[j].units i).2) else (scalW t.nodes[j], t.nodes.drop (j + 1), i)) := by
    unfold Hid
    rw [hdr]
    simp only [loF]
    by_cases h4 : t.nodes[j].k = 4
    · rw [if_pos h4, if_pos h4]
    · rw [if_neg h4, if_neg h4, if_pos hk5]
  have eT := hJC.len hs.mt
  obtain ⟨ta, tn, tcap⟩ := tv
  simp only at eT
  cases eT
  obtain ⟨b, off, cap, rfl, hc1, hc2, hFb, hbw, hat⟩ := hJN.base hs.mt (by omega)
  unfold maxLen at hc2
  obtain ⟨wA, hwA⟩ : ∃ wA, wA = w.alloc (Obj.cells #[.slice (some ⟨b, off, none⟩) t.nodes.length cap, .slice ta t.tail.length tcap] 100) := ⟨_, rfl⟩
  have gA : w.grownBy wA none := by rw [hwA]; exact World.grownBy_alloc _ _ _
  have hp : ∃ l y x u tl, Ndp Γ wA b (off + j * 8) t.nodes[j] l y x u tl := hat wA (hs.mt.grown gA (fun x e => by cases e)) j hj
  obtain ⟨l, y, x, u, tl, hp⟩ := hp
  have z0 := hp.k; have z1 := hp.lead; have z2 := hp.mem; have z3 := hp.key; have z4 := hp.text; have z5 := hp.units; have z6 := hp.cnt; have z7 := hp.tail
  obtain ⟨W3, hW3⟩ : ∃ W3, W3 = wA.alloc (Obj.cells #[.int .i64 t.nodes[j].k, .slice l.1 t.nodes[j].lead.length l.2, .bool t.nodes[j].mem, .slice y.1 t.nodes[j].key.length y.2, .slice x.1 t.nodes[j].text.length x.2, .slice u.1 t.nodes[j].units.length u.2, .int .i64 t.nodes[j].cnt, .slice tl.1 t.nodes[j].tail.length tl.2] 119) := ⟨_, rfl⟩
  have gg : w.grownBy W3 none := by rw [hW3]; exact grown_trans gA (World.grownBy_alloc _ _ _)
  have D3 := (KD.refl hs).keep gg
  have HD3 := hide D3
  by_cases h4 : t.nodes[j].k = 4
  · have HE := hide (HP.out.trans (if_pos h4))
    have HQ := hide (looseQuote_k D3.st hz (u.1, t.nodes[j].units.length, u.2) t.nodes[j].units hp.ju hg.l.units hg.g.b.units.1)
    simp only [Sv.v] at HQ ⊢
    rw [h4] at z0 hW3 hk5
    rw [hW3] at HQ
    subst hwA
    generalize t.nodes[j] = p at *
    have HW3 := hide hW3
    clear hs hJN hJC hat hp gA gg D3 HP hG hz hg hW3 h4 hdr
    go_enter Tryz.func71, Tryz.ntmps71
    go_wp2_with fail
    refine HQ.out.mono ?_
    rintro e w1 ⟨rfl, D1⟩
    rw [← HW3.out] at D1
    have HD := hide (HD3.out.trans D1)
    clear D1 HQ HD3
    go_wp2
    go_ret
    rw [HE.out]
    exact ⟨rfl, HD.out⟩
  · have HE := hide (HP.out.trans (if_neg h4))
    have hk0 := hg.g.k.1
    have HO := hide (lone_scal t j hj hk0 (by omega) hg.l.text hg.g.b.text _ _ W3 ⟨hJN.rd D3.st.mt, hJC.rd D3.st.mt⟩)
    have hne : (t.nodes[j].k == 4) = false := by simpa using h4
    have hlt : decide (t.nodes[j].k < 5) = true := by simpa using hk5
    simp only [Sv.v] at HO ⊢
    rw [hW3] at HO
    subst hwA
    have HW3 := hide hW3
    generalize t.nodes[j] = p at *
    clear hs hJN hJC hat hp gA gg D3 HP hG hz hg hW3 hdr
    go_enter Tryz.func71, Tryz.ntmps71
    go_wp2_with fail
    refine HO.out.mono ?_
    rintro e w1 ⟨v1, rfl, o1, g1⟩
    rw [← HW3.out] at g1
    have hcv := conv_rd o1.rd
    obtain ⟨a1, c1, hv1, _, _⟩ := o1.sl
    generalize (scalW p).length = LL at *
    subst hv1
    have HD := hide (HD3.out.keep g1)
    clear o1 g1 HO HD3
    go_wp2
    go_ret
    rw [HE.out]
    exact ⟨rfl, HD.out⟩
end Go.Proofs.YtakkdniikhgpdaaGreatDoor

