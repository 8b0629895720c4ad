import Derived.Test.YthcjmmpkgljjhaaGreatDoorMBN
namespace Go.Proofs.YthcjmmpkgljjhaaGreatDoor
open Go.RowKit
attribute [-go_sem] Builtin.append_

/-- The first k nodes copied: Lead and Tail any slices, the other lists rows of one's own that lie beside the row. -/
def Copied (B : Nat) (w : World) (v : Value) (k : Nat) (ns : List Nod) : Prop :=
  ∃ xs, w.ownsRow B 42 8 v k xs ∧ ∀ j p, j < k → ns[j]? = some p → ∃ a n c t a' n' c', At8 xs (j * 8) p (.slice a n c) t.1 t.2.1 t.2.2 (.slice a' n' c') ∧ Own3 B w p t ∧ Apr v.ownBlock t
theorem Copied.later {B k : Nat} {w w' : World} {v : Value} {ns : List Nod} (h : Copied B w v k ns) (g : w.grownBy w' none) : Copied B w' v k ns := by
  obtain ⟨xs, ho, ht⟩ := h
  refine ⟨xs, World.ownsRow.kept ho g (by cases v.ownBlock <;> simp), fun j p hj hp => ?_⟩
  obtain ⟨a, n, c, t, a', n', c', h1, h2, h3⟩ := ht j p hj hp
  exact ⟨a, n, c, t, a', n', c', h1, h2.later g, h3⟩
theorem Copied.set {B k : Nat} {w : World} {v : Value} {ns : List Nod} (h : Copied B w v k ns) (b j : Nat) (x : Value) (hb : b < B) : Copied B (w.setCell ⟨b, j, none⟩ x) v k ns := by
  obtain ⟨xs, ho, ht⟩ := h
  refine ⟨xs, row_setC ho _ _ (fun e => by have := (World.ownsRow.lt ho _ e).1; simp only at this; omega), fun j p hj hp => ?_⟩
  obtain ⟨a, n, c, t, a', n', c', h1, h2, h3⟩ := ht j p hj hp
  exact ⟨a, n, c, t, a', n', c', h1, h2.set _ _ _ hb, h3⟩
theorem Copied.base {B B' k : Nat} {w : World} {v : Value} {ns : List Nod} (h : Copied B w v k ns) (hB : B' ≤ B) : Copied B' w v k ns := by
  obtain ⟨xs, ho, ht⟩ := h
  refine ⟨xs, row_base hB ho, fun j p hj hp => ?_⟩
  obtain ⟨a, n, c, t, a', n', c', h1, h2, h3⟩ := ht j p hj hp
  exact ⟨a, n, c, t, a', n', c', h1, h2.base hB, h3⟩

theorem Own3.row {B : Nat} {w w' : World} {p : Nod} {t : V3} {r : Option Nat} (h : Own3 B w p t) (ha : Apr r t) (g : w.grownBy w' r) : Own3 B w' p t :=
  ⟨Ow.beside h.1 g (fun k e j e' q => ha k (.inl e) (by rw [e', q])), Ow.beside h.2.1 g (fun k e j e' q => ha k (.inr (.inl e)) (by rw [e', q])), Ow.beside h.2.2 g (fun k e j e' q => ha k (.inr (.inr e)) (by rw [e', q]))⟩
theorem Own3.apr {B : Nat} {w : World} {p : Nod} {t : V3} (h : Own3 B w p t) (r : Option Nat) (hr : ∀ x, r = some x → x < B ∨ w.heap.size ≤ x) : Apr r t := fun g hg e => by
  have := hr g e
  rcases hg with hg | hg | hg
  · have := World.ownsRow.lt h.1 g hg; omega
  · have := World.ownsRow.lt h.2.1 g hg; omega
  · have := World.ownsRow.lt h.2.2 g hg; omega

theorem At8.app {xs : List Value} {o : Nat} {p : Nod} {lv kv xv uv tv : Value} (h : At8 xs o p lv kv xv uv tv) (ys : List Value) : At8 (xs ++ ys) o p lv kv xv uv tv := by
  obtain ⟨e0, e1, e2, e3, e4, e5, e6, e7⟩ := h
  have f : ∀ i u, xs[i]? = some u → (xs ++ ys)[i]? = some u := fun i u h => by rw [List.getElem?_append_left (List.getElem?_eq_some_iff.1 h).1]; exact h
  exact ⟨f _ _ e0, f _ _ e1, f _ _ e2, f _ _ e3, f _ _ e4, f _ _ e5, f _ _ e6, f _ _ e7⟩
theorem At8.last (xs : List Value) (o : Nat) (p : Nod) (lv kv xv uv tv : Value) (hl : xs.length = o) : At8 (xs ++ [.int .i64 p.k, lv, .bool p.mem, kv, xv, uv, .int .i64 p.cnt, tv]) o p lv kv xv uv tv := by
  subst hl
  have f : ∀ i, (xs ++ [.int .i64 p.k, lv, .bool p.mem, kv, xv, uv, .int .i64 p.cnt, tv])[xs.length + i]? = [Value.int .i64 p.k, lv, .bool p.mem, kv, xv, uv, .int .i64 p.cnt, tv][i]? := fun i => by
    rw [List.getElem?_append_right (by omega)]; congr 1; omega
  exact ⟨f 0, f 1, f 2, f 3, f 4, f 5, f 6, f 7⟩

/-- 'append(v, n)' of one node, whose eight cells lie in a block of their own. -/
theorem append_nd (B : Nat) (w : World) (v : Value) (n : Nat) (xs : List Value) (b : Nat) (p : Nod) (la : Option Addr) (ln lc : Nat) (ka : Option Addr) (kn kc : Nat) (xa : Option Addr) (xn xc : Nat) (ua : Option Addr) (un uc : Nat) (ta : Option Addr) (tn tc : Nat)
    (hown : w.ownsRow B 42 8 v n xs)
    (hc : C8 w b (.int .i64 p.k) (.slice la ln lc) (.bool p.mem) (.slice ka kn kc) (.slice xa xn xc) (.slice ua un uc) (.int .i64 p.cnt) (.slice ta tn tc)) (hB : B ≤ w.heap.size) (hn : n ≤ 100000000) :
    ∃ v' w', (Builtin.append_ #[27, 27] 27 #[v, .slice (some ⟨b, 0, none⟩) 1 1]).run Tryz.prog w = .ok v' w' ∧
      w'.ownsRow B 42 8 v' (n + 1) (xs ++ [.int .i64 p.k, .slice la ln lc, .bool p.mem, .slice ka kn kc, .slice xa xn xc, .slice ua un uc, .int .i64 p.cnt, .slice ta tn tc]) ∧ w.grownBy w' v.ownBlock ∧ (v'.ownBlock = v.ownBlock ∨ v'.ownBlock = some w.heap.size) ∧ ∃ a cap, v' = .slice a (n + 1) cap := by
  obtain ⟨i0, hi, hz0, hz1, hz2⟩ := info_parts infoNd
  have hnews : ∀ j u, ([.int .i64 p.k, .slice la ln lc, .bool p.mem, .slice ka kn kc, .slice xa xn xc, .slice ua un uc, .int .i64 p.cnt, .slice ta tn tc] : List Value)[j]? = some u → w.cell? ((⟨b, 0, none⟩ : Addr).add j) = some u := by
    intro j u hj
    rw [Addr.add_lit, Nat.zero_add]
    match j, hj with
    | 0, hj => simp at hj; subst hj; exact hc.c0
    | 1, hj => simp at hj; subst hj; exact hc.c1
    | 2, hj => simp at hj; subst hj; exact hc.c2
    | 3, hj => simp at hj; subst hj; exact hc.c3
    | 4, hj => simp at hj; subst hj; exact hc.c4
    | 5, hj => simp at hj; subst hj; exact hc.c5
    | 6, hj => simp at hj; subst hj; exact hc.c6
    | 7, hj => simp at hj; subst hj; exact hc.c7
    | j + 8, hj => simp at hj
  obtain ⟨v', w', hrun, h3, h4, _, h5⟩ := run_append_own_at (P := Tryz.prog) w B 27 27 42 i0 (.agg #[.int .i64 0, .slice none 0 0, .bool false, .slice none 0 0, .slice none 0 0, .slice none 0 0, .int .i64 0, .slice none 0 0]) 8 144 Tryz.underlying27 hi hz0 hz1 hz2 rfl (by decide) v n xs hown ⟨b, 0, none⟩ 1 1 _ rfl hnews
      (by intro u hu; simp at hu; rcases hu with rfl | rfl | rfl | rfl | rfl | rfl | rfl | rfl <;> rfl) (by unfold maxLen; omega) (by omega) hB
  refine ⟨v', w', hrun, h3, h4, h5, ?_⟩
  rcases h3.2 with ⟨hv, hn⟩ | ⟨g, cap, cur, hv, _⟩
  · omega
  · exact ⟨_, cap, hv⟩

set_option maxHeartbeats 8000000 in
set_option maxRecDepth 100000 in
theorem l5copy_any (nv tv : Value) (t : Tre) (w : World) (hv : RdT' w.heap.size w nv tv t) (hok : TOk t) :
    Calls Tryz.prog 14 #[.agg #[nv, tv]] w fun e w' => ∃ nv' a n c, e = .returned (.agg #[nv', .slice a n c]) ∧ Copied w.heap.size w' nv' t.nodes.length t.nodes ∧ w.grownBy w' none := by
  obtain ⟨hvn, hvt⟩ := hv
  obtain ⟨na, ncap, hn0, _⟩ := id hvn
  obtain ⟨ta, tcap, ht0, _⟩ := id hvt
  have HN := hide hvn
  have HOK := hide hok
  have hnl := hok.n
  have HJ := hide (fun W (g : w.grownBy W none) => l5join_any tv t.tail W ((hvt.keep g).wide g.size) hok.tl hok.ts)
  subst hn0 ht0
  clear hvn hvt hok
  go_enter Tryz.func14, Tryz.ntmps14
  go_wp2_with fail
  refine (HJ.out _ (grown_trans (World.grownBy_alloc _ _ _) (World.grownBy_alloc _ _ _))).mono ?_
  rintro e w1 ⟨⟨ja, jn, jc, rfl⟩, g1⟩
  have GW := hide (grown_trans (grown_trans (World.grownBy_alloc w (Obj.cells #[.slice na t.nodes.length ncap, .slice ta t.tail.length tcap] 30) none) (World.grownBy_alloc _ (Obj.cells #[.slice none 0 0, .slice none 0 0] 30) _)) g1)
  have q0 := g1.cell (a := ⟨w.heap.size, 0, none⟩) (v := .slice na t.nodes.length ncap) (by simp [go_sem]) (by simp)
  have r0 := grown_bothC (a := ⟨w.heap.size + 1, 0, none⟩) (v := .slice none 0 0) g1 (by simp [go_sem]) (by simp [go_sem])
  have r1 := grown_bothC (a := ⟨w.heap.size + 1, 1, none⟩) (v := .slice none 0 0) g1 (by simp [go_sem]) (by simp [go_sem])
  have hs1 : w.heap.size + 2 ≤ w1.heap.size := by have := g1.size; simp at this; omega
  clear g1 HJ
  go_wp2
  go_loopw [4] (fun i W => ∃ (k : Nat) (ov : Value), k ≤ t.nodes.length ∧ i = .int .i64 k ∧ Below w1.heap.size w1 W ∧ w1.heap.size + 1 ≤ W.heap.size ∧ W.cell? ⟨w1.heap.size, 0, none⟩ = some ov ∧ W.frozen? ⟨w1.heap.size, 0, none⟩ = false ∧ W.cell? ⟨w1.heap.size, 1, none⟩ = some (.slice ja jn jc) ∧ Hid (Copied (w1.heap.size + 1) W ov k t.nodes))
    (fun i _ => t.nodes.length - (intOf i).toNat)
  case atStart =>
    refine ⟨0, .slice none 0 0, Nat.zero_le _, rfl, (Below.refl _ _).alloc (Nat.le_refl _) _, by simp, by simp [go_sem], by simp [go_sem], by simp [go_sem], ⟨[], ⟨by simp, .inl ⟨rfl, rfl⟩⟩, fun j p hj => absurd hj (by omega)⟩⟩
  case round =>
    obtain ⟨k, ov, hk, rfl, hbel, hsz, oc, of', o1, HC⟩ := hrel
    have q0' : wr.cell? ⟨w.heap.size, 0, none⟩ = some (.slice na t.nodes.length ncap) := by rw [hbel.cell (by simp; omega)]; exact q0
    obtain ⟨xs, hrow, hts⟩ := HC.out
    have HTS := hide hts
    have HROW := hide hrow
    obtain ⟨oa, ocp, rfl⟩ := row_slice hrow
    have GR := hide (grown_of_below ((below_of_grown GW.out).trans (hbel.mono (by omega))))
    have HBEL := hide hbel
    by_cases hlt : k < t.nodes.length
    · obtain ⟨b, off, cap', lv, kv, xv, uv, tv', hva, hb, hp⟩ := (HN.out.keep GR.out).at k hlt
      cases hva
      have hpo := HOK.out.ns _ (List.getElem_mem hlt)
      have hpk : t.nodes[k]? = some t.nodes[k] := by simp [hlt]
      have HPK := hide hpk
      have z0 := hp.k; have z1 := hp.lead; have z2 := hp.mem; have z3 := hp.key; have z4 := hp.text; have z5 := hp.units; have z6 := hp.cnt; have z7 := hp.tail
      have hwz := GR.out.size
      have J1 : Hid (∀ W : World, wr.grownBy W none → _) := fun W (g : wr.grownBy W none) => l5join_any lv _ W ((hp.rl.keep g).wide (Nat.le_trans hwz g.size)) hpo.lead hpo.leads
      have J2 : Hid (∀ W : World, wr.grownBy W none → _) := fun W (g : wr.grownBy W none) => l5join_any tv' _ W ((hp.rt.keep g).wide (Nat.le_trans hwz g.size)) hpo.tail hpo.tails
      have J3 : Hid (∀ W : World, wr.grownBy W none → _) := fun W (g : wr.grownBy W none) => l5ints_any kv _ W ((hp.rk.keep g).wideC (Nat.le_trans hwz g.size)) (by have := hpo.key; omega)
      have J4 : Hid (∀ W : World, wr.grownBy W none → _) := fun W (g : wr.grownBy W none) => l5ints_any uv _ W ((hp.ru.keep g).wideC (Nat.le_trans hwz g.size)) (by have := hpo.units; omega)
      have J5 : Hid (∀ W : World, wr.grownBy W none → _) := fun W (g : wr.grownBy W none) => l1copy_any xv _ W ((hp.rx.keep g).wideC (Nat.le_trans hwz g.size)) (by have := hpo.text; omega)
      obtain ⟨la, lcap, hlv, _, _⟩ := hp.rl.sl
      obtain ⟨ta', tcap', htv, _, _⟩ := hp.rt.sl
      obtain ⟨ka, kcap, hkv, _, _⟩ := hp.sk
      obtain ⟨xa, xcap, hxv, _, _⟩ := hp.sx
      obtain ⟨ua, ucap, huv, _, _⟩ := hp.su
      subst hlv htv hkv hxv huv
      clear hp hpo hpk HC hts hrow hbel
      generalize t.nodes[k] = p at *
      have X0 : C8 (wr.alloc (Obj.cells #[.int .i64 p.k, .slice la p.lead.length lcap, .bool p.mem, .slice ka p.key.length kcap, .slice xa p.text.length xcap, .slice ua p.units.length ucap, .int .i64 p.cnt, .slice ta' p.tail.length tcap'] 42)) wr.heap.size (.int .i64 p.k) (.slice la p.lead.length lcap) (.bool p.mem) (.slice ka p.key.length kcap) (.slice xa p.text.length xcap) (.slice ua p.units.length ucap) (.int .i64 p.cnt) (.slice ta' p.tail.length tcap') :=
        ⟨by simp [go_sem], by simp [go_sem], by simp [go_sem], by simp [go_sem], by simp [go_sem], by simp [go_sem], by simp [go_sem], by simp [go_sem], fun j => by simp [go_sem]⟩
      have HX := hide X0
      have HB := hide ((Below.refl wr.heap.size wr).alloc (Nat.le_refl _) (Obj.cells #[.int .i64 p.k, .slice la p.lead.length lcap, .bool p.mem, .slice ka p.key.length kcap, .slice xa p.text.length xcap, .slice ua p.units.length ucap, .int .i64 p.cnt, .slice ta' p.tail.length tcap'] 42))
      clear X0
      go_wp2_with fail
      refine (J1.out _ (grown_of_below HB.out)).mono ?_
      rintro e w2 ⟨⟨a1, n1, c1, rfl⟩, g2⟩
      have X2 := HX.out.keep g2
      have HX2 := hide (X2.p1 (.slice a1 n1 c1))
      have HB2 := hide ((HB.out.grown g2 HB.out.size (fun k e => by cases e)).setCell (p := ⟨wr.heap.size, 1, none⟩) (Nat.le_refl _) (.slice a1 n1 c1))
      obtain ⟨y0, y1, y2, y3, y4, y5, y6, y7, yf⟩ := X2
      clear g2 HX HB J1
      go_wp2_with fail
      refine (J2.out _ (grown_of_below HB2.out)).mono ?_
      rintro e w3 ⟨⟨a2, n2, c2, rfl⟩, g3⟩
      have X3 := HX2.out.keep g3
      have HX3 := hide (X3.p7 (.slice a2 n2 c2))
      have HB3 := hide ((HB2.out.grown g3 HB2.out.size (fun k e => by cases e)).setCell (p := ⟨wr.heap.size, 7, none⟩) (Nat.le_refl _) (.slice a2 n2 c2))
      clear y0 y1 y2 y3 y4 y5 y6 y7 yf
      obtain ⟨y0, y1, y2, y3, y4, y5, y6, y7, yf⟩ := X3
      clear g3 HX2 HB2 J2
      have s3 : wr.heap.size + 1 ≤ w3.heap.size := by have := World.block_lt_of_cell? w3 _ y0; simp only at this; omega
      go_wp2_with fail
      refine (J3.out _ (grown_of_below HB3.out)).mono ?_
      rintro e w4 ⟨v4, rfl, q4, g4⟩
      have O4 := q4
      have hO4 : OwI (wr.heap.size + 1) w4 v4 p.key := row_base (by simpa using s3) q4
      clear q4 O4
      obtain ⟨ra4, rc4, hv4, _⟩ := hO4.rd
      subst hv4
      have X4 := HX3.out.keep g4
      have HX4 := hide (X4.p3 (.slice ra4 p.key.length rc4))
      have HB4 := hide ((HB3.out.grown g4 HB3.out.size (fun k e => by cases e)).setCell (p := ⟨wr.heap.size, 3, none⟩) (Nat.le_refl _) (.slice ra4 p.key.length rc4))
      have HO4 := hide (hO4.setC ⟨wr.heap.size, 3, none⟩ (.slice ra4 p.key.length rc4) (by simp only; omega))
      clear y0 y1 y2 y3 y4 y5 y6 y7 yf hO4
      obtain ⟨y0, y1, y2, y3, y4, y5, y6, y7, yf⟩ := X4
      clear g4 HX3 HB3 J3 s3
      have s4 : wr.heap.size + 1 ≤ w4.heap.size := by have := World.block_lt_of_cell? w4 _ y0; simp only at this; omega
      go_wp2_with fail
      refine (J4.out _ (grown_of_below HB4.out)).mono ?_
      rintro e w5 ⟨v5, rfl, q5, g5⟩
      have hO5 : OwI (wr.heap.size + 1) w5 v5 p.units := row_base (by simpa using s4) q5
      clear q5
      obtain ⟨ra5, rc5, hv5, _⟩ := hO5.rd
      subst hv5
      have X5 := HX4.out.keep g5
      have HX5 := hide (X5.p5 (.slice ra5 p.units.length rc5))
      have HB5 := hide ((HB4.out.grown g5 HB4.out.size (fun k e => by cases e)).setCell (p := ⟨wr.heap.size, 5, none⟩) (Nat.le_refl _) (.slice ra5 p.units.length rc5))
      have HO4' := hide ((Ow.later HO4.out g5).setC ⟨wr.heap.size, 5, none⟩ (.slice ra5 p.units.length rc5) (by simp only; omega))
      have HO5 := hide (hO5.setC ⟨wr.heap.size, 5, none⟩ (.slice ra5 p.units.length rc5) (by simp only; omega))
      clear y0 y1 y2 y3 y4 y5 y6 y7 yf hO5 HO4
      obtain ⟨y0, y1, y2, y3, y4, y5, y6, y7, yf⟩ := X5
      clear g5 HX4 HB4 J4 s4
      have s5 : wr.heap.size + 1 ≤ w5.heap.size := by have := World.block_lt_of_cell? w5 _ y0; simp only at this; omega
      go_wp2_with fail
      refine (J5.out _ (grown_of_below HB5.out)).mono ?_
      rintro e w6 ⟨v6, rfl, q6, g6⟩
      have hO6 : OwB (wr.heap.size + 1) w6 v6 p.text := row_base (by simpa using s5) q6
      clear q6
      obtain ⟨ra6, rc6, hv6, _⟩ := hO6.rd
      subst hv6
      have X6 := HX5.out.keep g6
      have X7 := X6.p4 (.slice ra6 p.text.length rc6)
      have B7 := (HB5.out.grown g6 HB5.out.size (fun k e => by cases e)).setCell (p := ⟨wr.heap.size, 4, none⟩) (Nat.le_refl _) (.slice ra6 p.text.length rc6)
      have O3 : Own3 (wr.heap.size + 1) (w6.setCell ⟨wr.heap.size, 4, none⟩ (.slice ra6 p.text.length rc6)) p (.slice ra4 p.key.length rc4, .slice ra6 p.text.length rc6, .slice ra5 p.units.length rc5) :=
        ⟨(Ow.later HO4'.out g6).setC ⟨wr.heap.size, 4, none⟩ _ (by simp only; omega), hO6.setC ⟨wr.heap.size, 4, none⟩ _ (by simp only; omega), (Ow.later HO5.out g6).setC ⟨wr.heap.size, 4, none⟩ _ (by simp only; omega)⟩
      clear y0 y1 y2 y3 y4 y5 y6 y7 yf
      obtain ⟨y0, y1, y2, y3, y4, y5, y6, y7, yf⟩ := X6
      clear g6 HX5 HB5 J5 s5 HO4' HO5 hO6
      have oc6 : w6.cell? ⟨w1.heap.size, 0, none⟩ = some (.slice oa k ocp) := by
        have := (grown_of_below B7).cell oc (by simp)
        rwa [World.cell?_setCell_other _ _ _ _ (by intro e; have := congrArg Addr.block e; simp only at this; omega)] at this
      have of6 : w6.frozen? ⟨w1.heap.size, 0, none⟩ = false := by
        have := (grown_bothC (grown_of_below B7) oc of').2
        simpa using this
      obtain ⟨W7, hW7⟩ : ∃ W7, W7 = w6.setCell ⟨wr.heap.size, 4, none⟩ (.slice ra6 p.text.length rc6) := ⟨_, rfl⟩
      rw [← hW7] at X7 B7 O3
      obtain ⟨W8, hW8⟩ : ∃ W8, W8 = W7.alloc (Obj.cells #[.int .i64 p.k, .slice a1 n1 c1, .bool p.mem, .slice ra4 p.key.length rc4, .slice ra6 p.text.length rc6, .slice ra5 p.units.length rc5, .int .i64 p.cnt, .slice a2 n2 c2] 42) := ⟨_, rfl⟩
      have g8 : W7.grownBy W8 none := by rw [hW8]; exact World.grownBy_alloc _ _ _
      have s8 : W8.heap.size = W7.heap.size + 1 := by rw [hW8]; simp
      have X8 : C8 W8 W7.heap.size (.int .i64 p.k) (.slice a1 n1 c1) (.bool p.mem) (.slice ra4 p.key.length rc4) (.slice ra6 p.text.length rc6) (.slice ra5 p.units.length rc5) (.int .i64 p.cnt) (.slice a2 n2 c2) := by
        rw [hW8]
        exact ⟨by simp [go_sem], by simp [go_sem], by simp [go_sem], by simp [go_sem], by simp [go_sem], by simp [go_sem], by simp [go_sem], by simp [go_sem], fun j => by simp [go_sem]⟩
      have g78 := grown_trans (grown_of_below B7) g8
      obtain ⟨v9, w9, run9, hrow9, g9, hat, a9, c9, hv9⟩ := append_nd (w1.heap.size + 1) W8 (.slice oa k ocp) k xs W7.heap.size p a1 n1 c1 ra4 p.key.length rc4 ra6 p.text.length rc6 ra5 p.units.length rc5 a2 n2 c2 (World.ownsRow.kept HROW.out g78 (by cases (Value.slice oa k ocp).ownBlock <;> simp)) X8 (by have := g78.size; omega) (by omega)
      have hlt9 : ∀ x, (Value.slice oa k ocp).ownBlock = some x → w1.heap.size + 1 ≤ x ∧ x < wr.heap.size := fun x e => World.ownsRow.lt HROW.out x e
      have hs78 := g78.size
      have hb7 := B7.size
      have HEND : Hid (Copied (w1.heap.size + 1) (w9.setCell ⟨w1.heap.size, 0, none⟩ v9) v9 (k + 1) t.nodes) := by
        refine Copied.set ⟨_, hrow9, fun j q hj hq => ?_⟩ _ _ _ (by omega)
        by_cases hjk : j < k
        · obtain ⟨a, n, c, t3, a', n', c', h1, h2, h3⟩ := HTS.out j q hjk hq
          refine ⟨a, n, c, t3, a', n', c', h1.app _, (h2.later g78).row h3 g9, ?_⟩
          rcases hat with e | e
          · rw [e]; exact h3
          · rw [e]; exact h2.apr _ (fun x ex => by cases ex; right; omega)
        · have hje : j = k := by omega
          subst hje
          rw [HPK.out] at hq
          cases hq
          have A0 : Apr (Value.slice oa j ocp).ownBlock (Value.slice ra4 p.key.length rc4, Value.slice ra6 p.text.length rc6, Value.slice ra5 p.units.length rc5) := O3.apr _ (fun x ex => by have := hlt9 x ex; left; omega)
          refine ⟨_, _, _, (.slice ra4 p.key.length rc4, .slice ra6 p.text.length rc6, .slice ra5 p.units.length rc5), _, _, _, At8.last xs (j * 8) p _ _ _ _ _ HROW.out.1, (((O3.later g8).row A0 g9).base (by omega)), ?_⟩
          rcases hat with e | e
          · rw [e]; exact A0
          · rw [e]; exact O3.apr _ (fun x ex => by cases ex; right; omega)
      have hb9 : Below (w1.heap.size + 1) wr w9 := (((B7.mono (by omega)).grown g8 (by omega) (fun k e => by cases e)).grown g9 (by omega) (fun x e => (hlt9 x e).1))
      have oc9 : w9.cell? ⟨w1.heap.size, 0, none⟩ = some (.slice oa k ocp) := by rw [hb9.cell (by simp)]; exact oc
      have of9 : w9.frozen? ⟨w1.heap.size, 0, none⟩ = false := by rw [hb9.frozen (by simp)]; exact of'
      have o19 : w9.cell? ⟨w1.heap.size, 1, none⟩ = some (.slice ja jn jc) := by rw [hb9.cell (by simp)]; exact o1
      have HB9 := hide ((HBEL.out.trans (hb9.mono (by omega))).setCell (p := ⟨w1.heap.size, 0, none⟩) (Nat.le_refl _) v9)
      have hs9 : w1.heap.size + 1 ≤ w9.heap.size := by have := hb9.size; omega
      have e7 : W7.heap.size = w6.heap.size := by rw [hW7]; simp
      rw [e7] at run9
      clear e7
      subst hv9 hW8 hW7
      clear hrow9 g9 hat X8 X7 B7 O3 g8 s8 g78 hlt9 hs78 hb7 hb9 HBEL HTS HROW HPK
      go_wp2
      go_roundw
      case rel => exact ⟨k + 1, _, by omega, by go_num, HB9.out, by simpa using hs9, by simp [go_sem, oc9], by simp [go_sem, of9], by simp [go_sem, o19], HEND⟩
      case measure => simp [intOf]; omega
    · have hkn : k = t.nodes.length := by omega
      subst hkn
      have r0' : wr.cell? ⟨w.heap.size + 1, 0, none⟩ = some (.slice none 0 0) := by rw [HBEL.out.cell (by simp; omega)]; exact r0.1
      have r1' : wr.cell? ⟨w.heap.size + 1, 1, none⟩ = some (.slice none 0 0) := by rw [HBEL.out.cell (by simp; omega)]; exact r1.1
      have f0' : wr.frozen? ⟨w.heap.size + 1, 0, none⟩ = false := by rw [HBEL.out.frozen (by simp; omega)]; exact r0.2
      have f1' : wr.frozen? ⟨w.heap.size + 1, 1, none⟩ = false := by rw [HBEL.out.frozen (by simp; omega)]; exact r1.2
      clear HTS HROW
      go_wp2
      refine bodyPost_ret (v := .agg #[.slice oa t.nodes.length ocp, .slice ja jn jc]) (by simp [results, Tryz.results14, go_sem, r0', r1']) rfl ?_
      refine ⟨_, _, _, _, rfl, ?_, ?_⟩
      · exact ((HC.out.set _ _ _ (by omega)).set _ _ _ (by omega)).base (by omega)
      · exact grown_of_below (((below_of_grown GR.out).setCell (by simp) _).setCell (by simp) _)
end Go.Proofs.YthcjmmpkgljjhaaGreatDoor

