import Derived.Deep.Slices
import Derived.Test.YtalkhnhhaiigiaaGreatDoorMAO
import Derived.Test.YtalkhnhhaiigiaaGreatDoorMBR
namespace Go.Proofs.YtalkhnhhaiigiaaGreatDoor
open Go.RowKit

/-- A row of nodes of one's own. -/
def OwN (B : Nat) (w : World) (v : Value) (ns : List Nod) : Prop :=
  ∃ g xs, v = .slice (some ⟨g, 0, none⟩) ns.length ns.length ∧ ns.length ≤ maxLen ∧ w.ownsRow B 75 8 v ns.length xs ∧
    ∀ j p, ns[j]? = some p → ∃ lv kv xv uv tv, At8 xs (j * 8) p lv kv xv uv tv ∧ Own5 (g + 1) w p lv kv xv uv tv
theorem OwN.lt {B : Nat} {w : World} {v : Value} {ns : List Nod} (h : OwN B w v ns) : ∃ g, v = .slice (some ⟨g, 0, none⟩) ns.length ns.length ∧ B ≤ g ∧ g < w.heap.size := by
  obtain ⟨g, xs, hv, hm, ho, ht⟩ := h
  exact ⟨g, hv, World.ownsRow.lt ho g (by rw [hv]; rfl)⟩
theorem OwN.later {B : Nat} {w w' : World} {v : Value} {ns : List Nod} (h : OwN B w v ns) (hg : w.grownBy w' none) : OwN B w' v ns := by
  obtain ⟨g, xs, hv, hm, ho, ht⟩ := h
  refine ⟨g, xs, hv, hm, World.ownsRow.kept ho hg (.inr (by simp [hv, Value.ownBlock])), fun j p hp => ?_⟩
  obtain ⟨lv, kv, xv, uv, tv, h1, h2⟩ := ht j p hp
  exact ⟨lv, kv, xv, uv, tv, h1, h2.later hg⟩
theorem OwN.set {B : Nat} {w : World} {v : Value} {ns : List Nod} (h : OwN B w v ns) (b j : Nat) (x : Value) (hb : b < B) : OwN B (w.setCell ⟨b, j, none⟩ x) v ns := by
  obtain ⟨g, xs, hv, hm, ho, ht⟩ := h
  have hlt := World.ownsRow.lt ho g (by rw [hv]; rfl)
  refine ⟨g, xs, hv, hm, row_setC ho _ _ (by rw [hv]; simp [Value.ownBlock]; omega), fun j p hp => ?_⟩
  obtain ⟨lv, kv, xv, uv, tv, h1, h2⟩ := ht j p hp
  exact ⟨lv, kv, xv, uv, tv, h1, h2.set _ _ _ (by omega)⟩
theorem OwN.base {B B' : Nat} {w : World} {v : Value} {ns : List Nod} (h : OwN B w v ns) (hB : B' ≤ B) : OwN B' w v ns := by
  obtain ⟨g, xs, hv, hm, ho, ht⟩ := h
  exact ⟨g, xs, hv, hm, row_base hB ho, ht⟩
theorem OwN.rd {B : Nat} {w : World} {v : Value} {ns : List Nod} (h : OwN B w v ns) : RdN w.heap.size w v ns := by
  obtain ⟨g, xs, hv, hm, ho, ht⟩ := h
  have hlt := World.ownsRow.lt ho g (by rw [hv]; rfl)
  refine ⟨_, _, hv, Nat.le_refl _, hm, fun h0 => ⟨g, 0, rfl, hlt.2, fun j p hp => ?_⟩⟩
  obtain ⟨lv, kv, xv, uv, tv, ⟨e0, e1, e2, e3, e4, e5, e6, e7⟩, o⟩ := ht j p hp
  have hj := (List.getElem?_eq_some_iff.1 hp).1
  rw [hv] at ho
  have cc : ∀ i u, i < 8 → xs[j * 8 + i]? = some u → w.cell? ⟨g, 0 + j * 8 + i, none⟩ = some u := fun i u hi hu => by
    rw [Nat.zero_add, World.ownsRow.cellAt ho (j * 8 + i) (by omega)]; exact hu
  exact ⟨lv, kv, xv, uv, tv, cc 0 _ (by omega) e0, cc 1 _ (by omega) e1, cc 2 _ (by omega) e2, cc 3 _ (by omega) e3, cc 4 _ (by omega) e4, cc 5 _ (by omega) e5, cc 6 _ (by omega) e6, cc 7 _ (by omega) e7,
    o.1.rd, o.2.1.rd, o.2.1.sl, o.2.2.1.rd, o.2.2.1.sl, o.2.2.2.1.rd, o.2.2.2.1.sl, o.2.2.2.2.rd⟩

/-- A tree that is not too long. -/
structure TOk (t : Tre) : Prop where
  n : t.nodes.length ≤ 1048576
  ns : ∀ p ∈ t.nodes, NOk p
  tl : t.tail.length ≤ 1048576
  ts : ∀ c ∈ t.tail, c.t.length ≤ 1048576

set_option maxHeartbeats 1000000 in
set_option maxRecDepth 100000 in
theorem toTree_any (t : Tre) (nv tv : Value) (w : World) (h : RdT' w.heap.size w nv tv t) (hok : TOk t) :
    Calls Tryz.prog 6 #[.agg #[nv, tv]] w fun e w' => ∃ nv' tv', e = .returned (.agg #[nv', tv']) ∧ OwN w.heap.size w' nv' t.nodes ∧ OwC w.heap.size w' tv' t.tail ∧ w.grownBy w' none := by
  obtain ⟨hn, ht⟩ := h
  obtain ⟨na, ncap, hnv, _, _, _⟩ := id hn
  obtain ⟨ta, tcap, htv, _, _⟩ := ht.sl
  have gA : w.grownBy (((w.alloc (.cells #[nv, tv] 25)).alloc (.cells #[.slice none 0 0, .slice none 0 0] 33)).alloc (.cells #[.slice none 0 0, .slice none 0 0] 33)) none :=
    grown_trans (grown_trans (World.grownBy_alloc _ _ _) (World.grownBy_alloc _ _ _)) (World.grownBy_alloc _ _ _)
  have HN := hide (toNodeS_any nv t.nodes _ ((hn.keep gA).wide gA.size) hok.n hok.ns)
  have HT := hide (fun W (hW : w.grownBy W none) => toCommentS_any tv t.tail W ((ht.keep hW).wide hW.size) hok.tl hok.ts)
  have bA : Below w.heap.size w (((w.alloc (.cells #[nv, tv] 25)).alloc (.cells #[.slice none 0 0, .slice none 0 0] 33)).alloc (.cells #[.slice none 0 0, .slice none 0 0] 33)) :=
    (((Below.refl w.heap.size w).alloc (Nat.le_refl _) _).alloc (by simp) _).alloc (by simp; omega) _
  have hnl := hok.n
  clear hn ht
  go_enter Tryz.func6, Tryz.ntmps6
  subst hnv htv
  go_wp2_with fail
  refine HN.out.mono ?_
  rintro e w1 ⟨v1, g, xs, rfl, hv1, ho1, ht1, hge, g1⟩
  have O1 : OwN (w.heap.size + 3) w1 v1 t.nodes := ⟨g, xs, hv1, by unfold maxLen; omega, row_base (by simp) ho1, fun j p hp => by subst hge; exact ht1 j p hp⟩
  subst hv1
  have r0 := grown_bothC (a := ⟨w.heap.size + 1, 0, none⟩) (v := .slice none 0 0) g1 (by simp [go_sem]) (by simp [go_sem])
  have r1 := grown_bothC (a := ⟨w.heap.size + 1, 1, none⟩) (v := .slice none 0 0) g1 (by simp [go_sem]) (by simp [go_sem])
  have x0 := grown_bothC (a := ⟨w.heap.size + 1 + 1, 0, none⟩) (v := .slice none 0 0) g1 (by simp [go_sem]) (by simp [go_sem])
  have x1 := grown_bothC (a := ⟨w.heap.size + 1 + 1, 1, none⟩) (v := .slice none 0 0) g1 (by simp [go_sem]) (by simp [go_sem])
  have a1 := g1.cell (a := ⟨w.heap.size, 1, none⟩) (v := .slice ta t.tail.length tcap) (by simp [go_sem]) (by simp)
  obtain ⟨r0, r0f⟩ := r0
  obtain ⟨r1, r1f⟩ := r1
  obtain ⟨x0, x0f⟩ := x0
  obtain ⟨x1, x1f⟩ := x1
  have bel : Below w.heap.size w w1 := bA.grown g1 (by simp; omega) (fun k e => by cases e)
  have hs1 : w.heap.size + 3 ≤ w1.heap.size := by have := g1.size; simp at this; omega
  have HO1 := hide (O1.set (w.heap.size + 1 + 1) 0 (.slice (some ⟨g, 0, none⟩) t.nodes.length t.nodes.length) (by omega))
  have bel2 := bel.setCell (p := ⟨w.heap.size + 1 + 1, 0, none⟩) (by simp only; omega) (.slice (some ⟨g, 0, none⟩) t.nodes.length t.nodes.length)
  have HB := hide bel2
  have HT1 := hide (HT.out _ (grown_of_below bel2))
  clear HT O1 ho1 ht1 bel bel2 bA g1 hge
  go_wp2_with fail
  refine HT1.out.mono ?_
  rintro e w2 ⟨v2, rfl, o2, g2⟩
  have r0' := grown_bothC (a := ⟨w.heap.size + 1, 0, none⟩) (v := .slice none 0 0) g2 (by simp [go_sem, r0]) (by simp [go_sem, r0f])
  have r1' := grown_bothC (a := ⟨w.heap.size + 1, 1, none⟩) (v := .slice none 0 0) g2 (by simp [go_sem, r1]) (by simp [go_sem, r1f])
  have x0' := grown_bothC (a := ⟨w.heap.size + 1 + 1, 0, none⟩) (v := .slice (some ⟨g, 0, none⟩) t.nodes.length t.nodes.length) g2 (by simp [go_sem, x0]) (by simp [go_sem, x0f])
  have x1' := grown_bothC (a := ⟨w.heap.size + 1 + 1, 1, none⟩) (v := .slice none 0 0) g2 (by simp [go_sem, x1]) (by simp [go_sem, x1f])
  clear r0 r1 x0 x1 r0f r1f x0f x1f a1
  obtain ⟨r0, r0f⟩ := r0'
  obtain ⟨r1, r1f⟩ := r1'
  obtain ⟨x0, x0f⟩ := x0'
  obtain ⟨x1, x1f⟩ := x1'
  have O2 := o2.base (B' := w.heap.size + 3) (by simpa using hs1)
  obtain ⟨ta2, tcap2, hv2, _, _⟩ := o2.rd.sl
  subst hv2
  have HO2 := hide O2
  have HO1' := hide (HO1.out.later g2)
  have HB2 := hide (HB.out.grown g2 HB.out.size (fun k e => by cases e))
  clear HO1 HB O2 o2 g2 HT1 HN gA
  go_wp2
  refine bodyPost_ret (v := .agg #[.slice (some ⟨g, 0, none⟩) t.nodes.length t.nodes.length, .slice ta2 t.tail.length tcap2]) (by simp [results, Tryz.results6, go_sem, r0, r1]) rfl ?_
  refine ⟨_, _, rfl, ?_, ?_, ?_⟩
  · exact (((HO1'.out.set _ _ _ (by omega)).set _ _ _ (by omega)).set _ _ _ (by omega)).base (by omega)
  · exact (((HO2.out.set _ _ _ (by omega)).set _ _ _ (by omega)).set _ _ _ (by omega)).base (by omega)
  · exact grown_of_below (((HB2.out.setCell (by simp only; omega) _).setCell (by simp only; omega) _).setCell (by simp only; omega) _)

end Go.Proofs.YtalkhnhhaiigiaaGreatDoor

namespace Go.Proofs.YtalkhnhhaiigiaaGreatDoor
open Go.RowKit

/-- All that a trail visits is of its kind and lies from block B on. -/
def TrIn (w : World) (B : Nat) (l : List (Addr × Kd)) : Prop := ∀ y ∈ l, (KdAt w y.1 y.2 ∧ w.frozen? y.1 = false) ∧ B ≤ y.1.block ∧ y.1.block < w.heap.size
theorem TrIn.ok {w : World} {B : Nat} {l : List (Addr × Kd)} (h : TrIn w B l) : TrOk w l := fun y hy => (h y hy).1
theorem TrIn.base {w : World} {B B' : Nat} {l : List (Addr × Kd)} (h : TrIn w B l) (hB : B' ≤ B) : TrIn w B' l := fun y hy => ⟨(h y hy).1, by have := (h y hy).2; omega⟩
theorem TrIn.app {w : World} {B : Nat} {l l' : List (Addr × Kd)} (h : TrIn w B l) (h' : TrIn w B l') : TrIn w B (l ++ l') := fun y hy => by
  rcases List.mem_append.1 hy with hy | hy
  · exact h y hy
  · exact h' y hy

/-- A list's place, from its value. -/
def lisOf : Value → Lis
  | .slice a n c => (a, n, c)
  | _ => (none, 0, 0)

theorem trL_mem {q : Kd} {a : Option Addr} {n : Nat} {y : Addr × Kd} (h : y ∈ trL q a n) : ∃ ad j, a = some ad ∧ j < n ∧ y = (ad.add j, q) := by
  cases a with
  | none => simp [trL] at h
  | some ad =>
    simp only [trL, List.mem_map, List.mem_range] at h
    obtain ⟨j, hj, rfl⟩ := h
    exact ⟨ad, j, rfl, hj, rfl⟩

theorem ow_lis {q : IntKind} {t : TypeId} {B : Nat} {w : World} {v : Value} {zs : List Int} (kd : Kd) (hk : ∀ x z, w.cell? x = some (.int q z) → KdAt w x kd) (h : Ow q t B w v zs) (hn : zs.length ≤ 1048576) :
    (lisOf v).ok ∧ (lisOf v).v = v ∧ (lisOf v).2.1 = zs.length ∧ TrIn w B (trL kd (lisOf v).1 (lisOf v).2.1) := by
  rcases h.2 with ⟨hv, h0⟩ | ⟨g, cap, cur, hv, hb, hg, hnc, hcm, hcs, ht⟩
  · subst hv
    refine ⟨⟨.inl rfl, by simp [lisOf]⟩, rfl, by simp [lisOf, h0], fun y hy => by simp [lisOf, trL] at hy⟩
  · subst hv
    refine ⟨⟨.inr ⟨g, 0, rfl⟩, hn⟩, rfl, rfl, fun y hy => ?_⟩
    obtain ⟨ad, j, ha, hj, rfl⟩ := trL_mem hy
    simp only [lisOf] at ha hj
    cases ha
    have hc := World.ownsRow.cellAt h j (by simpa using hj)
    have hf := World.ownsRow.frozenAt h j
    simp only [Addr.add_lit, Nat.zero_add]
    refine ⟨⟨hk _ (zs[j]) (by rw [hc]; simp [hj]), hf⟩, hb, ?_⟩
    exact (Array.getElem?_eq_some_iff.1 hg).1
theorem owB_lis {B : Nat} {w : World} {v : Value} {zs : List Int} (h : OwB B w v zs) (hn : zs.length ≤ 1048576) :
    (lisOf v).ok ∧ (lisOf v).v = v ∧ (lisOf v).2.1 = zs.length ∧ TrIn w B (trL .b (lisOf v).1 (lisOf v).2.1) := ow_lis .b (fun _ z h => ⟨z, h⟩) h hn
theorem owI_lis {B : Nat} {w : World} {v : Value} {zs : List Int} (h : OwI B w v zs) (hn : zs.length ≤ 1048576) :
    (lisOf v).ok ∧ (lisOf v).v = v ∧ (lisOf v).2.1 = zs.length ∧ TrIn w B (trL .i (lisOf v).1 (lisOf v).2.1) := ow_lis .i (fun _ z h => ⟨z, h⟩) h hn

theorem trC_mem (b : Nat) : ∀ (xs : List Lis) (off : Nat) (y : Addr × Kd), y ∈ trC b off xs → ∃ (j : Nat) (x : Lis), xs[j]? = some x ∧ (y = (⟨b, off + j * 2, none⟩, .o) ∨ y ∈ trL .b x.1 x.2.1)
  | [], _, y, h => by simp [trC] at h
  | x :: xs, off, y, h => by
    simp only [trC, List.mem_cons, List.mem_append] at h
    rcases h with h | h | h
    · exact ⟨0, x, rfl, .inl (by simpa using h)⟩
    · exact ⟨0, x, rfl, .inr h⟩
    · obtain ⟨j, x', h1, h2⟩ := trC_mem b xs (off + 2) y h
      refine ⟨j + 1, x', by simpa using h1, ?_⟩
      rw [show off + (j + 1) * 2 = off + 2 + j * 2 by omega]
      exact h2
theorem trNs_mem (b : Nat) : ∀ (ns : List Nsh) (off : Nat) (y : Addr × Kd), y ∈ trNs b off ns → ∃ (j : Nat) (n : Nsh), ns[j]? = some n ∧ y ∈ trN b (off + j * 8) n
  | [], _, y, h => by simp [trNs] at h
  | x :: xs, off, y, h => by
    simp only [trNs, List.mem_append] at h
    rcases h with h | h
    · exact ⟨0, x, rfl, by simpa using h⟩
    · obtain ⟨j, x', h1, h2⟩ := trNs_mem b xs (off + 8) y h
      refine ⟨j + 1, x', by simpa using h1, ?_⟩
      rw [show off + (j + 1) * 8 = off + 8 + j * 8 by omega]
      exact h2

theorem trL_le (q : Kd) (a : Option Addr) (n : Nat) : (trL q a n).length ≤ n := by cases a <;> simp [trL]
theorem trC_leS (b : Nat) : ∀ (xs : List Lis) (off : Nat), (∀ x ∈ xs, x.2.1 ≤ 1048576) → (trC b off xs).length ≤ xs.length * 1048577
  | [], _, _ => by simp [trC]
  | x :: xs, off, h => by
    have h1 := h x (by simp)
    have h2 := trL_le .b x.1 x.2.1
    have ih := trC_leS b xs (off + 2) (fun y hy => h y (by simp [hy]))
    simp only [trC, List.length_cons, List.length_append]
    omega
theorem trK_le {w : World} {x : Lcs} (h : Lcs.ok w x) : (trK x).length ≤ 1099512676352 := by
  obtain ⟨a, xs, c⟩ := x
  obtain ⟨h1, h2⟩ := h
  simp only at h1 h2
  rcases h1 with rfl | ⟨b, off, rfl, hs⟩
  · rw [trK_nil]; simp
  · have := trC_leS b xs off (fun x hx => by
      obtain ⟨j, hj, rfl⟩ := List.getElem_of_mem hx
      exact (hs j _ (by simp [hj])).2.2)
    simp only [trK]
    omega
theorem trN_le {w : World} {b o : Nat} {n : Nsh} (h : ShN w b o n) : (trN b o n).length ≤ 2199028498435 := by
  have h1 := trK_le h.okl
  have h2 := trK_le h.okt
  have h3 := Nat.le_trans (trL_le .i n.key.1 n.key.2.1) h.okk.2
  have h4 := Nat.le_trans (trL_le .b n.text.1 n.text.2.1) h.okx.2
  have h5 := Nat.le_trans (trL_le .i n.units.1 n.units.2.1) h.oku.2
  simp only [trN, List.length_append, List.length_singleton]
  omega
theorem trNs_le {w : World} (b : Nat) : ∀ (ns : List Nsh) (off : Nat), (∀ (j : Nat) (n : Nsh), ns[j]? = some n → ShN w b (off + j * 8) n) → (trNs b off ns).length ≤ ns.length * 2199028498435
  | [], _, _ => by simp [trNs]
  | n :: ns, off, h => by
    have h1 := trN_le (h 0 n rfl)
    rw [show off + 0 * 8 = off by omega] at h1
    have ih := trNs_le (w := w) b ns (off + 8) (fun j m hj => by have := h (j + 1) m (by simpa using hj); rwa [show off + (j + 1) * 8 = off + 8 + j * 8 by omega] at this)
    simp only [trNs, List.length_cons, List.length_append]
    omega
theorem trM_le {w : World} {x : Lns} (h : Lns.ok w x) : (trM x).length ≤ 2305848506774978560 := by
  obtain ⟨a, ns, c⟩ := x
  obtain ⟨h1, h2⟩ := h
  simp only at h1 h2
  rcases h1 with rfl | ⟨b, off, rfl, hs⟩
  · rw [trM_nil]; simp
  · have := trNs_le b ns off hs
    simp only [trM]
    omega

/-- The shape of a row of comments of one's own. -/
theorem owc_lcs {B : Nat} {w : World} {v : Value} {cs : List Cm} (h : OwC B w v cs) (hn : cs.length ≤ 1048576) (ht : ∀ c ∈ cs, c.t.length ≤ 1048576) : ∃ x : Lcs, x.v = v ∧ Lcs.ok w x ∧ TrIn w B (trK x) := by
  obtain ⟨g, tvs, hv, hm, ho, hT⟩ := h
  have hlt := World.ownsRow.lt ho g (by rw [hv]; rfl)
  have hl := hT.len
  rw [hv] at ho
  have each : ∀ (j : Nat) (x : Lis), (tvs.map lisOf)[j]? = some x → ∃ c tv, cs[j]? = some c ∧ tvs[j]? = some tv ∧ x = lisOf tv ∧ OwB B w tv c.t ∧ c.t.length ≤ 1048576 ∧ w.cell? ⟨g, j * 2, none⟩ = some (.bool c.b) ∧ w.cell? ⟨g, j * 2 + 1, none⟩ = some tv := by
    intro j x hj
    simp only [List.getElem?_map, Option.map_eq_some_iff] at hj
    obtain ⟨tv, htv, rfl⟩ := hj
    have hjl : j < cs.length := by have := (List.getElem?_eq_some_iff.1 htv).1; omega
    have hc : cs[j]? = some cs[j] := by simp [hjl]
    obtain ⟨tv', h1, h2, h3⟩ := cells2_at cs tvs j cs[j] hl hc
    rw [htv] at h1
    cases h1
    refine ⟨cs[j], tv, hc, htv, rfl, (hT.own j _ _ hc htv).1, ht _ (List.getElem_mem hjl), ?_, ?_⟩
    · rw [World.ownsRow.cellAt ho (j * 2) (by omega)]; exact h2
    · rw [World.ownsRow.cellAt ho (j * 2 + 1) (by omega)]; exact h3
  refine ⟨(some ⟨g, 0, none⟩, tvs.map lisOf, cs.length), by simp [Lcs.v, hv, hl], ⟨.inr ⟨g, 0, rfl, fun j x hj => ?_⟩, by simp [hl]; omega⟩, fun y hy => ?_⟩
  · obtain ⟨c, tv, h1, h2, rfl, h4, h5, h6, h7⟩ := each j x hj
    obtain ⟨k1, k2, k3, k4⟩ := owB_lis h4 h5
    refine ⟨?_, k1⟩
    rw [Nat.zero_add, h7, ← k2]; rfl
  · obtain ⟨j, x, hj, hy⟩ := trC_mem g _ _ _ hy
    obtain ⟨c, tv, h1, h2, rfl, h4, h5, h6, h7⟩ := each j x hj
    rcases hy with rfl | hy
    · simp only [Nat.zero_add]
      exact ⟨⟨⟨_, h6⟩, World.ownsRow.frozenAt ho (j * 2)⟩, hlt.1, hlt.2⟩
    · exact (owB_lis h4 h5).2.2.2 y hy

/-- The shape of a row of nodes of one's own. -/
theorem own_lns {B : Nat} {w : World} {v : Value} {ns : List Nod} (h : OwN B w v ns) (hn : ns.length ≤ 1048576) (ht : ∀ p ∈ ns, NOk p) : ∃ x : Lns, x.v = v ∧ Lns.ok w x ∧ TrIn w B (trM x) := by
  obtain ⟨g, xs, hv, hm, ho, hT⟩ := h
  have hlt := World.ownsRow.lt ho g (by rw [hv]; rfl)
  have hxl := ho.1
  rw [hv] at ho
  have each : ∀ j, j < ns.length → ∃ n : Nsh, ShN w g (j * 8) n ∧ TrIn w B (trN g (j * 8) n) := by
    intro j hj
    obtain ⟨lv, kv, xv, uv, tv, ⟨e0, e1, e2, e3, e4, e5, e6, e7⟩, o1, o2, o3, o4, o5⟩ := hT j ns[j] (by simp [hj])
    have hp := ht _ (List.getElem_mem hj)
    obtain ⟨xl, l1, l2, l3⟩ := owc_lcs o1 hp.lead hp.leads
    obtain ⟨xt, t1, t2, t3⟩ := owc_lcs o5 hp.tail hp.tails
    obtain ⟨a1, a2, a3, a4⟩ := owI_lis o2 hp.key
    obtain ⟨b1, b2, b3, b4⟩ := owB_lis o3 hp.text
    obtain ⟨c1, c2, c3, c4⟩ := owI_lis o4 hp.units
    have cc : ∀ i u, i < 8 → xs[j * 8 + i]? = some u → w.cell? ⟨g, j * 8 + i, none⟩ = some u := fun i u hi hu => by
      rw [World.ownsRow.cellAt ho (j * 8 + i) (by omega)]; exact hu
    have fz : ∀ i, w.frozen? ⟨g, i, none⟩ = false := fun i => World.ownsRow.frozenAt ho i
    refine ⟨⟨xl, lisOf kv, lisOf xv, lisOf uv, xt⟩, ⟨?_, ?_, ?_, ?_, ?_, l2, a1, b1, c1, t2⟩, ?_⟩
    · rw [l1]; exact cc 1 _ (by omega) e1
    · rw [a2]; exact cc 3 _ (by omega) e3
    · rw [b2]; exact cc 4 _ (by omega) e4
    · rw [c2]; exact cc 5 _ (by omega) e5
    · rw [t1]; exact cc 7 _ (by omega) e7
    · have hB : B ≤ g + 1 := by omega
      have s0 : TrIn w B [(⟨g, j * 8, none⟩, .i)] := fun y hy => by
        simp at hy; subst hy; exact ⟨⟨⟨_, cc 0 _ (by omega) e0⟩, fz _⟩, hlt.1, hlt.2⟩
      have s2 : TrIn w B [(⟨g, j * 8 + 2, none⟩, .o)] := fun y hy => by
        simp at hy; subst hy; exact ⟨⟨⟨_, cc 2 _ (by omega) e2⟩, fz _⟩, hlt.1, hlt.2⟩
      have s6 : TrIn w B [(⟨g, j * 8 + 6, none⟩, .i)] := fun y hy => by
        simp at hy; subst hy; exact ⟨⟨⟨_, cc 6 _ (by omega) e6⟩, fz _⟩, hlt.1, hlt.2⟩
      exact s0.app ((l3.base hB).app (s2.app ((a4.base hB).app ((b4.base hB).app ((c4.base hB).app (s6.app (t3.base hB)))))))
  haveI : Inhabited Nsh := ⟨⟨(none, [], 0), (none, 0, 0), (none, 0, 0), (none, 0, 0), (none, [], 0)⟩⟩
  obtain ⟨q, hq⟩ := Deep.choose_lt each
  have at' : ∀ (j : Nat) (n : Nsh), ((List.range ns.length).map q)[j]? = some n → j < ns.length ∧ n = q j := fun j n hj => by
    have hjl : j < ns.length := by have := (List.getElem?_eq_some_iff.1 hj).1; simpa using this
    refine ⟨hjl, ?_⟩
    simp [hjl] at hj
    exact hj.symm
  refine ⟨(some ⟨g, 0, none⟩, (List.range ns.length).map q, ns.length), by simp [Lns.v, hv], ⟨.inr ⟨g, 0, rfl, fun j n hj => ?_⟩, by simp; omega⟩, fun y hy => ?_⟩
  · obtain ⟨hjl, rfl⟩ := at' j n hj
    rw [Nat.zero_add]
    exact (hq j hjl).1
  · obtain ⟨j, n, hj, hy⟩ := trNs_mem g _ _ _ hy
    obtain ⟨hjl, rfl⟩ := at' j n hj
    rw [Nat.zero_add] at hy
    exact (hq j hjl).2 y hy
end Go.Proofs.YtalkhnhhaiigiaaGreatDoor

namespace Go.Proofs.YtalkhnhhaiigiaaGreatDoor
open Go.RowKit

/-- All blocks from B on are as they were. -/
structure Far (B : Nat) (w w' : World) : Prop where
  size : w.heap.size ≤ w'.heap.size
  block : ∀ k, B ≤ k → k < w.heap.size → w'.heap[k]? = w.heap[k]?
theorem far_grown {B : Nat} {w w' : World} (h : w.grownBy w' none) : Far B w w' := ⟨h.size, fun k _ hk => h.block k hk (by simp)⟩
theorem row_far {B : Nat} {w w' : World} {e : TypeId} {size n : Nat} {v : Value} {xs : List Value} (h : w.ownsRow B e size v n xs) (f : Far B w w') : w'.ownsRow B e size v n xs := by
  refine ⟨h.1, ?_⟩
  rcases h.2 with h1 | ⟨g, cap, cur, hv, hb, hg, rest⟩
  · exact .inl h1
  · exact .inr ⟨g, cap, cur, hv, hb, by rw [f.block g hb (Array.getElem?_eq_some_iff.1 hg).1]; exact hg, rest⟩


theorem Rd.low {q : IntKind} {B : Nat} {w w' : World} {v : Value} {zs : List Int} (h : Rd q B w v zs) (hb : ∀ k, k < B → w'.heap[k]? = w.heap[k]?) : Rd q B w' v zs := by
  obtain ⟨a, cap, hv, hr⟩ := h
  refine ⟨a, cap, hv, fun h0 => ?_⟩
  obtain ⟨b, off, ha, hlt, hc⟩ := hr h0
  exact ⟨b, off, ha, hlt, fun j hj => (World.cell?_of_block (hb b hlt)).trans (hc j hj)⟩
theorem RdC.low {B : Nat} {w w' : World} {v : Value} {cs : List Cm} (h : RdC B w v cs) (hb : ∀ k, k < B → w'.heap[k]? = w.heap[k]?) : RdC B w' v cs := by
  obtain ⟨a, cap, hv, h1, h2, hh⟩ := h
  refine ⟨a, cap, hv, h1, h2, fun h0 => ?_⟩
  obtain ⟨b, off, ha, hlt, hc⟩ := hh h0
  refine ⟨b, off, ha, hlt, fun j p hp => ?_⟩
  obtain ⟨tv, ht⟩ := hc j p hp
  have f : ∀ {o u}, w.cell? ⟨b, o, none⟩ = some u → w'.cell? ⟨b, o, none⟩ = some u := fun h => (World.cell?_of_block (hb b hlt)).trans h
  exact ⟨tv, f ht.k, f ht.t, ht.rd.low hb, ht.sl⟩
theorem RdN.low {B : Nat} {w w' : World} {v : Value} {ns : List Nod} (h : RdN B w v ns) (hb : ∀ k, k < B → w'.heap[k]? = w.heap[k]?) : RdN B w' v ns := by
  obtain ⟨a, cap, hv, h1, h2, hh⟩ := h
  refine ⟨a, cap, hv, h1, h2, fun h0 => ?_⟩
  obtain ⟨b, off, ha, hlt, hc⟩ := hh h0
  refine ⟨b, off, ha, hlt, fun j p hp => ?_⟩
  obtain ⟨lv, kv, xv, uv, tv, t⟩ := hc j p hp
  have f : ∀ {o u}, w.cell? ⟨b, o, none⟩ = some u → w'.cell? ⟨b, o, none⟩ = some u := fun h => (World.cell?_of_block (hb b hlt)).trans h
  exact ⟨lv, kv, xv, uv, tv, f t.k, f t.lead, f t.mem, f t.key, f t.text, f t.units, f t.cnt, f t.tail, t.rl.low hb, t.rk.low hb, t.sk, t.rx.low hb, t.sx, t.ru.low hb, t.su, t.rt.low hb⟩

theorem Lns.ok.mrk {w : World} {x : Lns} {l : List (Addr × Kd)} (h : Lns.ok w x) (hl : TrOk w l) (s : Int) : Lns.ok (mrk w s l) x := by
  obtain ⟨h1, h2⟩ := h
  refine ⟨?_, h2⟩
  rcases h1 with h | ⟨b, off, h, h'⟩
  · exact .inl h
  · exact .inr ⟨b, off, h, fun j n hj => (h' j n hj).mrk hl s⟩

/-- Only blocks from B on and below H have turned. -/
structure Mkd (B H : Nat) (w w' : World) : Prop where
  os : w'.os = w.os
  tape : w'.tape = w.tape
  output : w'.output = w.output
  size : w.heap.size ≤ w'.heap.size
  block : ∀ k, k < B ∨ H ≤ k → k < w.heap.size → w'.heap[k]? = w.heap[k]?
theorem Mkd.below {B H : Nat} {w w' : World} (h : Mkd B H w w') (hB : B ≤ w.heap.size) : Below B w w' := ⟨h.os, h.tape, h.output, h.size, fun k hk => h.block k (.inl hk) (by omega)⟩
theorem Mkd.far {B H : Nat} {w w' : World} (h : Mkd B H w w') : Far H w w' := ⟨h.size, fun k h1 h2 => h.block k (.inr h1) h2⟩
theorem Far.mono {B B' : Nat} {w w' : World} (h : Far B w w') (hB : B ≤ B') : Far B' w w' := ⟨h.size, fun k h1 h2 => h.block k (by omega) h2⟩
theorem Far.cell {B : Nat} {w w' : World} (h : Far B w w') {b o : Nat} {u : Value} (hB : B ≤ b) (hc : w.cell? ⟨b, o, none⟩ = some u) : w'.cell? ⟨b, o, none⟩ = some u :=
  (World.cell?_of_block (h.block b hB (World.block_lt_of_cell? w _ hc))).trans hc
theorem mrk_mkd {w : World} {s : Int} {l : List (Addr × Kd)} {B H : Nat} (o : Obj) (hl : ∀ y ∈ l, B ≤ y.1.block ∧ y.1.block < H) : Mkd B H w (mrk (w.alloc o) s l) := by
  obtain ⟨h1, h2, h3⟩ := mrk_same l (w.alloc o) s
  refine ⟨h1, h2, h3, by rw [mrk_size]; simp, fun k hk hlt => ?_⟩
  rw [mrk_grown l (w.alloc o) s B H hl k hk]
  exact Below.heap_alloc w o k hlt

/-- A mark of any tree. -/
theorem markTree_any (x : Lns) (y : Lcs) (B H : Nat) (nv tv : Value) (w : World) (hxv : x.v = nv) (hyv : y.v = tv) (hx : Lns.ok w x) (hy : Lcs.ok w y) (h : TrOk w (trM x ++ trK y)) (hl : ∀ z ∈ trM x ++ trK y, B ≤ z.1.block ∧ z.1.block < H) :
    Calls Tryz.prog 10 #[.agg #[nv, tv], .int .i64 1] w fun e w' => ∃ n : Nat, e = .returned (.int .i64 (1 + n)) ∧ n ≤ 3000000000000000000 ∧ Mkd B H w w' ∧ Hid ((∀ x', Lns.ok w x' → Lns.ok w' x') ∧ ∀ l', TrOk w l' → TrOk w' l') := by
  have b1 := trM_le hx
  have b2 := trK_le hy
  subst hxv hyv
  refine (markTree_tr x y 1 w hx hy h (by omega) (by omega)).mono ?_
  rintro e w' ⟨rfl, rfl⟩
  have gA := World.grownBy_alloc w (Obj.cells #[x.v, y.v] 33) none
  refine ⟨(trM x).length + (trK y).length, by push_cast; rw [Int.add_assoc], by omega, mrk_mkd _ hl, fun x' hx' => (hx'.grown gA).mrk (h.grown gA) 1, fun l' hl' => (hl'.grown gA).mrk (h.grown gA) 1⟩

end Go.Proofs.YtalkhnhhaiigiaaGreatDoor

