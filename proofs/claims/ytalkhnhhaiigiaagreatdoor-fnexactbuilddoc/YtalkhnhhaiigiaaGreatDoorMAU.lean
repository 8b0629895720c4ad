import Derived.Test.YtalkhnhhaiigiaaGreatDoorMAO
import Derived.Test.YtalkhnhhaiigiaaGreatDoorMAT
namespace Go.Proofs.YtalkhnhhaiigiaaGreatDoor
open Go.RowKit

/-- Lists that are not too long. -/
structure NOk (p : Nod) : Prop where
  lead : p.lead.length ≤ 1048576
  leads : ∀ c ∈ p.lead, c.t.length ≤ 1048576
  key : p.key.length ≤ 1048576
  text : p.text.length ≤ 1048576
  units : p.units.length ≤ 1048576
  tail : p.tail.length ≤ 1048576
  tails : ∀ c ∈ p.tail, c.t.length ≤ 1048576

/-- A node's lists read. -/
structure NRd (B : Nat) (w : World) (p : Nod) (lv kv xv uv tv : Value) : Prop where
  rl : RdC B w lv p.lead
  rk : RdI B w kv p.key
  rx : RdB B w xv p.text
  ru : RdI B w uv p.units
  rt : RdC B w tv p.tail
theorem NRd.keep {B : Nat} {w w' : World} {p : Nod} {lv kv xv uv tv : Value} (h : NRd B w p lv kv xv uv tv) (hg : w.grownBy w' none) : NRd B w' p lv kv xv uv tv :=
  ⟨h.rl.keep hg, h.rk.keep hg, h.rx.keep hg, h.ru.keep hg, h.rt.keep hg⟩
theorem NRd.wide {B B' : Nat} {w : World} {p : Nod} {lv kv xv uv tv : Value} (h : NRd B w p lv kv xv uv tv) (hB : B ≤ B') : NRd B' w p lv kv xv uv tv :=
  ⟨h.rl.wide hB, h.rk.wideC hB, h.rx.wideC hB, h.ru.wideC hB, h.rt.wide hB⟩
theorem NodAt.rd {B : Nat} {w : World} {b o : Nat} {p : Nod} {lv kv xv uv tv : Value} (h : NodAt B w b o p lv kv xv uv tv) : NRd B w p lv kv xv uv tv := ⟨h.rl, h.rk, h.rx, h.ru, h.rt⟩

/-- The cells of two nodes that were laid for a call. -/
theorem node_cells2 {w w1 : World} {a b c d e f g h a' b' c' d' e' f' g' h' : Value} {t t' : TypeId} (hg : ((w.alloc (.cells #[a, b, c, d, e, f, g, h] t)).alloc (.cells #[a', b', c', d', e', f', g', h'] t')).grownBy w1 none) :
    (w1.cell? ⟨w.heap.size, 0, none⟩ = some a ∧ w1.cell? ⟨w.heap.size, 1, none⟩ = some b ∧ w1.cell? ⟨w.heap.size, 2, none⟩ = some c ∧ w1.cell? ⟨w.heap.size, 3, none⟩ = some d ∧
    w1.cell? ⟨w.heap.size, 4, none⟩ = some e ∧ w1.cell? ⟨w.heap.size, 5, none⟩ = some f ∧ w1.cell? ⟨w.heap.size, 6, none⟩ = some g ∧ w1.cell? ⟨w.heap.size, 7, none⟩ = some h) ∧
    (w1.cell? ⟨w.heap.size + 1, 0, none⟩ = some a' ∧ w1.cell? ⟨w.heap.size + 1, 1, none⟩ = some b' ∧ w1.cell? ⟨w.heap.size + 1, 2, none⟩ = some c' ∧ w1.cell? ⟨w.heap.size + 1, 3, none⟩ = some d' ∧
    w1.cell? ⟨w.heap.size + 1, 4, none⟩ = some e' ∧ w1.cell? ⟨w.heap.size + 1, 5, none⟩ = some f' ∧ w1.cell? ⟨w.heap.size + 1, 6, none⟩ = some g' ∧ w1.cell? ⟨w.heap.size + 1, 7, none⟩ = some h') :=
  ⟨⟨hg.cell (by simp [go_sem]) (by simp), hg.cell (by simp [go_sem]) (by simp), hg.cell (by simp [go_sem]) (by simp), hg.cell (by simp [go_sem]) (by simp),
    hg.cell (by simp [go_sem]) (by simp), hg.cell (by simp [go_sem]) (by simp), hg.cell (by simp [go_sem]) (by simp), hg.cell (by simp [go_sem]) (by simp)⟩,
   ⟨hg.cell (by simp [go_sem]) (by simp), hg.cell (by simp [go_sem]) (by simp), hg.cell (by simp [go_sem]) (by simp), hg.cell (by simp [go_sem]) (by simp),
    hg.cell (by simp [go_sem]) (by simp), hg.cell (by simp [go_sem]) (by simp), hg.cell (by simp [go_sem]) (by simp), hg.cell (by simp [go_sem]) (by simp)⟩⟩

set_option maxHeartbeats 2000000 in
set_option maxRecDepth 100000 in
theorem eqNode_same (p : Nod) (lv kv xv uv tv lv' kv' xv' uv' tv' : Value) (w : World) (h : NRd w.heap.size w p lv kv xv uv tv) (h' : NRd w.heap.size w p lv' kv' xv' uv' tv') (hok : NOk p) :
    Calls Tryz.prog 55 #[.agg #[.int .i64 p.k, lv, .bool p.mem, kv, xv, uv, .int .i64 p.cnt, tv], .agg #[.int .i64 p.k, lv', .bool p.mem, kv', xv', uv', .int .i64 p.cnt, tv']] w fun e w' => e = .returned (.bool true) ∧ w.grownBy w' none := by
  have hnot : ∀ (x : Bool) (w : World), (Op.unary .not (.bool x)).run Tryz.prog w = .ok (.bool (!x)) w := fun _ _ => rfl
  have hkk : (p.k != p.k) = false := by simp
  have hmm : (p.mem != p.mem) = false := by simp
  have hcc : (p.cnt != p.cnt) = false := by simp
  have gA : w.grownBy ((w.alloc (.cells #[.int .i64 p.k, lv, .bool p.mem, kv, xv, uv, .int .i64 p.cnt, tv] 75)).alloc (.cells #[.int .i64 p.k, lv', .bool p.mem, kv', xv', uv', .int .i64 p.cnt, tv'] 75)) none := grown_trans (World.grownBy_alloc _ _ _) (World.grownBy_alloc _ _ _)
  obtain ⟨la, lcap, hlv, _, _⟩ := h.rl.sl
  obtain ⟨ta, tcap, htv, _, _⟩ := h.rt.sl
  obtain ⟨ka, kcap, hkv, _⟩ := id h.rk
  obtain ⟨xa, xcap, hxv, _⟩ := id h.rx
  obtain ⟨ua, ucap, huv, _⟩ := id h.ru
  obtain ⟨la', lcap', hlv', _, _⟩ := h'.rl.sl
  obtain ⟨ta', tcap', htv', _, _⟩ := h'.rt.sl
  obtain ⟨ka', kcap', hkv', _⟩ := id h'.rk
  obtain ⟨xa', xcap', hxv', _⟩ := id h'.rx
  obtain ⟨ua', ucap', huv', _⟩ := id h'.ru
  have H := hide (fun W (hW : w.grownBy W none) => (h.keep hW).wide hW.size)
  have H' := hide (fun W (hW : w.grownBy W none) => (h'.keep hW).wide hW.size)
  have HG := hide gA
  have HO := hide hok
  subst hlv htv hkv hxv huv hlv' htv' hkv' hxv' huv'
  clear h h' gA hok
  generalize p.k = kk at *
  generalize p.cnt = cn at *
  generalize p.mem = mm at *
  go_enter Tryz.func55, Tryz.ntmps55
  go_wp2_with fail
  refine (eqCommentS_same _ _ p.lead _ (H.out _ HG.out).rl (H'.out _ HG.out).rl HO.out.lead HO.out.leads).mono ?_
  rintro e w1 ⟨rfl, g1⟩
  obtain ⟨⟨z0, z1, z2, z3, z4, z5, z6, z7⟩, ⟨y0, y1, y2, y3, y4, y5, y6, y7⟩⟩ := node_cells2 g1
  have G1 := hide g1
  clear g1
  go_wp2_with fail
  refine (eqIntS_same _ _ p.key _ (H.out _ (grown_trans HG.out G1.out)).rk (H'.out _ (grown_trans HG.out G1.out)).rk (by have := HO.out.key; omega)).mono ?_
  rintro e w2 ⟨rfl, g2⟩
  have G2 := hide (grown_trans G1.out g2)
  clear z0 z1 z2 z3 z4 z5 z6 z7 y0 y1 y2 y3 y4 y5 y6 y7 G1 g2
  obtain ⟨⟨z0, z1, z2, z3, z4, z5, z6, z7⟩, ⟨y0, y1, y2, y3, y4, y5, y6, y7⟩⟩ := node_cells2 G2.out
  go_wp2_with fail
  refine (eqByteS_same _ _ p.text _ (H.out _ (grown_trans HG.out G2.out)).rx (H'.out _ (grown_trans HG.out G2.out)).rx (by have := HO.out.text; omega)).mono ?_
  rintro e w3 ⟨rfl, g3⟩
  have G3 := hide (grown_trans G2.out g3)
  clear z0 z1 z2 z3 z4 z5 z6 z7 y0 y1 y2 y3 y4 y5 y6 y7 G2 g3
  obtain ⟨⟨z0, z1, z2, z3, z4, z5, z6, z7⟩, ⟨y0, y1, y2, y3, y4, y5, y6, y7⟩⟩ := node_cells2 G3.out
  go_wp2_with fail
  refine (eqIntS_same _ _ p.units _ (H.out _ (grown_trans HG.out G3.out)).ru (H'.out _ (grown_trans HG.out G3.out)).ru (by have := HO.out.units; omega)).mono ?_
  rintro e w4 ⟨rfl, g4⟩
  have G4 := hide (grown_trans G3.out g4)
  clear z0 z1 z2 z3 z4 z5 z6 z7 y0 y1 y2 y3 y4 y5 y6 y7 G3 g4
  obtain ⟨⟨z0, z1, z2, z3, z4, z5, z6, z7⟩, ⟨y0, y1, y2, y3, y4, y5, y6, y7⟩⟩ := node_cells2 G4.out
  go_wp2_with fail
  refine (eqCommentS_same _ _ p.tail _ (H.out _ (grown_trans HG.out G4.out)).rt (H'.out _ (grown_trans HG.out G4.out)).rt HO.out.tail HO.out.tails).mono ?_
  rintro e w5 ⟨rfl, g5⟩
  have G5 := hide (grown_trans HG.out (grown_trans G4.out g5))
  clear z0 z1 z2 z3 z4 z5 z6 z7 y0 y1 y2 y3 y4 y5 y6 y7 G4 g5
  go_wp2
  go_ret
  exact ⟨rfl, G5.out⟩

end Go.Proofs.YtalkhnhhaiigiaaGreatDoor

namespace Go.Proofs.YtalkhnhhaiigiaaGreatDoor
open Go.RowKit

theorem OwC.set {B : Nat} {w : World} {v : Value} {cs : List Cm} (h : OwC B w v cs) (b j : Nat) (x : Value) (hb : b < B) : OwC B (w.setCell ⟨b, j, none⟩ x) v cs := by
  obtain ⟨g, tvs, hv, hm, ho, ht⟩ := h
  refine ⟨g, tvs, hv, hm, row_setC ho _ _ (fun e => by have := World.ownsRow.lt ho _ e; simp only at this; omega), ht.len, fun i p tv h1 h2 => ?_, ht.apart⟩
  have := ht.own i p tv h1 h2
  exact ⟨this.1.setC _ _ (by simpa using hb), this.2⟩
theorem OwC.base {B B' : Nat} {w : World} {v : Value} {cs : List Cm} (h : OwC B w v cs) (hB : B' ≤ B) : OwC B' w v cs := by
  obtain ⟨g, tvs, hv, hm, ho, ht⟩ := h
  exact ⟨g, tvs, hv, hm, row_base hB ho, ht.len, fun i p tv h1 h2 => ⟨row_base hB (ht.own i p tv h1 h2).1, (ht.own i p tv h1 h2).2⟩, ht.apart⟩

/-- Eight cells of a block. -/
structure C8 (w : World) (b : Nat) (a0 a1 a2 a3 a4 a5 a6 a7 : Value) : Prop where
  c0 : w.cell? ⟨b, 0, none⟩ = some a0
  c1 : w.cell? ⟨b, 1, none⟩ = some a1
  c2 : w.cell? ⟨b, 2, none⟩ = some a2
  c3 : w.cell? ⟨b, 3, none⟩ = some a3
  c4 : w.cell? ⟨b, 4, none⟩ = some a4
  c5 : w.cell? ⟨b, 5, none⟩ = some a5
  c6 : w.cell? ⟨b, 6, none⟩ = some a6
  c7 : w.cell? ⟨b, 7, none⟩ = some a7
  fz : ∀ j, w.frozen? ⟨b, j, none⟩ = false
theorem C8.keep {w w' : World} {b : Nat} {a0 a1 a2 a3 a4 a5 a6 a7 : Value} (h : C8 w b a0 a1 a2 a3 a4 a5 a6 a7) (hg : w.grownBy w' none) : C8 w' b a0 a1 a2 a3 a4 a5 a6 a7 :=
  ⟨hg.cell h.c0 (by simp), hg.cell h.c1 (by simp), hg.cell h.c2 (by simp), hg.cell h.c3 (by simp), hg.cell h.c4 (by simp), hg.cell h.c5 (by simp), hg.cell h.c6 (by simp), hg.cell h.c7 (by simp),
    fun j => (World.frozen?_of_block (hg.block b (World.block_lt_of_cell? w _ h.c0) (by simp))).trans (h.fz j)⟩

theorem C8.p1 {w : World} {b : Nat} {a0 a1 a2 a3 a4 a5 a6 a7 : Value} (h : C8 w b a0 a1 a2 a3 a4 a5 a6 a7) (x : Value) : C8 (w.setCell ⟨b, 1, none⟩ x) b a0 x a2 a3 a4 a5 a6 a7 := by
  obtain ⟨c0, c1, c2, c3, c4, c5, c6, c7, fz⟩ := h
  exact ⟨by simp [go_sem, c0], by simp [go_sem, c1], by simp [go_sem, c2], by simp [go_sem, c3], by simp [go_sem, c4], by simp [go_sem, c5], by simp [go_sem, c6], by simp [go_sem, c7], fun j => by simpa using fz j⟩
theorem C8.p2 {w : World} {b : Nat} {a0 a1 a2 a3 a4 a5 a6 a7 : Value} (h : C8 w b a0 a1 a2 a3 a4 a5 a6 a7) (x : Value) : C8 (w.setCell ⟨b, 2, none⟩ x) b a0 a1 x a3 a4 a5 a6 a7 := by
  obtain ⟨c0, c1, c2, c3, c4, c5, c6, c7, fz⟩ := h
  exact ⟨by simp [go_sem, c0], by simp [go_sem, c1], by simp [go_sem, c2], by simp [go_sem, c3], by simp [go_sem, c4], by simp [go_sem, c5], by simp [go_sem, c6], by simp [go_sem, c7], fun j => by simpa using fz j⟩
theorem C8.p3 {w : World} {b : Nat} {a0 a1 a2 a3 a4 a5 a6 a7 : Value} (h : C8 w b a0 a1 a2 a3 a4 a5 a6 a7) (x : Value) : C8 (w.setCell ⟨b, 3, none⟩ x) b a0 a1 a2 x a4 a5 a6 a7 := by
  obtain ⟨c0, c1, c2, c3, c4, c5, c6, c7, fz⟩ := h
  exact ⟨by simp [go_sem, c0], by simp [go_sem, c1], by simp [go_sem, c2], by simp [go_sem, c3], by simp [go_sem, c4], by simp [go_sem, c5], by simp [go_sem, c6], by simp [go_sem, c7], fun j => by simpa using fz j⟩
theorem C8.p4 {w : World} {b : Nat} {a0 a1 a2 a3 a4 a5 a6 a7 : Value} (h : C8 w b a0 a1 a2 a3 a4 a5 a6 a7) (x : Value) : C8 (w.setCell ⟨b, 4, none⟩ x) b a0 a1 a2 a3 x a5 a6 a7 := by
  obtain ⟨c0, c1, c2, c3, c4, c5, c6, c7, fz⟩ := h
  exact ⟨by simp [go_sem, c0], by simp [go_sem, c1], by simp [go_sem, c2], by simp [go_sem, c3], by simp [go_sem, c4], by simp [go_sem, c5], by simp [go_sem, c6], by simp [go_sem, c7], fun j => by simpa using fz j⟩
theorem C8.p5 {w : World} {b : Nat} {a0 a1 a2 a3 a4 a5 a6 a7 : Value} (h : C8 w b a0 a1 a2 a3 a4 a5 a6 a7) (x : Value) : C8 (w.setCell ⟨b, 5, none⟩ x) b a0 a1 a2 a3 a4 x a6 a7 := by
  obtain ⟨c0, c1, c2, c3, c4, c5, c6, c7, fz⟩ := h
  exact ⟨by simp [go_sem, c0], by simp [go_sem, c1], by simp [go_sem, c2], by simp [go_sem, c3], by simp [go_sem, c4], by simp [go_sem, c5], by simp [go_sem, c6], by simp [go_sem, c7], fun j => by simpa using fz j⟩
theorem C8.p6 {w : World} {b : Nat} {a0 a1 a2 a3 a4 a5 a6 a7 : Value} (h : C8 w b a0 a1 a2 a3 a4 a5 a6 a7) (x : Value) : C8 (w.setCell ⟨b, 6, none⟩ x) b a0 a1 a2 a3 a4 a5 x a7 := by
  obtain ⟨c0, c1, c2, c3, c4, c5, c6, c7, fz⟩ := h
  exact ⟨by simp [go_sem, c0], by simp [go_sem, c1], by simp [go_sem, c2], by simp [go_sem, c3], by simp [go_sem, c4], by simp [go_sem, c5], by simp [go_sem, c6], by simp [go_sem, c7], fun j => by simpa using fz j⟩
theorem C8.p7 {w : World} {b : Nat} {a0 a1 a2 a3 a4 a5 a6 a7 : Value} (h : C8 w b a0 a1 a2 a3 a4 a5 a6 a7) (x : Value) : C8 (w.setCell ⟨b, 7, none⟩ x) b a0 a1 a2 a3 a4 a5 a6 x := by
  obtain ⟨c0, c1, c2, c3, c4, c5, c6, c7, fz⟩ := h
  exact ⟨by simp [go_sem, c0], by simp [go_sem, c1], by simp [go_sem, c2], by simp [go_sem, c3], by simp [go_sem, c4], by simp [go_sem, c5], by simp [go_sem, c6], by simp [go_sem, c7], fun j => by simpa using fz j⟩
theorem C8.other {w : World} {b : Nat} {a0 a1 a2 a3 a4 a5 a6 a7 : Value} (h : C8 w b a0 a1 a2 a3 a4 a5 a6 a7) (b' j : Nat) (x : Value) (hb : b ≠ b') : C8 (w.setCell ⟨b', j, none⟩ x) b a0 a1 a2 a3 a4 a5 a6 a7 := by
  have hg : w.grownBy (w.setCell ⟨b', j, none⟩ x) (some b') := ⟨rfl, rfl, rfl, by simp, fun i _ hn => Below.heap_setCell _ _ _ _ (fun e => hn (by rw [e]))⟩
  have hn : some b ≠ some b' := fun e => hb (Option.some.inj e)
  exact ⟨hg.cell h.c0 hn, hg.cell h.c1 hn, hg.cell h.c2 hn, hg.cell h.c3 hn, hg.cell h.c4 hn, hg.cell h.c5 hn, hg.cell h.c6 hn, hg.cell h.c7 hn,
    fun i => (World.frozen?_of_block (hg.block b (World.block_lt_of_cell? w _ h.c0) hn)).trans (h.fz i)⟩

set_option maxHeartbeats 4000000 in
set_option maxRecDepth 100000 in
theorem toNode_any (p : Nod) (lv kv xv uv tv : Value) (w : World) (h : NRd w.heap.size w p lv kv xv uv tv) (hok : NOk p) :
    Calls Tryz.prog 41 #[.agg #[.int .i64 p.k, lv, .bool p.mem, kv, xv, uv, .int .i64 p.cnt, tv]] w fun e w' => ∃ lv' kv' xv' uv' tv', e = .returned (.agg #[.int .i64 p.k, lv', .bool p.mem, kv', xv', uv', .int .i64 p.cnt, tv']) ∧
      (OwC w.heap.size w' lv' p.lead ∧ OwI w.heap.size w' kv' p.key ∧ OwB w.heap.size w' xv' p.text ∧ OwI w.heap.size w' uv' p.units ∧ OwC w.heap.size w' tv' p.tail) ∧ w.grownBy w' none := by
  obtain ⟨la, lcap, hlv, _, _⟩ := h.rl.sl
  obtain ⟨ta, tcap, htv, _, _⟩ := h.rt.sl
  obtain ⟨ka, kcap, hkv, _⟩ := id h.rk
  obtain ⟨xa, xcap, hxv, _⟩ := id h.rx
  obtain ⟨ua, ucap, huv, _⟩ := id h.ru
  have H := hide (fun W (hW : Below w.heap.size w W) => (h.keep (grown_of_below hW)).wide hW.size)
  have HO := hide hok
  subst hlv htv hkv hxv huv
  clear h hok
  have B0 : Below w.heap.size w (((w.alloc (.cells #[.int .i64 p.k, .slice la p.lead.length lcap, .bool p.mem, .slice ka p.key.length kcap, .slice xa p.text.length xcap, .slice ua p.units.length ucap, .int .i64 p.cnt, .slice ta p.tail.length tcap] 68)).alloc (.cells #[.int .i64 0, .slice none 0 0, .bool false, .slice none 0 0, .slice none 0 0, .slice none 0 0, .int .i64 0, .slice none 0 0] 75)).alloc (.cells #[.int .i64 p.k, .slice none 0 0, .bool false, .slice none 0 0, .slice none 0 0, .slice none 0 0, .int .i64 0, .slice none 0 0] 75)) := (((Below.refl w.heap.size w).alloc (Nat.le_refl _) _).alloc (by simp) _).alloc (by simp; omega) _
  have A0 : C8 (((w.alloc (.cells #[.int .i64 p.k, .slice la p.lead.length lcap, .bool p.mem, .slice ka p.key.length kcap, .slice xa p.text.length xcap, .slice ua p.units.length ucap, .int .i64 p.cnt, .slice ta p.tail.length tcap] 68)).alloc (.cells #[.int .i64 0, .slice none 0 0, .bool false, .slice none 0 0, .slice none 0 0, .slice none 0 0, .int .i64 0, .slice none 0 0] 75)).alloc (.cells #[.int .i64 p.k, .slice none 0 0, .bool false, .slice none 0 0, .slice none 0 0, .slice none 0 0, .int .i64 0, .slice none 0 0] 75)) w.heap.size (.int .i64 p.k) (.slice la p.lead.length lcap) (.bool p.mem) (.slice ka p.key.length kcap) (.slice xa p.text.length xcap) (.slice ua p.units.length ucap) (.int .i64 p.cnt) (.slice ta p.tail.length tcap) :=
    ⟨by simp [go_sem], by simp [go_sem], by simp [go_sem], by simp [go_sem], by simp [go_sem], by simp [go_sem], by simp [go_sem], by simp [go_sem], fun j => by simp [go_sem]⟩
  have R0 : C8 (((w.alloc (.cells #[.int .i64 p.k, .slice la p.lead.length lcap, .bool p.mem, .slice ka p.key.length kcap, .slice xa p.text.length xcap, .slice ua p.units.length ucap, .int .i64 p.cnt, .slice ta p.tail.length tcap] 68)).alloc (.cells #[.int .i64 0, .slice none 0 0, .bool false, .slice none 0 0, .slice none 0 0, .slice none 0 0, .int .i64 0, .slice none 0 0] 75)).alloc (.cells #[.int .i64 p.k, .slice none 0 0, .bool false, .slice none 0 0, .slice none 0 0, .slice none 0 0, .int .i64 0, .slice none 0 0] 75)) (w.heap.size + 1) (.int .i64 0) (.slice none 0 0) (.bool false) (.slice none 0 0) (.slice none 0 0) (.slice none 0 0) (.int .i64 0) (.slice none 0 0) :=
    ⟨by simp [go_sem], by simp [go_sem], by simp [go_sem], by simp [go_sem], by simp [go_sem], by simp [go_sem], by simp [go_sem], by simp [go_sem], fun j => by simp [go_sem]⟩
  have X0 : C8 (((w.alloc (.cells #[.int .i64 p.k, .slice la p.lead.length lcap, .bool p.mem, .slice ka p.key.length kcap, .slice xa p.text.length xcap, .slice ua p.units.length ucap, .int .i64 p.cnt, .slice ta p.tail.length tcap] 68)).alloc (.cells #[.int .i64 0, .slice none 0 0, .bool false, .slice none 0 0, .slice none 0 0, .slice none 0 0, .int .i64 0, .slice none 0 0] 75)).alloc (.cells #[.int .i64 p.k, .slice none 0 0, .bool false, .slice none 0 0, .slice none 0 0, .slice none 0 0, .int .i64 0, .slice none 0 0] 75)) (w.heap.size + 1 + 1) (.int .i64 p.k) (.slice none 0 0) (.bool false) (.slice none 0 0) (.slice none 0 0) (.slice none 0 0) (.int .i64 0) (.slice none 0 0) :=
    ⟨by simp [go_sem], by simp [go_sem], by simp [go_sem], by simp [go_sem], by simp [go_sem], by simp [go_sem], by simp [go_sem], by simp [go_sem], fun j => by simp [go_sem]⟩
  have HL := hide (toCommentS_any _ p.lead _ (H.out _ B0).rl HO.out.lead HO.out.leads)
  have HB0 := hide B0
  have HA0 := hide A0
  have HR0 := hide R0
  have HX0 := hide X0
  have hs0 : (((w.alloc (.cells #[.int .i64 p.k, .slice la p.lead.length lcap, .bool p.mem, .slice ka p.key.length kcap, .slice xa p.text.length xcap, .slice ua p.units.length ucap, .int .i64 p.cnt, .slice ta p.tail.length tcap] 68)).alloc (.cells #[.int .i64 0, .slice none 0 0, .bool false, .slice none 0 0, .slice none 0 0, .slice none 0 0, .int .i64 0, .slice none 0 0] 75)).alloc (.cells #[.int .i64 p.k, .slice none 0 0, .bool false, .slice none 0 0, .slice none 0 0, .slice none 0 0, .int .i64 0, .slice none 0 0] 75)).heap.size = w.heap.size + 3 := by simp
  have Hs0 := hide hs0
  clear B0 A0 R0 X0 hs0
  go_enter Tryz.func41, Tryz.ntmps41
  go_wp2_with fail
  refine HL.out.mono ?_
  rintro e w1 ⟨v1, rfl, o1, g1⟩
  rw [Hs0.out] at o1
  have A1 := HA0.out.keep g1
  have R1 := HR0.out.keep g1
  have X1 := HX0.out.keep g1
  have B1 := HB0.out.grown g1 HB0.out.size (fun k e => by cases e)
  obtain ⟨ra1, rcap1, hv1, _, _⟩ := o1.rd.sl
  subst hv1
  have HA1 := hide ((A1.other (w.heap.size + 1 + 1) 1 (.slice ra1 p.lead.length rcap1) (by omega)).other (w.heap.size + 1 + 1) 2 (.bool p.mem) (by omega))
  have HR1 := hide ((R1.other (w.heap.size + 1 + 1) 1 (.slice ra1 p.lead.length rcap1) (by omega)).other (w.heap.size + 1 + 1) 2 (.bool p.mem) (by omega))
  have HX1 := hide ((X1.p1 (.slice ra1 p.lead.length rcap1)).p2 (.bool p.mem))
  have HB1 := hide ((B1.setCell (p := ⟨w.heap.size + 1 + 1, 1, none⟩) (by simp only; omega) (.slice ra1 p.lead.length rcap1)).setCell (p := ⟨w.heap.size + 1 + 1, 2, none⟩) (by simp only; omega) (.bool p.mem))
  have HO1n := hide ((o1.set (w.heap.size + 1 + 1) 1 (.slice ra1 p.lead.length rcap1) (by omega)).set (w.heap.size + 1 + 1) 2 (.bool p.mem) (by omega))
  have HO1 := hide HO1n.out
  clear HO1n
  obtain ⟨z0, z1, z2, z3, z4, z5, z6, z7, zf⟩ := A1
  obtain ⟨y0, y1, y2, y3, y4, y5, y6, y7, yf⟩ := X1
  obtain ⟨r0, r1, r2, r3, r4, r5, r6, r7, rf⟩ := R1
  clear B1 o1 g1 HA0 HR0 HX0 HB0
  have hsz1 : w.heap.size + 3 ≤ w1.heap.size := by have := World.block_lt_of_cell? w1 _ y0; simp only at this; omega
  go_wp2_with fail
  refine (toIntS_any _ p.key _ (H.out _ HB1.out).rk (by have := HO.out.key; omega)).mono ?_
  rintro e w2 ⟨v2, rfl, q2, g2⟩
  have o2 : Ow _ _ (w.heap.size + 3) w2 v2 p.key := row_base (by simpa using hsz1) q2
  clear q2 z0 z1 z2 z3 z4 z5 z6 z7 zf y0 y1 y2 y3 y4 y5 y6 y7 yf r0 r1 r2 r3 r4 r5 r6 r7 rf hsz1
  have A2 := HA1.out.keep g2
  have R2 := HR1.out.keep g2
  have X2 := HX1.out.keep g2
  have B2 := HB1.out.grown g2 HB1.out.size (fun k e => by cases e)
  obtain ⟨ra2, rcap2, hv2, _⟩ := o2.rd
  subst hv2
  have HA2 := hide (A2.other (w.heap.size + 1 + 1) 3 (.slice ra2 p.key.length rcap2) (by omega))
  have HR2 := hide (R2.other (w.heap.size + 1 + 1) 3 (.slice ra2 p.key.length rcap2) (by omega))
  have HX2 := hide (X2.p3 (.slice ra2 p.key.length rcap2))
  have HB2 := hide (B2.setCell (p := ⟨w.heap.size + 1 + 1, 3, none⟩) (by simp only; omega) (.slice ra2 p.key.length rcap2))
  have HO1n := hide ((HO1.out.later g2).set (w.heap.size + 1 + 1) 3 (.slice ra2 p.key.length rcap2) (by omega))
  have HO2n := hide (o2.setC ⟨w.heap.size + 1 + 1, 3, none⟩ (.slice ra2 p.key.length rcap2) (by simp only; omega))
  clear HO1
  have HO1 := hide HO1n.out
  clear HO1n
  have HO2 := hide HO2n.out
  clear HO2n
  obtain ⟨z0, z1, z2, z3, z4, z5, z6, z7, zf⟩ := A2
  obtain ⟨y0, y1, y2, y3, y4, y5, y6, y7, yf⟩ := X2
  obtain ⟨r0, r1, r2, r3, r4, r5, r6, r7, rf⟩ := R2
  clear B2 o2 g2 HA1 HR1 HX1 HB1
  have hsz2 : w.heap.size + 3 ≤ w2.heap.size := by have := World.block_lt_of_cell? w2 _ y0; simp only at this; omega
  go_wp2_with fail
  refine (toByteS_any _ p.text _ (H.out _ HB2.out).rx (by have := HO.out.text; omega)).mono ?_
  rintro e w3 ⟨v3, rfl, q3, g3⟩
  have o3 : Ow _ _ (w.heap.size + 3) w3 v3 p.text := row_base (by simpa using hsz2) q3
  clear q3 z0 z1 z2 z3 z4 z5 z6 z7 zf y0 y1 y2 y3 y4 y5 y6 y7 yf r0 r1 r2 r3 r4 r5 r6 r7 rf hsz2
  have A3 := HA2.out.keep g3
  have R3 := HR2.out.keep g3
  have X3 := HX2.out.keep g3
  have B3 := HB2.out.grown g3 HB2.out.size (fun k e => by cases e)
  obtain ⟨ra3, rcap3, hv3, _⟩ := o3.rd
  subst hv3
  have HA3 := hide (A3.other (w.heap.size + 1 + 1) 4 (.slice ra3 p.text.length rcap3) (by omega))
  have HR3 := hide (R3.other (w.heap.size + 1 + 1) 4 (.slice ra3 p.text.length rcap3) (by omega))
  have HX3 := hide (X3.p4 (.slice ra3 p.text.length rcap3))
  have HB3 := hide (B3.setCell (p := ⟨w.heap.size + 1 + 1, 4, none⟩) (by simp only; omega) (.slice ra3 p.text.length rcap3))
  have HO1n := hide ((HO1.out.later g3).set (w.heap.size + 1 + 1) 4 (.slice ra3 p.text.length rcap3) (by omega))
  have HO2n := hide ((Ow.later HO2.out g3).setC ⟨w.heap.size + 1 + 1, 4, none⟩ (.slice ra3 p.text.length rcap3) (by simp only; omega))
  have HO3n := hide (o3.setC ⟨w.heap.size + 1 + 1, 4, none⟩ (.slice ra3 p.text.length rcap3) (by simp only; omega))
  clear HO1
  clear HO2
  have HO1 := hide HO1n.out
  clear HO1n
  have HO2 := hide HO2n.out
  clear HO2n
  have HO3 := hide HO3n.out
  clear HO3n
  obtain ⟨z0, z1, z2, z3, z4, z5, z6, z7, zf⟩ := A3
  obtain ⟨y0, y1, y2, y3, y4, y5, y6, y7, yf⟩ := X3
  obtain ⟨r0, r1, r2, r3, r4, r5, r6, r7, rf⟩ := R3
  clear B3 o3 g3 HA2 HR2 HX2 HB2
  have hsz3 : w.heap.size + 3 ≤ w3.heap.size := by have := World.block_lt_of_cell? w3 _ y0; simp only at this; omega
  go_wp2_with fail
  refine (toIntS_any _ p.units _ (H.out _ HB3.out).ru (by have := HO.out.units; omega)).mono ?_
  rintro e w4 ⟨v4, rfl, q4, g4⟩
  have o4 : Ow _ _ (w.heap.size + 3) w4 v4 p.units := row_base (by simpa using hsz3) q4
  clear q4 z0 z1 z2 z3 z4 z5 z6 z7 zf y0 y1 y2 y3 y4 y5 y6 y7 yf r0 r1 r2 r3 r4 r5 r6 r7 rf hsz3
  have A4 := HA3.out.keep g4
  have R4 := HR3.out.keep g4
  have X4 := HX3.out.keep g4
  have B4 := HB3.out.grown g4 HB3.out.size (fun k e => by cases e)
  obtain ⟨ra4, rcap4, hv4, _⟩ := o4.rd
  subst hv4
  have HA4 := hide ((A4.other (w.heap.size + 1 + 1) 5 (.slice ra4 p.units.length rcap4) (by omega)).other (w.heap.size + 1 + 1) 6 (.int .i64 p.cnt) (by omega))
  have HR4 := hide ((R4.other (w.heap.size + 1 + 1) 5 (.slice ra4 p.units.length rcap4) (by omega)).other (w.heap.size + 1 + 1) 6 (.int .i64 p.cnt) (by omega))
  have HX4 := hide ((X4.p5 (.slice ra4 p.units.length rcap4)).p6 (.int .i64 p.cnt))
  have HB4 := hide ((B4.setCell (p := ⟨w.heap.size + 1 + 1, 5, none⟩) (by simp only; omega) (.slice ra4 p.units.length rcap4)).setCell (p := ⟨w.heap.size + 1 + 1, 6, none⟩) (by simp only; omega) (.int .i64 p.cnt))
  have HO1n := hide (((HO1.out.later g4).set (w.heap.size + 1 + 1) 5 (.slice ra4 p.units.length rcap4) (by omega)).set (w.heap.size + 1 + 1) 6 (.int .i64 p.cnt) (by omega))
  have HO2n := hide (((Ow.later HO2.out g4).setC ⟨w.heap.size + 1 + 1, 5, none⟩ (.slice ra4 p.units.length rcap4) (by simp only; omega)).setC ⟨w.heap.size + 1 + 1, 6, none⟩ (.int .i64 p.cnt) (by simp only; omega))
  have HO3n := hide (((Ow.later HO3.out g4).setC ⟨w.heap.size + 1 + 1, 5, none⟩ (.slice ra4 p.units.length rcap4) (by simp only; omega)).setC ⟨w.heap.size + 1 + 1, 6, none⟩ (.int .i64 p.cnt) (by simp only; omega))
  have HO4n := hide ((o4.setC ⟨w.heap.size + 1 + 1, 5, none⟩ (.slice ra4 p.units.length rcap4) (by simp only; omega)).setC ⟨w.heap.size + 1 + 1, 6, none⟩ (.int .i64 p.cnt) (by simp only; omega))
  clear HO1
  clear HO2
  clear HO3
  have HO1 := hide HO1n.out
  clear HO1n
  have HO2 := hide HO2n.out
  clear HO2n
  have HO3 := hide HO3n.out
  clear HO3n
  have HO4 := hide HO4n.out
  clear HO4n
  obtain ⟨z0, z1, z2, z3, z4, z5, z6, z7, zf⟩ := A4
  obtain ⟨y0, y1, y2, y3, y4, y5, y6, y7, yf⟩ := X4
  obtain ⟨r0, r1, r2, r3, r4, r5, r6, r7, rf⟩ := R4
  clear B4 o4 g4 HA3 HR3 HX3 HB3
  have hsz4 : w.heap.size + 3 ≤ w4.heap.size := by have := World.block_lt_of_cell? w4 _ y0; simp only at this; omega
  go_wp2_with fail
  refine (toCommentS_any _ p.tail _ (H.out _ HB4.out).rt HO.out.tail HO.out.tails).mono ?_
  rintro e w5 ⟨v5, rfl, q5, g5⟩
  have o5 := q5.base (B' := w.heap.size + 3) (by simpa using hsz4)
  clear q5 z0 z1 z2 z3 z4 z5 z6 z7 zf y0 y1 y2 y3 y4 y5 y6 y7 yf r0 r1 r2 r3 r4 r5 r6 r7 rf hsz4
  have A5 := HA4.out.keep g5
  have R5 := HR4.out.keep g5
  have X5 := HX4.out.keep g5
  have B5 := HB4.out.grown g5 HB4.out.size (fun k e => by cases e)
  obtain ⟨ra5, rcap5, hv5, _, _⟩ := o5.rd.sl
  subst hv5
  have HA5 := hide (A5.other (w.heap.size + 1 + 1) 7 (.slice ra5 p.tail.length rcap5) (by omega))
  have HR5 := hide (R5.other (w.heap.size + 1 + 1) 7 (.slice ra5 p.tail.length rcap5) (by omega))
  have HX5 := hide (X5.p7 (.slice ra5 p.tail.length rcap5))
  have HB5 := hide (B5.setCell (p := ⟨w.heap.size + 1 + 1, 7, none⟩) (by simp only; omega) (.slice ra5 p.tail.length rcap5))
  have HO1n := hide ((HO1.out.later g5).set (w.heap.size + 1 + 1) 7 (.slice ra5 p.tail.length rcap5) (by omega))
  have HO2n := hide ((Ow.later HO2.out g5).setC ⟨w.heap.size + 1 + 1, 7, none⟩ (.slice ra5 p.tail.length rcap5) (by simp only; omega))
  have HO3n := hide ((Ow.later HO3.out g5).setC ⟨w.heap.size + 1 + 1, 7, none⟩ (.slice ra5 p.tail.length rcap5) (by simp only; omega))
  have HO4n := hide ((Ow.later HO4.out g5).setC ⟨w.heap.size + 1 + 1, 7, none⟩ (.slice ra5 p.tail.length rcap5) (by simp only; omega))
  have HO5n := hide (o5.set (w.heap.size + 1 + 1) 7 (.slice ra5 p.tail.length rcap5) (by omega))
  clear HO1
  clear HO2
  clear HO3
  clear HO4
  have HO1 := hide HO1n.out
  clear HO1n
  have HO2 := hide HO2n.out
  clear HO2n
  have HO3 := hide HO3n.out
  clear HO3n
  have HO4 := hide HO4n.out
  clear HO4n
  have HO5 := hide HO5n.out
  clear HO5n
  obtain ⟨z0, z1, z2, z3, z4, z5, z6, z7, zf⟩ := A5
  obtain ⟨y0, y1, y2, y3, y4, y5, y6, y7, yf⟩ := X5
  obtain ⟨r0, r1, r2, r3, r4, r5, r6, r7, rf⟩ := R5
  clear B5 o5 g5 HA4 HR4 HX4 HB4
  go_wp2
  refine bodyPost_ret (v := .agg #[.int .i64 p.k, .slice ra1 p.lead.length rcap1, .bool p.mem, .slice ra2 p.key.length rcap2, .slice ra3 p.text.length rcap3, .slice ra4 p.units.length rcap4, .int .i64 p.cnt, .slice ra5 p.tail.length rcap5]) (by simp [results, Tryz.results41, go_sem, r0, r1, r2, r3, r4, r5, r6, r7]) rfl ?_
  refine ⟨_, _, _, _, _, rfl, ⟨?_, ?_, ?_, ?_, ?_⟩, ?_⟩
  · exact ((((((((HO1.out.set (w.heap.size + 1) 0 _ (by omega)).set (w.heap.size + 1) 1 _ (by omega)).set (w.heap.size + 1) 2 _ (by omega)).set (w.heap.size + 1) 3 _ (by omega)).set (w.heap.size + 1) 4 _ (by omega)).set (w.heap.size + 1) 5 _ (by omega)).set (w.heap.size + 1) 6 _ (by omega)).set (w.heap.size + 1) 7 _ (by omega)).base (by omega)
  · exact row_base (by omega) ((((((((HO2.out.setC ⟨w.heap.size + 1, 0, none⟩ _ (by simp only; omega)).setC ⟨w.heap.size + 1, 1, none⟩ _ (by simp only; omega)).setC ⟨w.heap.size + 1, 2, none⟩ _ (by simp only; omega)).setC ⟨w.heap.size + 1, 3, none⟩ _ (by simp only; omega)).setC ⟨w.heap.size + 1, 4, none⟩ _ (by simp only; omega)).setC ⟨w.heap.size + 1, 5, none⟩ _ (by simp only; omega)).setC ⟨w.heap.size + 1, 6, none⟩ _ (by simp only; omega)).setC ⟨w.heap.size + 1, 7, none⟩ _ (by simp only; omega))
  · exact row_base (by omega) ((((((((HO3.out.setC ⟨w.heap.size + 1, 0, none⟩ _ (by simp only; omega)).setC ⟨w.heap.size + 1, 1, none⟩ _ (by simp only; omega)).setC ⟨w.heap.size + 1, 2, none⟩ _ (by simp only; omega)).setC ⟨w.heap.size + 1, 3, none⟩ _ (by simp only; omega)).setC ⟨w.heap.size + 1, 4, none⟩ _ (by simp only; omega)).setC ⟨w.heap.size + 1, 5, none⟩ _ (by simp only; omega)).setC ⟨w.heap.size + 1, 6, none⟩ _ (by simp only; omega)).setC ⟨w.heap.size + 1, 7, none⟩ _ (by simp only; omega))
  · exact row_base (by omega) ((((((((HO4.out.setC ⟨w.heap.size + 1, 0, none⟩ _ (by simp only; omega)).setC ⟨w.heap.size + 1, 1, none⟩ _ (by simp only; omega)).setC ⟨w.heap.size + 1, 2, none⟩ _ (by simp only; omega)).setC ⟨w.heap.size + 1, 3, none⟩ _ (by simp only; omega)).setC ⟨w.heap.size + 1, 4, none⟩ _ (by simp only; omega)).setC ⟨w.heap.size + 1, 5, none⟩ _ (by simp only; omega)).setC ⟨w.heap.size + 1, 6, none⟩ _ (by simp only; omega)).setC ⟨w.heap.size + 1, 7, none⟩ _ (by simp only; omega))
  · exact ((((((((HO5.out.set (w.heap.size + 1) 0 _ (by omega)).set (w.heap.size + 1) 1 _ (by omega)).set (w.heap.size + 1) 2 _ (by omega)).set (w.heap.size + 1) 3 _ (by omega)).set (w.heap.size + 1) 4 _ (by omega)).set (w.heap.size + 1) 5 _ (by omega)).set (w.heap.size + 1) 6 _ (by omega)).set (w.heap.size + 1) 7 _ (by omega)).base (by omega)
  · exact grown_of_below ((((((((HB5.out.setCell (p := ⟨w.heap.size + 1, 0, none⟩) (by simp only; omega) _).setCell (p := ⟨w.heap.size + 1, 1, none⟩) (by simp only; omega) _).setCell (p := ⟨w.heap.size + 1, 2, none⟩) (by simp only; omega) _).setCell (p := ⟨w.heap.size + 1, 3, none⟩) (by simp only; omega) _).setCell (p := ⟨w.heap.size + 1, 4, none⟩) (by simp only; omega) _).setCell (p := ⟨w.heap.size + 1, 5, none⟩) (by simp only; omega) _).setCell (p := ⟨w.heap.size + 1, 6, none⟩) (by simp only; omega) _).setCell (p := ⟨w.heap.size + 1, 7, none⟩) (by simp only; omega) _)

end Go.Proofs.YtalkhnhhaiigiaaGreatDoor

