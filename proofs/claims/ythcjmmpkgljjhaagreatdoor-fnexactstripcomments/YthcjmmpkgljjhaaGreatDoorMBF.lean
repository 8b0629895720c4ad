import Derived.Test.YthcjmmpkgljjhaaGreatDoorMAA
import Derived.Test.YthcjmmpkgljjhaaGreatDoorMAX
import Derived.Test.YthcjmmpkgljjhaaGreatDoorMBE
namespace Go.Proofs.YthcjmmpkgljjhaaGreatDoor
open Go.RowKit

theorem eqIntS_false_of {za zb : List Int} (k : Nat) (h : za[k]?.getD 0 ≠ zb[k]?.getD 0) : decide (za = zb) = false := by
  simp only [decide_eq_false_iff_not]; intro e; exact h (by rw [e])

set_option maxHeartbeats 400000 in
set_option maxRecDepth 100000 in
theorem eqIntS_any (va vb : Value) (za zb : List Int) (w : World) (ha : Rd .i64 w.heap.size w va za) (hb : Rd .i64 w.heap.size w vb zb) (hn : za.length ≤ 600000000) :
    Calls Tryz.prog 58 #[va, vb] w fun e w' => e = .returned (.bool (decide (za = zb))) ∧ ∃ m, w' = w.drewN m := by
  obtain ⟨a, capa, rfl, hra⟩ := ha
  obtain ⟨b, capb, rfl, hrb⟩ := hb
  by_cases hl : za.length = zb.length
  · have hne : ((za.length : Int) != (zb.length : Int)) = false := by simp [hl]
    have HL : Hid (za.length = zb.length) := hl
    clear hl
    go_enter Tryz.func58, Tryz.ntmps58
    go_wp2
    go_loopw [5] (fun i wr => ∃ k m : Nat, k ≤ za.length ∧ i = .int .i64 k ∧ za.take k = zb.take k ∧ wr = w.drewN m)
      (fun i _ => za.length - (intOf i).toNat)
    case atStart => exact ⟨0, 0, Nat.zero_le _, rfl, by simp, rfl⟩
    case round =>
      obtain ⟨k, m, hk, rfl, ht, hwr⟩ := hrel
      subst hwr
      by_cases hlt : k < za.length
      · have hlt2 : k < zb.length := by rw [← HL.out]; exact hlt
        obtain ⟨ba, offa, rfl, hba, hca⟩ := hra (fun h => by simp [h] at hlt)
        obtain ⟨bb, offb, rfl, hbb, hcb⟩ := hrb (fun h => by simp [h] at hlt2)
        have hxa := hca k hlt
        have hxb := hcb k hlt2
        have hta := take_snoc za k hlt
        have htb := take_snoc zb k hlt2
        have hla : (k : Int) < (za.length : Int) := by omega
        have hlb : (k : Int) < (zb.length : Int) := by omega
        clear hca hcb hra hrb
        by_cases hz : za[k]?.getD 0 = zb[k]?.getD 0
        · have HT : Hid (za.take (k + 1) = zb.take (k + 1)) := by unfold Hid; rw [hta, htb, ht, hz]
          clear hta htb ht
          rw [← hz] at hxb
          clear hz
          generalize za[k]?.getD 0 = z at hxa hxb
          go_wp2
          go_quiet (fail)
          go_wp2
          go_roundw
          case rel => exact ⟨k + 1, _, by omega, by go_num, HT.out, rfl⟩
          case measure => simp [intOf]; omega
        · have HF : Hid (decide (za = zb) = false) := eqIntS_false_of k hz
          generalize za[k]?.getD 0 = z at hxa hz
          generalize zb[k]?.getD 0 = z2 at hxb hz
          clear hta htb ht
          have hz2 : (z != z2) = true := by simp [hz]
          clear hz
          go_wp2
          go_quiet (fail)
          go_wp2
          go_ret
          exact ⟨by rw [HF.out]; rfl, m + nq, by rw [World.drewN_drewN]⟩
      · have HF : Hid (decide (za = zb) = true) := by
          unfold Hid
          rw [List.take_of_length_le (by omega), List.take_of_length_le (by have := HL.out; omega)] at ht
          simp [ht]
        clear ht
        go_wp2
        go_ret
        exact ⟨by rw [HF.out]; rfl, _, rfl⟩
  · have hne : ((za.length : Int) != (zb.length : Int)) = true := by simp; omega
    have HF : Hid (decide (za = zb) = false) := by
      unfold Hid
      simp only [decide_eq_false_iff_not]; intro e; exact hl (by rw [e])
    clear hl
    go_enter Tryz.func58, Tryz.ntmps58
    go_wp2
    go_ret
    exact ⟨by rw [HF.out]; rfl, 0, rfl⟩

theorem eqIntS_same (va vb : Value) (zs : List Int) (w : World) (ha : Rd .i64 w.heap.size w va zs) (hb : Rd .i64 w.heap.size w vb zs) (hn : zs.length ≤ 600000000) :
    Calls Tryz.prog 58 #[va, vb] w fun e w' => e = .returned (.bool true) ∧ w.grownBy w' none := by
  refine (eqIntS_any va vb zs zs w ha hb hn).mono ?_
  rintro e w' ⟨rfl, m, rfl⟩
  exact ⟨by simp, grown_drewN (World.grownBy.refl _ _) m⟩

end Go.Proofs.YthcjmmpkgljjhaaGreatDoor

namespace Go.Proofs.YthcjmmpkgljjhaaGreatDoor
open Go.RowKit

/-- Lists that are not too long. -/
structure NOk (p : Nod) : Prop where
  lead : p.lead.length ≤ 1048576
  leads : ∀ c ∈ p.lead, c.t.length ≤ 1048576
  key : p.key.length ≤ 1048576
  text : p.text.length ≤ 1048576
  units : p.units.length ≤ 1048576
  tail : p.tail.length ≤ 1048576
  tails : ∀ c ∈ p.tail, c.t.length ≤ 1048576

/-- A node's lists read. -/
structure NRd (B : Nat) (w : World) (p : Nod) (lv kv xv uv tv : Value) : Prop where
  rl : RdC B w lv p.lead
  rk : RdI B w kv p.key
  rx : RdB B w xv p.text
  ru : RdI B w uv p.units
  rt : RdC B w tv p.tail
theorem NRd.keep {B : Nat} {w w' : World} {p : Nod} {lv kv xv uv tv : Value} (h : NRd B w p lv kv xv uv tv) (hg : w.grownBy w' none) : NRd B w' p lv kv xv uv tv :=
  ⟨h.rl.keep hg, h.rk.keep hg, h.rx.keep hg, h.ru.keep hg, h.rt.keep hg⟩
theorem NRd.wide {B B' : Nat} {w : World} {p : Nod} {lv kv xv uv tv : Value} (h : NRd B w p lv kv xv uv tv) (hB : B ≤ B') : NRd B' w p lv kv xv uv tv :=
  ⟨h.rl.wide hB, h.rk.wideC hB, h.rx.wideC hB, h.ru.wideC hB, h.rt.wide hB⟩
theorem NodAt.rd {B : Nat} {w : World} {b o : Nat} {p : Nod} {lv kv xv uv tv : Value} (h : NodAt B w b o p lv kv xv uv tv) : NRd B w p lv kv xv uv tv := ⟨h.rl, h.rk, h.rx, h.ru, h.rt⟩

/-- The cells of two nodes that were laid for a call. -/
theorem node_cells2 {w w1 : World} {a b c d e f g h a' b' c' d' e' f' g' h' : Value} {t t' : TypeId} (hg : ((w.alloc (.cells #[a, b, c, d, e, f, g, h] t)).alloc (.cells #[a', b', c', d', e', f', g', h'] t')).grownBy w1 none) :
    (w1.cell? ⟨w.heap.size, 0, none⟩ = some a ∧ w1.cell? ⟨w.heap.size, 1, none⟩ = some b ∧ w1.cell? ⟨w.heap.size, 2, none⟩ = some c ∧ w1.cell? ⟨w.heap.size, 3, none⟩ = some d ∧
    w1.cell? ⟨w.heap.size, 4, none⟩ = some e ∧ w1.cell? ⟨w.heap.size, 5, none⟩ = some f ∧ w1.cell? ⟨w.heap.size, 6, none⟩ = some g ∧ w1.cell? ⟨w.heap.size, 7, none⟩ = some h) ∧
    (w1.cell? ⟨w.heap.size + 1, 0, none⟩ = some a' ∧ w1.cell? ⟨w.heap.size + 1, 1, none⟩ = some b' ∧ w1.cell? ⟨w.heap.size + 1, 2, none⟩ = some c' ∧ w1.cell? ⟨w.heap.size + 1, 3, none⟩ = some d' ∧
    w1.cell? ⟨w.heap.size + 1, 4, none⟩ = some e' ∧ w1.cell? ⟨w.heap.size + 1, 5, none⟩ = some f' ∧ w1.cell? ⟨w.heap.size + 1, 6, none⟩ = some g' ∧ w1.cell? ⟨w.heap.size + 1, 7, none⟩ = some h') :=
  ⟨⟨hg.cell (by simp [go_sem]) (by simp), hg.cell (by simp [go_sem]) (by simp), hg.cell (by simp [go_sem]) (by simp), hg.cell (by simp [go_sem]) (by simp),
    hg.cell (by simp [go_sem]) (by simp), hg.cell (by simp [go_sem]) (by simp), hg.cell (by simp [go_sem]) (by simp), hg.cell (by simp [go_sem]) (by simp)⟩,
   ⟨hg.cell (by simp [go_sem]) (by simp), hg.cell (by simp [go_sem]) (by simp), hg.cell (by simp [go_sem]) (by simp), hg.cell (by simp [go_sem]) (by simp),
    hg.cell (by simp [go_sem]) (by simp), hg.cell (by simp [go_sem]) (by simp), hg.cell (by simp [go_sem]) (by simp), hg.cell (by simp [go_sem]) (by simp)⟩⟩

set_option maxHeartbeats 2000000 in
set_option maxRecDepth 100000 in
theorem eqNode_same (p : Nod) (lv kv xv uv tv lv' kv' xv' uv' tv' : Value) (w : World) (h : NRd w.heap.size w p lv kv xv uv tv) (h' : NRd w.heap.size w p lv' kv' xv' uv' tv') (hok : NOk p) :
    Calls Tryz.prog 40 #[.agg #[.int .i64 p.k, lv, .bool p.mem, kv, xv, uv, .int .i64 p.cnt, tv], .agg #[.int .i64 p.k, lv', .bool p.mem, kv', xv', uv', .int .i64 p.cnt, tv']] w fun e w' => e = .returned (.bool true) ∧ w.grownBy w' none := by
  have hnot : ∀ (x : Bool) (w : World), (Op.unary .not (.bool x)).run Tryz.prog w = .ok (.bool (!x)) w := fun _ _ => rfl
  have hkk : (p.k != p.k) = false := by simp
  have hmm : (p.mem != p.mem) = false := by simp
  have hcc : (p.cnt != p.cnt) = false := by simp
  have gA : w.grownBy ((w.alloc (.cells #[.int .i64 p.k, lv, .bool p.mem, kv, xv, uv, .int .i64 p.cnt, tv] 42)).alloc (.cells #[.int .i64 p.k, lv', .bool p.mem, kv', xv', uv', .int .i64 p.cnt, tv'] 42)) none := grown_trans (World.grownBy_alloc _ _ _) (World.grownBy_alloc _ _ _)
  obtain ⟨la, lcap, hlv, _, _⟩ := h.rl.sl
  obtain ⟨ta, tcap, htv, _, _⟩ := h.rt.sl
  obtain ⟨ka, kcap, hkv, _⟩ := id h.rk
  obtain ⟨xa, xcap, hxv, _⟩ := id h.rx
  obtain ⟨ua, ucap, huv, _⟩ := id h.ru
  obtain ⟨la', lcap', hlv', _, _⟩ := h'.rl.sl
  obtain ⟨ta', tcap', htv', _, _⟩ := h'.rt.sl
  obtain ⟨ka', kcap', hkv', _⟩ := id h'.rk
  obtain ⟨xa', xcap', hxv', _⟩ := id h'.rx
  obtain ⟨ua', ucap', huv', _⟩ := id h'.ru
  have H := hide (fun W (hW : w.grownBy W none) => (h.keep hW).wide hW.size)
  have H' := hide (fun W (hW : w.grownBy W none) => (h'.keep hW).wide hW.size)
  have HG := hide gA
  have HO := hide hok
  subst hlv htv hkv hxv huv hlv' htv' hkv' hxv' huv'
  clear h h' gA hok
  generalize p.k = kk at *
  generalize p.cnt = cn at *
  generalize p.mem = mm at *
  go_enter Tryz.func40, Tryz.ntmps40
  go_wp2_with fail
  refine (eqCommentS_same _ _ p.lead _ (H.out _ HG.out).rl (H'.out _ HG.out).rl HO.out.lead HO.out.leads).mono ?_
  rintro e w1 ⟨rfl, g1⟩
  obtain ⟨⟨z0, z1, z2, z3, z4, z5, z6, z7⟩, ⟨y0, y1, y2, y3, y4, y5, y6, y7⟩⟩ := node_cells2 g1
  have G1 := hide g1
  clear g1
  go_wp2_with fail
  refine (eqIntS_same _ _ p.key _ (H.out _ (grown_trans HG.out G1.out)).rk (H'.out _ (grown_trans HG.out G1.out)).rk (by have := HO.out.key; omega)).mono ?_
  rintro e w2 ⟨rfl, g2⟩
  have G2 := hide (grown_trans G1.out g2)
  clear z0 z1 z2 z3 z4 z5 z6 z7 y0 y1 y2 y3 y4 y5 y6 y7 G1 g2
  obtain ⟨⟨z0, z1, z2, z3, z4, z5, z6, z7⟩, ⟨y0, y1, y2, y3, y4, y5, y6, y7⟩⟩ := node_cells2 G2.out
  go_wp2_with fail
  refine (eqByteS_same _ _ p.text _ (H.out _ (grown_trans HG.out G2.out)).rx (H'.out _ (grown_trans HG.out G2.out)).rx (by have := HO.out.text; omega)).mono ?_
  rintro e w3 ⟨rfl, g3⟩
  have G3 := hide (grown_trans G2.out g3)
  clear z0 z1 z2 z3 z4 z5 z6 z7 y0 y1 y2 y3 y4 y5 y6 y7 G2 g3
  obtain ⟨⟨z0, z1, z2, z3, z4, z5, z6, z7⟩, ⟨y0, y1, y2, y3, y4, y5, y6, y7⟩⟩ := node_cells2 G3.out
  go_wp2_with fail
  refine (eqIntS_same _ _ p.units _ (H.out _ (grown_trans HG.out G3.out)).ru (H'.out _ (grown_trans HG.out G3.out)).ru (by have := HO.out.units; omega)).mono ?_
  rintro e w4 ⟨rfl, g4⟩
  have G4 := hide (grown_trans G3.out g4)
  clear z0 z1 z2 z3 z4 z5 z6 z7 y0 y1 y2 y3 y4 y5 y6 y7 G3 g4
  obtain ⟨⟨z0, z1, z2, z3, z4, z5, z6, z7⟩, ⟨y0, y1, y2, y3, y4, y5, y6, y7⟩⟩ := node_cells2 G4.out
  go_wp2_with fail
  refine (eqCommentS_same _ _ p.tail _ (H.out _ (grown_trans HG.out G4.out)).rt (H'.out _ (grown_trans HG.out G4.out)).rt HO.out.tail HO.out.tails).mono ?_
  rintro e w5 ⟨rfl, g5⟩
  have G5 := hide (grown_trans HG.out (grown_trans G4.out g5))
  clear z0 z1 z2 z3 z4 z5 z6 z7 y0 y1 y2 y3 y4 y5 y6 y7 G4 g5
  go_wp2
  go_ret
  exact ⟨rfl, G5.out⟩

end Go.Proofs.YthcjmmpkgljjhaaGreatDoor

