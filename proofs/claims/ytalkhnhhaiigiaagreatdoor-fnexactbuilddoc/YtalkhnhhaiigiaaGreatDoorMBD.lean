import Derived.Test.YtalkhnhhaiigiaaGreatDoorMBC
namespace Go.Proofs.YtalkhnhhaiigiaaGreatDoor
open Go.RowKit
attribute [-go_sem] Builtin.append_

/-- What is known of a valid tree. -/
structure DocOk (t : Tre) : Prop where
  len : t.nodes.length ≤ 4000
  nd : ∀ p ∈ t.nodes, NodeOK comS numS p
  ok : ∀ p ∈ t.nodes, NdOk p
  cn : ∀ p ∈ t.nodes, -9223372036854775808 ≤ p.cnt ∧ p.cnt ≤ 9223372036854775807
  wt : wNs t.nodes ≤ 2000000
theorem wNs_mem : ∀ (ns : List Nod) (p : Nod), p ∈ ns → wN p ≤ wNs ns
  | [], p, h => by simp at h
  | q :: ns, p, h => by
    simp only [wNs]
    rcases List.mem_cons.1 h with rfl | h
    · omega
    · have := wNs_mem ns p h; omega

set_option maxHeartbeats 4000000 in
set_option maxRecDepth 100000 in
theorem l6value_scal (t : Tre) (ind : Int) (hD : DocOk t) (i : Nat) (hi : i < t.nodes.length) (hk : t.nodes[i].k < 5) (nv tv : Value) (w : World) (hv : RdT' w.heap.size w nv tv t) :
    Calls Tryz.prog 38 #[.agg #[nv, tv], .int .i64 i, .int .i64 ind] w fun e w' => ∃ v', e = .returned v' ∧ PoR w.heap.size w' v' (scalP t.nodes[i]) ∧ w.grownBy w' none := by
  obtain ⟨hvn, hvt⟩ := id hv
  obtain ⟨na, ncap, hn0, _⟩ := id hvn
  obtain ⟨ta, tcap, ht0, _⟩ := id hvt
  obtain ⟨b, off, cap', lv, kv, xv, uv, qv, hva, hb0, hp⟩ := hvn.at i hi
  have hnd := hD.nd _ (List.getElem_mem hi)
  have hok := hD.ok _ (List.getElem_mem hi)
  have hwt := Nat.le_trans (wNs_mem _ _ (List.getElem_mem hi)) hD.wt
  have hq2 : 6 * t.nodes[i].units.length ≤ 2000000 := by have := hwt; unfold wN at this; omega
  have hx1 : t.nodes[i].text.length ≤ 1048576 := hok.x.1
  have hu1 := hok.u
  have gA : ∀ W : World, w.grownBy W none → RdB W.heap.size W xv t.nodes[i].text := fun W g => ((hp.rx.keep g).wideC g.size)
  have gB : ∀ W : World, w.grownBy W none → RdI W.heap.size W uv t.nodes[i].units := fun W g => ((hp.ru.keep g).wideC g.size)
  have HX : Hid (∀ W : World, w.grownBy W none → _) := fun W (g : w.grownBy W none) => l6text_any xv t.nodes[i].text W (gA W g) (by omega)
  have HU : Hid (∀ W : World, w.grownBy W none → _) := fun W (g : w.grownBy W none) => specQuote_any uv t.nodes[i].units W (gB W g) (by omega)
  have z0 := hp.k; have z1 := hp.lead; have z2 := hp.mem; have z3 := hp.key; have z4 := hp.text; have z5 := hp.units; have z6 := hp.cnt; have z7 := hp.tail
  obtain ⟨la, lcap, hlv, _, _⟩ := hp.rl.sl
  obtain ⟨qa, qcap, hqv, _, _⟩ := hp.rt.sl
  obtain ⟨ka, kcap, hkv, _, _⟩ := hp.sk
  obtain ⟨xa, xcap, hxv, _, _⟩ := hp.sx
  obtain ⟨ua, ucap, huv, _, _⟩ := hp.su
  subst hlv hqv hkv hxv huv hva ht0
  cases hn0
  have hk0 := hnd.1.1
  have hq := qu_len t.nodes[i].units
  clear hvn hvt hv hp hok hnd gA gB
  generalize t.nodes[i] = p at *
  obtain ⟨wA, hwA⟩ : ∃ wA, wA = w.alloc (Obj.cells #[.slice (some ⟨b, off, none⟩) t.nodes.length ncap, .slice ta t.tail.length tcap] 33) := ⟨_, rfl⟩
  have gA : w.grownBy wA none := by rw [hwA]; exact World.grownBy_alloc _ _ _
  have z0' := gA.cell z0 (by simp); have z1' := gA.cell z1 (by simp); have z2' := gA.cell z2 (by simp); have z3' := gA.cell z3 (by simp); have z4' := gA.cell z4 (by simp); have z5' := gA.cell z5 (by simp); have z6' := gA.cell z6 (by simp); have z7' := gA.cell z7 (by simp)
  have sA : wA.heap.size = w.heap.size + 1 := by rw [hwA]; simp
  clear z0 z1 z2 z3 z4 z5 z6 z7
  have g3 : ∀ o1 o2 : Obj, w.grownBy ((wA.alloc o1).alloc o2) none := fun o1 o2 => grown_trans gA (grown_trans (World.grownBy_alloc _ _ _) (World.grownBy_alloc _ _ _))
  have G3 := hide g3
  subst hwA
  clear gA g3
  have hkc : p.k = 0 ∨ p.k = 1 ∨ p.k = 2 ∨ p.k = 3 ∨ p.k = 4 := by omega
  rcases hkc with hkk | hkk | hkk | hkk | hkk
  · have HS := hide (show scalP p = textP [110, 117, 108, 108] by unfold scalP; rw [if_neg (by omega), if_neg (by omega), if_pos hkk])
    have HT : Hid (∀ W : World, _) := fun W => l2text_any [110, 117, 108, 108] (by intro z hz; simp at hz; omega) (by simp) W
    rw [hkk] at z0' hk hk0
    go_enter Tryz.func38, Tryz.ntmps38
    go_wp2_with fail
    refine (HT.out _).mono ?_
    rintro e w4 ⟨v4, rfl, o4, g4⟩
    have gg := G3.out (Obj.cells #[.int .i64 0, .slice la p.lead.length lcap, .bool p.mem, .slice ka p.key.length kcap, .slice xa p.text.length xcap, .slice ua p.units.length ucap, .int .i64 p.cnt, .slice qa p.tail.length qcap] 75) (Obj.cells #[.string { data := #[110, 117, 108, 108] }, .string { data := #[116, 114, 117, 101] }, .string { data := #[102, 97, 108, 115, 101] }] 9)
    have HG := hide (grown_trans gg g4)
    have HO := hide (o4.base gg.size)
    obtain ⟨a4, c4, hv4, _, _⟩ := o4.sl
    subst hv4
    clear o4 g4 HX HU HT gg
    go_wp2
    go_ret
    exact ⟨_, rfl, by rw [HS.out]; exact HO.out, HG.out⟩
  · have HS := hide (show scalP p = textP [116, 114, 117, 101] by unfold scalP; rw [if_neg (by omega), if_neg (by omega), if_neg (by omega), if_pos hkk])
    have HT : Hid (∀ W : World, _) := fun W => l2text_any [116, 114, 117, 101] (by intro z hz; simp at hz; omega) (by simp) W
    rw [hkk] at z0' hk hk0
    go_enter Tryz.func38, Tryz.ntmps38
    go_wp2_with fail
    refine (HT.out _).mono ?_
    rintro e w4 ⟨v4, rfl, o4, g4⟩
    have gg := G3.out (Obj.cells #[.int .i64 1, .slice la p.lead.length lcap, .bool p.mem, .slice ka p.key.length kcap, .slice xa p.text.length xcap, .slice ua p.units.length ucap, .int .i64 p.cnt, .slice qa p.tail.length qcap] 75) (Obj.cells #[.string { data := #[110, 117, 108, 108] }, .string { data := #[116, 114, 117, 101] }, .string { data := #[102, 97, 108, 115, 101] }] 9)
    have HG := hide (grown_trans gg g4)
    have HO := hide (o4.base gg.size)
    obtain ⟨a4, c4, hv4, _, _⟩ := o4.sl
    subst hv4
    clear o4 g4 HX HU HT gg
    go_wp2
    go_ret
    exact ⟨_, rfl, by rw [HS.out]; exact HO.out, HG.out⟩
  · have HS := hide (show scalP p = textP [102, 97, 108, 115, 101] by unfold scalP; rw [if_neg (by omega), if_neg (by omega), if_neg (by omega), if_neg (by omega)])
    have HT : Hid (∀ W : World, _) := fun W => l2text_any [102, 97, 108, 115, 101] (by intro z hz; simp at hz; omega) (by simp) W
    rw [hkk] at z0' hk hk0
    go_enter Tryz.func38, Tryz.ntmps38
    go_wp2_with fail
    refine (HT.out _).mono ?_
    rintro e w4 ⟨v4, rfl, o4, g4⟩
    have gg := G3.out (Obj.cells #[.int .i64 2, .slice la p.lead.length lcap, .bool p.mem, .slice ka p.key.length kcap, .slice xa p.text.length xcap, .slice ua p.units.length ucap, .int .i64 p.cnt, .slice qa p.tail.length qcap] 75) (Obj.cells #[.string { data := #[110, 117, 108, 108] }, .string { data := #[116, 114, 117, 101] }, .string { data := #[102, 97, 108, 115, 101] }] 9)
    have HG := hide (grown_trans gg g4)
    have HO := hide (o4.base gg.size)
    obtain ⟨a4, c4, hv4, _, _⟩ := o4.sl
    subst hv4
    clear o4 g4 HX HU HT gg
    go_wp2
    go_ret
    exact ⟨_, rfl, by rw [HS.out]; exact HO.out, HG.out⟩
  · have HS := hide (show scalP p = textP p.text by unfold scalP; rw [if_pos hkk])
    rw [hkk] at z0' hk hk0
    go_enter Tryz.func38, Tryz.ntmps38
    go_wp2_with fail
    refine (HX.out _ (G3.out _ _)).mono ?_
    rintro e w4 ⟨v4, rfl, o4, g4⟩
    have HG := hide (grown_trans (G3.out (Obj.cells #[.int .i64 3, .slice la p.lead.length lcap, .bool p.mem, .slice ka p.key.length kcap, .slice xa p.text.length xcap, .slice ua p.units.length ucap, .int .i64 p.cnt, .slice qa p.tail.length qcap] 75) (Obj.cells #[.string { data := #[110, 117, 108, 108] }, .string { data := #[116, 114, 117, 101] }, .string { data := #[102, 97, 108, 115, 101] }] 9)) g4)
    have HO := hide (o4.base (G3.out (Obj.cells #[.int .i64 3, .slice la p.lead.length lcap, .bool p.mem, .slice ka p.key.length kcap, .slice xa p.text.length xcap, .slice ua p.units.length ucap, .int .i64 p.cnt, .slice qa p.tail.length qcap] 75) (Obj.cells #[.string { data := #[110, 117, 108, 108] }, .string { data := #[116, 114, 117, 101] }, .string { data := #[102, 97, 108, 115, 101] }] 9)).size)
    obtain ⟨a4, c4, hv4, _, _⟩ := o4.sl
    subst hv4
    clear o4 g4 HX HU
    go_wp2
    go_ret
    exact ⟨_, rfl, by rw [HS.out]; exact HO.out, HG.out⟩
  · have HS := hide (show scalP p = textP (quR p.units).1 by unfold scalP; rw [if_neg (by omega), if_pos hkk])
    rw [hkk] at z0' hk hk0
    go_enter Tryz.func38, Tryz.ntmps38
    go_wp2_with fail
    refine (HU.out _ (G3.out _ _)).mono ?_
    rintro e w4 ⟨v4, rfl, o4, g4⟩
    have gg := grown_trans (G3.out (Obj.cells #[.int .i64 4, .slice la p.lead.length lcap, .bool p.mem, .slice ka p.key.length kcap, .slice xa p.text.length xcap, .slice ua p.units.length ucap, .int .i64 p.cnt, .slice qa p.tail.length qcap] 75) (Obj.cells #[.string { data := #[110, 117, 108, 108] }, .string { data := #[116, 114, 117, 101] }, .string { data := #[102, 97, 108, 115, 101] }] 9)) g4
    have HG := hide gg
    have HY := hide (l6text_any v4 _ w4 o4.rd (by omega))
    obtain ⟨a4, c4, hv4, _, _⟩ := o4.sl
    subst hv4
    clear o4 g4 HX HU gg
    generalize (quR p.units).1 = qs at *
    go_wp2_with fail
    refine HY.out.mono ?_
    rintro e w5 ⟨v5, rfl, o5, g5⟩
    have HO := hide (o5.base HG.out.size)
    obtain ⟨a5, c5, hv5, _, _⟩ := o5.sl
    subst hv5
    clear o5 HY
    go_wp2
    go_ret
    exact ⟨_, rfl, by rw [HS.out]; exact HO.out, grown_trans HG.out g5⟩
end Go.Proofs.YtalkhnhhaiigiaaGreatDoor

namespace Go.Proofs.YtalkhnhhaiigiaaGreatDoor
open Go.RowKit
attribute [-go_sem] Builtin.append_

theorem di_four (B : Nat) (w : World) (a b c d : Value) (pa pb pc pd : List Pc) (hB : B ≤ w.heap.size) (ha : PiR B w none a pa) (hb : PiR B w none b pb) (hc : PiR B w none c pc) (hd : PiR B w none d pd) :
    DiR B (w.alloc (Obj.cells #[a, b, c, d] 27)) none (.slice (some ⟨w.heap.size, 0, none⟩) 4 4) [pa, pb, pc, pd] := by
  have g := World.grownBy_alloc w (Obj.cells #[a, b, c, d] 27) none
  refine ⟨_, 4, rfl, Nat.le_refl _, by unfold maxLen; omega, fun _ => ⟨w.heap.size, 0, rfl, ⟨hB, by simp, by simp⟩, fun j ds hj => ?_⟩⟩
  match j, hj with
  | 0, hj => simp at hj; subst hj; exact ⟨a, by simp [go_sem], ha.keep g⟩
  | 1, hj => simp at hj; subst hj; exact ⟨b, by simp [go_sem], hb.keep g⟩
  | 2, hj => simp at hj; subst hj; exact ⟨c, by simp [go_sem], hc.keep g⟩
  | 3, hj => simp at hj; subst hj; exact ⟨d, by simp [go_sem], hd.keep g⟩
  | j + 4, hj => simp at hj

set_option maxHeartbeats 2000000 in
set_option maxRecDepth 100000 in
theorem l2bin_any (kd : Int) (x y : Value) (ps qs : List Pc) (B : Nat) (w : World) (hx : PiR B w none x ps) (hy : PiR B w none y qs) (hn : mes ps ≤ 1000000) (hm : mes qs ≤ 1000000) :
    Calls Tryz.prog 72 #[.int .i64 kd, x, y] w fun e w' => ∃ v', e = .returned v' ∧ PoR w.heap.size w' v' (ps ++ qs ++ [⟨kd, [], 0⟩]) ∧ w.grownBy w' none := by
  have HX := hide (l2copy_any x ps B w hx (by omega))
  have HY : Hid (∀ W : World, w.grownBy W none → _) := fun W (g : w.grownBy W none) => l2copy_any y qs B W (hy.keep g) (by omega)
  have hl := mes_len ps
  have hl2 := mes_len qs
  obtain ⟨xa, xc, hxv, _, _⟩ := hx.sl
  obtain ⟨ya, yc, hyv, _, _⟩ := hy.sl
  subst hxv hyv
  clear hx hy
  go_enter Tryz.func72, Tryz.ntmps72
  go_wp2_with fail
  refine HX.out.mono ?_
  rintro e w1 ⟨v1, rfl, o1, g1⟩
  have hs := g1.size
  have HO1 := hide o1
  have HY2 := hide (HY.out _ g1)
  obtain ⟨a1, c1, hv1, _, _⟩ := o1.sl
  subst hv1
  clear HX o1 HY
  go_wp2_with fail
  refine HY2.out.mono ?_
  rintro e w2 ⟨v2, rfl, o2, g2⟩
  have hs2 := g2.size
  obtain ⟨v3, w3, run3, o3, g3, h3⟩ := append_pcs w.heap.size w2 _ v2 ps qs (HO1.out.keep g2) ((o2.pi).turn (Zo.on _ hs (fun k e => .inl (HO1.out.lt k e).2))) (by omega) (by omega)
  have hG3 := grown_new (grown_trans g1 g2) g3 (fun j e => (HO1.out.lt j e).1)
  have hs3 := hG3.size
  obtain ⟨v4, w4, run4, o4, g4, ⟨a4, c4, hv4⟩, _⟩ := o3.push kd 0 (.slice none 0 0) [] (by omega) (TxR.nil _ _ _) (by simp; omega)
  have HG4 := hide (grown_new hG3 g4 (fun j e => (o3.lt j e).1))
  have HO4 := hide o4
  obtain ⟨a2, c2, hv2, _, _⟩ := o2.sl
  obtain ⟨a3, c3, hv3, _, _⟩ := o3.sl
  generalize (ps ++ qs).length = LL at *
  subst hv2 hv3 hv4
  clear HO1 HY2 o2 o3 o4 g3 g4 hG3 h3
  go_wp2
  go_ret
  exact ⟨_, rfl, HO4.out, HG4.out⟩
end Go.Proofs.YtalkhnhhaiigiaaGreatDoor

namespace Go.Proofs.YtalkhnhhaiigiaaGreatDoor
open Go.RowKit
attribute [-go_sem] Builtin.append_

set_option maxHeartbeats 4000000 in
set_option maxRecDepth 100000 in
theorem l6value_bare5 (t : Tre) (ind : Int) (hD : DocOk t) (i : Nat) (hi : i < t.nodes.length) (hk : t.nodes[i].k = 5) (hc0 : t.nodes[i].cnt = 0) (ht0 : t.nodes[i].tail = []) (nv tv : Value) (w : World) (hv : RdT' w.heap.size w nv tv t) :
    Calls Tryz.prog 38 #[.agg #[nv, tv], .int .i64 i, .int .i64 ind] w fun e w' => ∃ v', e = .returned v' ∧ PoR w.heap.size w' v' (textP [91, 93]) ∧ w.grownBy w' none := by
  obtain ⟨hvn, hvt⟩ := id hv
  obtain ⟨na, ncap, hn0, _⟩ := id hvn
  obtain ⟨ta, tcap, ht0, _⟩ := id hvt
  obtain ⟨b, off, cap', lv, kv, xv, uv, qv, hva, hb0, hp⟩ := hvn.at i hi
  have hwt := Nat.le_trans (wNs_mem _ _ (List.getElem_mem hi)) hD.wt
  have hcn := hD.cn _ (List.getElem_mem hi)
  have hwtt : wC t.nodes[i].tail ≤ 2000000 := by have := hwt; unfold wN at this; omega
  have z0 := hp.k; have z1 := hp.lead; have z2 := hp.mem; have z3 := hp.key; have z4 := hp.text; have z5 := hp.units; have z6 := hp.cnt; have z7 := hp.tail
  have HRT := hide hp.rt
  obtain ⟨la, lcap, hlv, _, _⟩ := hp.rl.sl
  obtain ⟨qa, qcap, hqv, _, _⟩ := hp.rt.sl
  obtain ⟨ka, kcap, hkv, _, _⟩ := hp.sk
  obtain ⟨xa, xcap, hxv, _, _⟩ := hp.sx
  obtain ⟨ua, ucap, huv, _, _⟩ := hp.su
  subst hlv hqv hkv hxv huv hva ht0
  cases hn0
  clear hvn hvt hv hp
  generalize t.nodes[i] = p at *
  obtain ⟨wA, hwA⟩ : ∃ wA, wA = w.alloc (Obj.cells #[.slice (some ⟨b, off, none⟩) t.nodes.length ncap, .slice ta t.tail.length tcap] 33) := ⟨_, rfl⟩
  have gA : w.grownBy wA none := by rw [hwA]; exact World.grownBy_alloc _ _ _
  have z0' := gA.cell z0 (by simp); have z1' := gA.cell z1 (by simp); have z2' := gA.cell z2 (by simp); have z3' := gA.cell z3 (by simp); have z4' := gA.cell z4 (by simp); have z5' := gA.cell z5 (by simp); have z6' := gA.cell z6 (by simp); have z7' := gA.cell z7 (by simp)
  have sA : wA.heap.size = w.heap.size + 1 := by rw [hwA]; simp
  clear z0 z1 z2 z3 z4 z5 z6 z7
  have htl : p.tail.length = 0 := by rw [ht0]; rfl
  rw [hk] at z0'
  rw [hc0] at z6'
  rw [htl] at z7'
  have gg : w.grownBy ((wA.alloc (Obj.cells #[.int .i64 5, .slice la p.lead.length lcap, .bool p.mem, .slice ka p.key.length kcap, .slice xa p.text.length xcap, .slice ua p.units.length ucap, .int .i64 0, .slice qa 0 qcap] 75)).alloc (Obj.cells #[.string { data := #[110, 117, 108, 108] }, .string { data := #[116, 114, 117, 101] }, .string { data := #[102, 97, 108, 115, 101] }] 9)) none := grown_trans gA (grown_trans (World.grownBy_alloc _ _ _) (World.grownBy_alloc _ _ _))
  have GG := hide gg
  have HT : Hid (∀ W : World, _) := fun W => l2text_any [91, 93] (by intro z hz; simp at hz; omega) (by simp) W
  subst hwA
  clear gA gg HRT
  go_enter Tryz.func38, Tryz.ntmps38
  go_wp2_with fail
  refine (HT.out _).mono ?_
  rintro e w4 ⟨v4, rfl, o4, g4⟩
  have HG := hide (grown_trans GG.out g4)
  have HO := hide (o4.base GG.out.size)
  obtain ⟨a4, c4, hv4, _, _⟩ := o4.sl
  subst hv4
  clear o4 g4 HT GG
  go_wp2
  go_ret
  exact ⟨_, rfl, HO.out, HG.out⟩

set_option maxHeartbeats 4000000 in
set_option maxRecDepth 100000 in
theorem l6value_bare6 (t : Tre) (ind : Int) (hD : DocOk t) (i : Nat) (hi : i < t.nodes.length) (hk : t.nodes[i].k = 6) (hc0 : t.nodes[i].cnt = 0) (ht0 : t.nodes[i].tail = []) (nv tv : Value) (w : World) (hv : RdT' w.heap.size w nv tv t) :
    Calls Tryz.prog 38 #[.agg #[nv, tv], .int .i64 i, .int .i64 ind] w fun e w' => ∃ v', e = .returned v' ∧ PoR w.heap.size w' v' (textP [123, 125]) ∧ w.grownBy w' none := by
  obtain ⟨hvn, hvt⟩ := id hv
  obtain ⟨na, ncap, hn0, _⟩ := id hvn
  obtain ⟨ta, tcap, ht0, _⟩ := id hvt
  obtain ⟨b, off, cap', lv, kv, xv, uv, qv, hva, hb0, hp⟩ := hvn.at i hi
  have hwt := Nat.le_trans (wNs_mem _ _ (List.getElem_mem hi)) hD.wt
  have hcn := hD.cn _ (List.getElem_mem hi)
  have hwtt : wC t.nodes[i].tail ≤ 2000000 := by have := hwt; unfold wN at this; omega
  have z0 := hp.k; have z1 := hp.lead; have z2 := hp.mem; have z3 := hp.key; have z4 := hp.text; have z5 := hp.units; have z6 := hp.cnt; have z7 := hp.tail
  have HRT := hide hp.rt
  obtain ⟨la, lcap, hlv, _, _⟩ := hp.rl.sl
  obtain ⟨qa, qcap, hqv, _, _⟩ := hp.rt.sl
  obtain ⟨ka, kcap, hkv, _, _⟩ := hp.sk
  obtain ⟨xa, xcap, hxv, _, _⟩ := hp.sx
  obtain ⟨ua, ucap, huv, _, _⟩ := hp.su
  subst hlv hqv hkv hxv huv hva ht0
  cases hn0
  clear hvn hvt hv hp
  generalize t.nodes[i] = p at *
  obtain ⟨wA, hwA⟩ : ∃ wA, wA = w.alloc (Obj.cells #[.slice (some ⟨b, off, none⟩) t.nodes.length ncap, .slice ta t.tail.length tcap] 33) := ⟨_, rfl⟩
  have gA : w.grownBy wA none := by rw [hwA]; exact World.grownBy_alloc _ _ _
  have z0' := gA.cell z0 (by simp); have z1' := gA.cell z1 (by simp); have z2' := gA.cell z2 (by simp); have z3' := gA.cell z3 (by simp); have z4' := gA.cell z4 (by simp); have z5' := gA.cell z5 (by simp); have z6' := gA.cell z6 (by simp); have z7' := gA.cell z7 (by simp)
  have sA : wA.heap.size = w.heap.size + 1 := by rw [hwA]; simp
  clear z0 z1 z2 z3 z4 z5 z6 z7
  have htl : p.tail.length = 0 := by rw [ht0]; rfl
  rw [hk] at z0'
  rw [hc0] at z6'
  rw [htl] at z7'
  have gg : w.grownBy ((wA.alloc (Obj.cells #[.int .i64 6, .slice la p.lead.length lcap, .bool p.mem, .slice ka p.key.length kcap, .slice xa p.text.length xcap, .slice ua p.units.length ucap, .int .i64 0, .slice qa 0 qcap] 75)).alloc (Obj.cells #[.string { data := #[110, 117, 108, 108] }, .string { data := #[116, 114, 117, 101] }, .string { data := #[102, 97, 108, 115, 101] }] 9)) none := grown_trans gA (grown_trans (World.grownBy_alloc _ _ _) (World.grownBy_alloc _ _ _))
  have GG := hide gg
  have HT : Hid (∀ W : World, _) := fun W => l2text_any [123, 125] (by intro z hz; simp at hz; omega) (by simp) W
  subst hwA
  clear gA gg HRT
  go_enter Tryz.func38, Tryz.ntmps38
  go_wp2_with fail
  refine (HT.out _).mono ?_
  rintro e w4 ⟨v4, rfl, o4, g4⟩
  have HG := hide (grown_trans GG.out g4)
  have HO := hide (o4.base GG.out.size)
  obtain ⟨a4, c4, hv4, _, _⟩ := o4.sl
  subst hv4
  clear o4 g4 HT GG
  go_wp2
  go_ret
  exact ⟨_, rfl, HO.out, HG.out⟩

set_option maxHeartbeats 4000000 in
set_option maxRecDepth 100000 in
theorem l6value_tail5 (t : Tre) (ind : Int) (hD : DocOk t) (i : Nat) (hi : i < t.nodes.length) (hk : t.nodes[i].k = 5) (hc0 : t.nodes[i].cnt = 0) (ht0 : t.nodes[i].tail ≠ []) (nv tv : Value) (w : World) (hv : RdT' w.heap.size w nv tv t) :
    Calls Tryz.prog 38 #[.agg #[nv, tv], .int .i64 i, .int .i64 ind] w fun e w' => ∃ v', e = .returned v' ∧ PoR w.heap.size w' v' (rowP [textP [91], nestP ind (aftP t.nodes[i].tail), leafP 4, textP [93]]) ∧ w.grownBy w' none := by
  obtain ⟨hvn, hvt⟩ := id hv
  obtain ⟨na, ncap, hn0, _⟩ := id hvn
  obtain ⟨ta, tcap, ht0, _⟩ := id hvt
  obtain ⟨b, off, cap', lv, kv, xv, uv, qv, hva, hb0, hp⟩ := hvn.at i hi
  have hwt := Nat.le_trans (wNs_mem _ _ (List.getElem_mem hi)) hD.wt
  have hcn := hD.cn _ (List.getElem_mem hi)
  have hwtt : wC t.nodes[i].tail ≤ 2000000 := by have := hwt; unfold wN at this; omega
  have z0 := hp.k; have z1 := hp.lead; have z2 := hp.mem; have z3 := hp.key; have z4 := hp.text; have z5 := hp.units; have z6 := hp.cnt; have z7 := hp.tail
  have HRT := hide hp.rt
  obtain ⟨la, lcap, hlv, _, _⟩ := hp.rl.sl
  obtain ⟨qa, qcap, hqv, _, _⟩ := hp.rt.sl
  obtain ⟨ka, kcap, hkv, _, _⟩ := hp.sk
  obtain ⟨xa, xcap, hxv, _, _⟩ := hp.sx
  obtain ⟨ua, ucap, huv, _, _⟩ := hp.su
  subst hlv hqv hkv hxv huv hva ht0
  cases hn0
  clear hvn hvt hv hp
  generalize t.nodes[i] = p at *
  obtain ⟨wA, hwA⟩ : ∃ wA, wA = w.alloc (Obj.cells #[.slice (some ⟨b, off, none⟩) t.nodes.length ncap, .slice ta t.tail.length tcap] 33) := ⟨_, rfl⟩
  have gA : w.grownBy wA none := by rw [hwA]; exact World.grownBy_alloc _ _ _
  have z0' := gA.cell z0 (by simp); have z1' := gA.cell z1 (by simp); have z2' := gA.cell z2 (by simp); have z3' := gA.cell z3 (by simp); have z4' := gA.cell z4 (by simp); have z5' := gA.cell z5 (by simp); have z6' := gA.cell z6 (by simp); have z7' := gA.cell z7 (by simp)
  have sA : wA.heap.size = w.heap.size + 1 := by rw [hwA]; simp
  clear z0 z1 z2 z3 z4 z5 z6 z7
  have htl : 0 < p.tail.length := List.length_pos_iff.2 ht0
  have htl2 : (0 : Int) < p.tail.length := by omega
  rw [hk] at z0'
  rw [hc0] at z6'
  obtain ⟨W3, hW3⟩ : ∃ W3, W3 = (wA.alloc (Obj.cells #[.int .i64 5, .slice la p.lead.length lcap, .bool p.mem, .slice ka p.key.length kcap, .slice xa p.text.length xcap, .slice ua p.units.length ucap, .int .i64 0, .slice qa p.tail.length qcap] 75)).alloc (Obj.cells #[.string { data := #[110, 117, 108, 108] }, .string { data := #[116, 114, 117, 101] }, .string { data := #[102, 97, 108, 115, 101] }] 9) := ⟨_, rfl⟩
  have gg : w.grownBy W3 none := by rw [hW3]; exact grown_trans gA (grown_trans (World.grownBy_alloc _ _ _) (World.grownBy_alloc _ _ _))
  have GG := hide gg
  have HT1 : Hid (∀ W : World, _) := fun W => l2text_any [91] (by intro z hz; simp at hz; omega) (by simp) W
  have HT2 : Hid (∀ W : World, _) := fun W => l2text_any [93] (by intro z hz; simp at hz; omega) (by simp) W
  have HL : Hid (∀ W : World, _) := fun W => l2leaf_any 4 W
  have HA := hide (l6after_any (.slice none 0 0) (.slice qa p.tail.length qcap) [] p.tail W3.heap.size W3 (DoR.nil _ _) (Nat.le_refl _) ((HRT.out.keep gg).wide gg.size) (by omega) (by simp))
  have hma := mess_aft p.tail
  have HMT := hide hwtt
  subst hW3 hwA
  clear gA gg HRT hwtt hwt
  go_enter Tryz.func38, Tryz.ntmps38
  go_wp2_with fail
  refine HA.out.mono ?_
  rintro e w4 ⟨v4, rfl, o4, bel4⟩
  have g4 := grown_of_below bel4
  simp only [List.nil_append] at o4
  have HR := hide (l6row_any v4 _ _ w4 o4.di (by have := g4.size; exact this) (by have := HMT.out; omega))
  have G4 := hide (grown_trans GG.out g4)
  obtain ⟨a4, c4, hv4, _, _⟩ := o4.sl
  generalize (aftP p.tail).length = L4 at hv4
  subst hv4
  clear o4 bel4 g4 HA
  go_wp2_with fail
  refine HR.out.mono ?_
  rintro e w5 ⟨v5, rfl, o5, g5⟩
  have hm5 := mes_row (aftP p.tail)
  have HN := hide (l2un_any 7 ind v5 _ _ w5 o5.pi (by have := HMT.out; omega))
  have G5 := hide (grown_trans G4.out g5)
  obtain ⟨a5, c5, hv5, _, _⟩ := o5.sl
  generalize (rowP (aftP p.tail)).length = L5 at hv5
  subst hv5
  clear o5 g5 HR
  go_wp2_with fail
  refine HN.out.mono ?_
  rintro e w6 ⟨v6, rfl, o6, g6⟩
  have G6 := hide (grown_trans G5.out g6)
  have HO6 := hide (o6.base (B' := w.heap.size) G5.out.size)
  obtain ⟨a6, c6, hv6, _, _⟩ := o6.sl
  generalize hL6 : (rowP (aftP p.tail) ++ [(⟨7, [], ind⟩ : Pc)]).length = L6 at hv6
  subst hv6
  clear o6 g6 HN
  go_wp2_with fail
  refine (HT1.out _).mono ?_
  rintro e w7 ⟨v7, rfl, o7, g7⟩
  have G7 := hide (grown_trans G6.out g7)
  have HO7 := hide (o7.base (B' := w.heap.size) G6.out.size)
  have HO6' := hide (HO6.out.keep g7)
  obtain ⟨a7, c7, hv7, _, _⟩ := o7.sl
  simp only [textP, List.length_singleton] at hv7
  subst hv7
  clear o7 g7 HT1 HO6
  go_wp2_with fail
  refine (HL.out _).mono ?_
  rintro e w8 ⟨v8, rfl, o8, g8⟩
  have G8 := hide (grown_trans G7.out g8)
  have HO8 := hide (o8.base (B' := w.heap.size) G7.out.size)
  have HO6'' := hide (HO6'.out.keep g8)
  have HO7' := hide (HO7.out.keep g8)
  obtain ⟨a8, c8, hv8, _, _⟩ := o8.sl
  simp only [leafP, List.length_singleton] at hv8
  subst hv8
  clear o8 g8 HL HO6' HO7
  go_wp2_with fail
  refine (HT2.out _).mono ?_
  rintro e w9 ⟨v9, rfl, o9, g9⟩
  have G9 := hide (grown_trans G8.out g9)
  obtain ⟨a9, c9, hv9, _, _⟩ := o9.sl
  simp only [textP, List.length_singleton] at hv9
  have hdi := di_four w.heap.size w9 _ _ _ _ _ _ _ _ G9.out.size (HO7'.out.keep g9).pi (HO6''.out.keep g9).pi (HO8.out.keep g9).pi (o9.base (B' := w.heap.size) G8.out.size).pi
  have hmm : mess [textP [91], rowP (aftP p.tail) ++ [(⟨7, [], ind⟩ : Pc)], leafP 4, textP [93]] ≤ 4194304 := by
    have := HMT.out
    simp only [mess, mes_app, textP, leafP, mes, List.length_cons, List.length_nil]; omega
  have g10 := World.grownBy_alloc w9 (Obj.cells #[.slice a7 1 c7, .slice a6 L6 c6, .slice a8 1 c8, v9] 27) none
  have HF := hide (l6row_any _ _ w.heap.size _ hdi (by have := (grown_trans G9.out g10).size; exact this) hmm)
  have G10 := hide (grown_trans G9.out g10)
  subst hv9
  clear o9 g9 HT2 HO6'' HO7' HO8 hdi g10
  go_wp2_with fail
  refine HF.out.mono ?_
  rintro e w11 ⟨v11, rfl, o11, g11⟩
  have HO11 := hide o11
  have G11 := hide (grown_trans G10.out g11)
  obtain ⟨a11, c11, hv11, _, _⟩ := o11.sl
  generalize (rowP [textP [91], rowP (aftP p.tail) ++ [(⟨7, [], ind⟩ : Pc)], leafP 4, textP [93]]).length = L11 at hv11
  subst hv11
  clear o11 g11 HF
  go_wp2
  go_ret
  exact ⟨_, rfl, HO11.out, G11.out⟩

set_option maxHeartbeats 4000000 in
set_option maxRecDepth 100000 in
theorem l6value_tail6 (t : Tre) (ind : Int) (hD : DocOk t) (i : Nat) (hi : i < t.nodes.length) (hk : t.nodes[i].k = 6) (hc0 : t.nodes[i].cnt = 0) (ht0 : t.nodes[i].tail ≠ []) (nv tv : Value) (w : World) (hv : RdT' w.heap.size w nv tv t) :
    Calls Tryz.prog 38 #[.agg #[nv, tv], .int .i64 i, .int .i64 ind] w fun e w' => ∃ v', e = .returned v' ∧ PoR w.heap.size w' v' (rowP [textP [123], nestP ind (aftP t.nodes[i].tail), leafP 4, textP [125]]) ∧ w.grownBy w' none := by
  obtain ⟨hvn, hvt⟩ := id hv
  obtain ⟨na, ncap, hn0, _⟩ := id hvn
  obtain ⟨ta, tcap, ht0, _⟩ := id hvt
  obtain ⟨b, off, cap', lv, kv, xv, uv, qv, hva, hb0, hp⟩ := hvn.at i hi
  have hwt := Nat.le_trans (wNs_mem _ _ (List.getElem_mem hi)) hD.wt
  have hcn := hD.cn _ (List.getElem_mem hi)
  have hwtt : wC t.nodes[i].tail ≤ 2000000 := by have := hwt; unfold wN at this; omega
  have z0 := hp.k; have z1 := hp.lead; have z2 := hp.mem; have z3 := hp.key; have z4 := hp.text; have z5 := hp.units; have z6 := hp.cnt; have z7 := hp.tail
  have HRT := hide hp.rt
  obtain ⟨la, lcap, hlv, _, _⟩ := hp.rl.sl
  obtain ⟨qa, qcap, hqv, _, _⟩ := hp.rt.sl
  obtain ⟨ka, kcap, hkv, _, _⟩ := hp.sk
  obtain ⟨xa, xcap, hxv, _, _⟩ := hp.sx
  obtain ⟨ua, ucap, huv, _, _⟩ := hp.su
  subst hlv hqv hkv hxv huv hva ht0
  cases hn0
  clear hvn hvt hv hp
  generalize t.nodes[i] = p at *
  obtain ⟨wA, hwA⟩ : ∃ wA, wA = w.alloc (Obj.cells #[.slice (some ⟨b, off, none⟩) t.nodes.length ncap, .slice ta t.tail.length tcap] 33) := ⟨_, rfl⟩
  have gA : w.grownBy wA none := by rw [hwA]; exact World.grownBy_alloc _ _ _
  have z0' := gA.cell z0 (by simp); have z1' := gA.cell z1 (by simp); have z2' := gA.cell z2 (by simp); have z3' := gA.cell z3 (by simp); have z4' := gA.cell z4 (by simp); have z5' := gA.cell z5 (by simp); have z6' := gA.cell z6 (by simp); have z7' := gA.cell z7 (by simp)
  have sA : wA.heap.size = w.heap.size + 1 := by rw [hwA]; simp
  clear z0 z1 z2 z3 z4 z5 z6 z7
  have htl : 0 < p.tail.length := List.length_pos_iff.2 ht0
  have htl2 : (0 : Int) < p.tail.length := by omega
  rw [hk] at z0'
  rw [hc0] at z6'
  obtain ⟨W3, hW3⟩ : ∃ W3, W3 = (wA.alloc (Obj.cells #[.int .i64 6, .slice la p.lead.length lcap, .bool p.mem, .slice ka p.key.length kcap, .slice xa p.text.length xcap, .slice ua p.units.length ucap, .int .i64 0, .slice qa p.tail.length qcap] 75)).alloc (Obj.cells #[.string { data := #[110, 117, 108, 108] }, .string { data := #[116, 114, 117, 101] }, .string { data := #[102, 97, 108, 115, 101] }] 9) := ⟨_, rfl⟩
  have gg : w.grownBy W3 none := by rw [hW3]; exact grown_trans gA (grown_trans (World.grownBy_alloc _ _ _) (World.grownBy_alloc _ _ _))
  have GG := hide gg
  have HT1 : Hid (∀ W : World, _) := fun W => l2text_any [123] (by intro z hz; simp at hz; omega) (by simp) W
  have HT2 : Hid (∀ W : World, _) := fun W => l2text_any [125] (by intro z hz; simp at hz; omega) (by simp) W
  have HL : Hid (∀ W : World, _) := fun W => l2leaf_any 4 W
  have HA := hide (l6after_any (.slice none 0 0) (.slice qa p.tail.length qcap) [] p.tail W3.heap.size W3 (DoR.nil _ _) (Nat.le_refl _) ((HRT.out.keep gg).wide gg.size) (by omega) (by simp))
  have hma := mess_aft p.tail
  have HMT := hide hwtt
  subst hW3 hwA
  clear gA gg HRT hwtt hwt
  go_enter Tryz.func38, Tryz.ntmps38
  go_wp2_with fail
  refine HA.out.mono ?_
  rintro e w4 ⟨v4, rfl, o4, bel4⟩
  have g4 := grown_of_below bel4
  simp only [List.nil_append] at o4
  have HR := hide (l6row_any v4 _ _ w4 o4.di (by have := g4.size; exact this) (by have := HMT.out; omega))
  have G4 := hide (grown_trans GG.out g4)
  obtain ⟨a4, c4, hv4, _, _⟩ := o4.sl
  generalize (aftP p.tail).length = L4 at hv4
  subst hv4
  clear o4 bel4 g4 HA
  go_wp2_with fail
  refine HR.out.mono ?_
  rintro e w5 ⟨v5, rfl, o5, g5⟩
  have hm5 := mes_row (aftP p.tail)
  have HN := hide (l2un_any 7 ind v5 _ _ w5 o5.pi (by have := HMT.out; omega))
  have G5 := hide (grown_trans G4.out g5)
  obtain ⟨a5, c5, hv5, _, _⟩ := o5.sl
  generalize (rowP (aftP p.tail)).length = L5 at hv5
  subst hv5
  clear o5 g5 HR
  go_wp2_with fail
  refine HN.out.mono ?_
  rintro e w6 ⟨v6, rfl, o6, g6⟩
  have G6 := hide (grown_trans G5.out g6)
  have HO6 := hide (o6.base (B' := w.heap.size) G5.out.size)
  obtain ⟨a6, c6, hv6, _, _⟩ := o6.sl
  generalize hL6 : (rowP (aftP p.tail) ++ [(⟨7, [], ind⟩ : Pc)]).length = L6 at hv6
  subst hv6
  clear o6 g6 HN
  go_wp2_with fail
  refine (HT1.out _).mono ?_
  rintro e w7 ⟨v7, rfl, o7, g7⟩
  have G7 := hide (grown_trans G6.out g7)
  have HO7 := hide (o7.base (B' := w.heap.size) G6.out.size)
  have HO6' := hide (HO6.out.keep g7)
  obtain ⟨a7, c7, hv7, _, _⟩ := o7.sl
  simp only [textP, List.length_singleton] at hv7
  subst hv7
  clear o7 g7 HT1 HO6
  go_wp2_with fail
  refine (HL.out _).mono ?_
  rintro e w8 ⟨v8, rfl, o8, g8⟩
  have G8 := hide (grown_trans G7.out g8)
  have HO8 := hide (o8.base (B' := w.heap.size) G7.out.size)
  have HO6'' := hide (HO6'.out.keep g8)
  have HO7' := hide (HO7.out.keep g8)
  obtain ⟨a8, c8, hv8, _, _⟩ := o8.sl
  simp only [leafP, List.length_singleton] at hv8
  subst hv8
  clear o8 g8 HL HO6' HO7
  go_wp2_with fail
  refine (HT2.out _).mono ?_
  rintro e w9 ⟨v9, rfl, o9, g9⟩
  have G9 := hide (grown_trans G8.out g9)
  obtain ⟨a9, c9, hv9, _, _⟩ := o9.sl
  simp only [textP, List.length_singleton] at hv9
  have hdi := di_four w.heap.size w9 _ _ _ _ _ _ _ _ G9.out.size (HO7'.out.keep g9).pi (HO6''.out.keep g9).pi (HO8.out.keep g9).pi (o9.base (B' := w.heap.size) G8.out.size).pi
  have hmm : mess [textP [123], rowP (aftP p.tail) ++ [(⟨7, [], ind⟩ : Pc)], leafP 4, textP [125]] ≤ 4194304 := by
    have := HMT.out
    simp only [mess, mes_app, textP, leafP, mes, List.length_cons, List.length_nil]; omega
  have g10 := World.grownBy_alloc w9 (Obj.cells #[.slice a7 1 c7, .slice a6 L6 c6, .slice a8 1 c8, v9] 27) none
  have HF := hide (l6row_any _ _ w.heap.size _ hdi (by have := (grown_trans G9.out g10).size; exact this) hmm)
  have G10 := hide (grown_trans G9.out g10)
  subst hv9
  clear o9 g9 HT2 HO6'' HO7' HO8 hdi g10
  go_wp2_with fail
  refine HF.out.mono ?_
  rintro e w11 ⟨v11, rfl, o11, g11⟩
  have HO11 := hide o11
  have G11 := hide (grown_trans G10.out g11)
  obtain ⟨a11, c11, hv11, _, _⟩ := o11.sl
  generalize (rowP [textP [123], rowP (aftP p.tail) ++ [(⟨7, [], ind⟩ : Pc)], leafP 4, textP [125]]).length = L11 at hv11
  subst hv11
  clear o11 g11 HF
  go_wp2
  go_ret
  exact ⟨_, rfl, HO11.out, G11.out⟩

end Go.Proofs.YtalkhnhhaiigiaaGreatDoor

