import Derived.Test.YtakkdniikhgpdaaGreatDoorMAA
import Derived.Test.YtakkdniikhgpdaaGreatDoorMAO
import Derived.Test.YtakkdniikhgpdaaGreatDoorMAR
import Derived.Test.YtakkdniikhgpdaaGreatDoorMAW
namespace Go.Proofs.YtakkdniikhgpdaaGreatDoor
open Go.RowKit
attribute [-go_sem] Builtin.append_

def txr (L : List (List Int)) : List (List Pc) := L.flatMap fun l => [textP l, leafP 5]
theorem txr_snoc (L : List (List Int)) (x : List Int) : txr (L ++ [x]) = txr L ++ [textP x] ++ [leafP 5] := by simp [txr]
theorem mess_txr (L : List (List Int)) : mess (txr L) ≤ 4 * lenL L := by
  induction L with
  | nil => simp [txr, mess]
  | cons l L ih => rw [show txr (l :: L) = [textP l, leafP 5] ++ txr L by simp [txr], mess_app]; simp only [mess, textP, leafP, mes, lenL, List.length_nil]; omega
theorem lenL_app (a b : List (List Int)) : lenL (a ++ b) = lenL a + lenL b := by
  induction a with
  | nil => simp [lenL]
  | cons l a ih => simp only [List.cons_append, lenL, ih]; omega
theorem DoR.lt {B : Nat} {w : World} {v : Value} {dss : List (List Pc)} (h : DoR B w v dss) : ∀ k, v.ownBlock = some k → B ≤ k ∧ k < w.heap.size := by
  obtain ⟨xs, ho, _⟩ := h
  exact fun k e => World.ownsRow.lt ho k e
theorem DoR.sl {B : Nat} {w : World} {v : Value} {dss : List (List Pc)} (h : DoR B w v dss) : Sl v dss.length := by
  obtain ⟨a, cap, e, h1, h2, _⟩ := h.di
  exact ⟨a, cap, e, h1, h2⟩
/-- One more document, in memory that is newer than the row. -/
theorem DoR.push {B : Nat} {w w1 : World} {v u : Value} {dss : List (List Pc)} {ds : List Pc} (hv : DoR B w v dss) (g : w.grownBy w1 none) (hu : PoR w.heap.size w1 u ds) (hB : B ≤ w.heap.size) (hn : dss.length ≤ 1000000000) :
    ∃ v' w', (Builtin.append_ #[149, 149] 149 #[v, .slice (some ⟨w1.heap.size, 0, none⟩) 1 1]).run Tryz.prog (w1.alloc (Obj.cells #[u] 138)) = .ok v' w' ∧ DoR B w' v' (dss ++ [ds]) ∧ w.grownBy w' v.ownBlock ∧ w1.grownBy w' v.ownBlock ∧ (∃ a cap, v' = .slice a (dss.length + 1) cap) ∧ ∀ x, v'.ownBlock = some x → v.ownBlock = some x ∨ w.heap.size ≤ x := by
  have g2 := World.grownBy_alloc w1 (Obj.cells #[u] 138) none
  have g2' := World.grownBy_alloc w1 (Obj.cells #[u] 138) v.ownBlock
  have hs := g.size
  obtain ⟨v', w', h1, h2, h3, h4⟩ := append_doc B (w1.alloc (Obj.cells #[u] 138)) v u w1.heap.size dss ds ((hv.keep g).keep g2) (by simp [go_sem])
    (((hu.pi.turn (Zo.on v.ownBlock hB (fun k e => .inl (hv.lt k e).2)))).keep g2) (by simp; omega) (by omega)
  have g' : w.grownBy w1 v.ownBlock := ⟨g.os, g.tape, g.output, g.size, fun k hk _ => g.block k hk (by simp)⟩
  refine ⟨v', w', h1, h2, grown_trans (grown_trans g' g2') h3, grown_trans g2' h3, ?_, fun x hx => ?_⟩
  · obtain ⟨a, cap, e, _⟩ := h2.sl
    exact ⟨a, cap, by simpa using e⟩
  · rcases h4 with h | h
    · exact .inl (by rw [← h]; exact hx)
    · rw [h] at hx; cases hx; right; simp; omega

/-- One byte more. -/
theorem bw_one (B : Nat) (w : World) (v : Value) (ys : List Int) (z : Int) (hown : Bw B w v ys) (hB : B ≤ w.heap.size) (hn : ys.length ≤ 10000000000) :
    ∃ v' w', (Builtin.append_ #[22, 22] 22 #[v, .slice (some ⟨w.heap.size, 0, none⟩) 1 1]).run Tryz.prog (w.alloc (Obj.cells #[.int .u8 z] 5)) = .ok v' w' ∧ Bw B w' v' (ys ++ [z]) ∧ w.grownBy w' v.ownBlock ∧ ∃ a cap, v' = .slice a (ys.length + 1) cap := by
  have g2 := World.grownBy_alloc w (Obj.cells #[.int .u8 z] 5) none
  have g2' := World.grownBy_alloc w (Obj.cells #[.int .u8 z] 5) v.ownBlock
  obtain ⟨v', w', h1, h2, h3, h4⟩ := bw_app B (w.alloc (Obj.cells #[.int .u8 z] 5)) v (.slice (some ⟨w.heap.size, 0, none⟩) 1 1) ys [z] (hown.keep g2)
    ⟨_, 1, rfl, fun _ => ⟨w.heap.size, 0, rfl, by simp, fun j hj => by
      have : j = 0 := by simp at hj; omega
      subst this; simp [go_sem]⟩⟩ (by simp; omega) (by simp; omega)
  obtain ⟨a, cap, e, _⟩ := h2.sl
  exact ⟨v', w', h1, h2, grown_trans g2' h3, a, cap, by simpa using e⟩

set_option maxHeartbeats 4000000 in
set_option maxRecDepth 100000 in
theorem l6comment_block (t : List Int) (tv : Value) (w : World) (hv : RdB w.heap.size w tv t) (hs : Sl tv t.length) (hn : t.length ≤ 1000000) :
    Calls Tryz.prog 103 #[.agg #[.bool true, tv]] w fun e w' => ∃ v', e = .returned v' ∧ PoR w.heap.size w' v' (rowP (rawR (spl [] (47 :: 42 :: t ++ [42, 47])))) ∧ w.grownBy w' none := by
  obtain ⟨a, cap, htv, hc1, hc2⟩ := hs
  subst htv
  obtain ⟨W, hW⟩ : ∃ W, W = w.alloc (Obj.cells #[.bool true, .slice a t.length cap] 127) := ⟨_, rfl⟩
  have gW : w.grownBy W none := by rw [hW]; exact World.grownBy_alloc _ _ _
  have sW : W.heap.size = w.heap.size + 1 := by rw [hW]; simp
  have kc := Lib.run_convert_bytes_const (P := Tryz.prog) W 22 5 #[.int .u8 47, .int .u8 42] 2 2 Tryz.underlying22 Tryz.underlying5
  obtain ⟨W2, hW2⟩ : ∃ W2, W2 = W.alloc (Obj.cells #[.int .u8 47, .int .u8 42] 5 (2, 3)) := ⟨_, rfl⟩
  have gW2 : W.grownBy W2 none := by rw [hW2]; exact World.grownBy_alloc _ _ _
  have hb2 : Bw W.heap.size W2 (.slice (some ⟨W.heap.size, 0, none⟩) 2 2) [47, 42] := by rw [hW2]; exact bw_lit2 W 47 42
  have cc1 : W.cell? ⟨w.heap.size, 1, none⟩ = some (.slice a t.length cap) := by rw [hW]; simp [go_sem]
  have HB2 : Hid (Bw W.heap.size W2 (.slice (some ⟨w.heap.size + 1, 0, none⟩) 2 2) [47, 42]) := by unfold Hid; rw [← sW]; exact hb2
  rw [sW] at kc
  have GW := hide gW
  have GW2 := hide gW2
  have HV := hide hv
  have HC1 := hide cc1
  have hkc : (convert 22 22 (.slice (some ⟨w.heap.size + 1, 0, none⟩) 2 2)).run Tryz.prog (W.alloc (Obj.cells #[.int .u8 47, .int .u8 42] 5)) = .ok (.slice (some ⟨w.heap.size + 1, 0, none⟩) 2 2) W2 := by rw [hW2]; exact kc
  rw [hW] at hkc
  clear kc hb2 cc1 hv gW gW2 hW2
  go_enter Tryz.func103, Tryz.ntmps103
  go_wp2
  go_loopw [3, 4, 5] (fun rv pv i U => ∃ (k : Nat) (W0 : World) (L : List (List Int)) (cur : List Int), k ≤ t.length ∧ i = .int .i64 k ∧ W.grownBy W0 none ∧ W0.grownBy U none ∧ DoR W.heap.size W0 rv (txr L) ∧ Bw W0.heap.size U pv cur ∧ spl [47, 42] (t ++ [42, 47]) = L ++ spl cur (t.drop k ++ [42, 47]))
    (fun _ _ i _ => t.length - (intOf i).toNat)
  case atStart => exact ⟨0, W, [], [47, 42], Nat.zero_le _, rfl, World.grownBy.refl _ _, GW2.out, DoR.nil _ _, HB2.out, by simp⟩
  case round =>
    obtain ⟨k, W0, L, cur, hk, rfl, g0, gU, ho, hb, hsp⟩ := hrel
    have gWr := grown_trans g0 gU
    have hc1' := gWr.cell HC1.out (by simp)
    have HSP := hide hsp
    have HO := hide ho
    have HB := hide hb
    have G0 := hide g0
    have GU := hide gU
    have hlen : lenL L + cur.length + (t.length - k) ≤ t.length + 10 := by
      have h1 := congrArg lenL hsp
      rw [spl_lenL, lenL_app, spl_lenL] at h1
      simp only [List.length_append, List.length_cons, List.length_nil, List.length_drop] at h1
      omega
    have hml := mess_txr L
    have hmll := mess_len (txr L)
    obtain ⟨ra, rc, hrv, _, _⟩ := ho.sl
    obtain ⟨pa, pc, hpv, _, _⟩ := hb.sl
    subst hrv hpv
    clear hsp ho hb g0 gU
    by_cases hlt : k < t.length
    · have hdr : t.drop k = (t[k]?.getD 0) :: t.drop (k + 1) := by rw [List.drop_eq_getElem_cons hlt]; simp [hlt]
      obtain ⟨a', cap', e, hr⟩ := (HV.out.keep GW.out).keep gWr
      simp only [Value.slice.injEq, true_and] at e
      obtain ⟨rfl, rfl⟩ := e
      obtain ⟨b, off, rfl, hbb, hc⟩ := hr (fun e => by rw [e] at hlt; simp at hlt)
      have hck := hc k hlt
      have HDR := hide hdr
      clear hr hc hdr
      generalize t[k]?.getD 0 = p at *
      by_cases hp : p = 10
      · subst hp
        have hoW : DoR W.heap.size wr (.slice ra (txr L).length rc) (txr L) := HO.out.keep GU.out
        have hWz := gWr.size
        have HC := hide (l6text_any (.slice pa cur.length pc) cur wr HB.out.rd (by omega))
        have HW := hide hoW
        clear hoW
        go_wp2_with fail
        refine HC.out.mono ?_
        rintro e w1 ⟨v1, rfl, o1, g1⟩
        obtain ⟨v2, w2, run2, o2, g2, g2', ⟨a2, c2, hv2⟩, h2⟩ := HW.out.push g1 o1 (by omega) (by omega)
        obtain ⟨a1, c1, hv1, _, _⟩ := o1.sl
        have gW2' : W.grownBy w2 none := grown_new gWr g2 (fun j e => (HO.out.lt j e).1)
        have hWz2 := gW2'.size
        have HO2 := hide o2
        have HX := hide (l2leaf_any 5 w2)
        have hlt2 : ∀ x, v2.ownBlock = some x → W.heap.size ≤ x := fun x e => (o2.lt x e).1
        have HL2 := hide hlt2
        have GW2' := hide gW2'
        subst hv1 hv2
        clear HC o1 o2 g1 g2 g2' h2 hlt2 gW2'
        go_wp2_with fail
        refine HX.out.mono ?_
        rintro e w3 ⟨v3, rfl, o3, g3⟩
        obtain ⟨v4, w4, run4, o4, g4, _, ⟨a4, c4, hv4⟩, _⟩ := HO2.out.push g3 o3 (by omega) (by simp; omega)
        obtain ⟨a3, c3, hv3, _, _⟩ := o3.sl
        have HG4 := hide (grown_new GW2'.out g4 HL2.out)
        have HO4 : Hid (DoR W.heap.size w4 v4 (txr (L ++ [cur]))) := by unfold Hid; rw [txr_snoc]; exact o4
        have HS4 : Hid (spl [47, 42] (t ++ [42, 47]) = (L ++ [cur]) ++ spl [] (t.drop (k + 1) ++ [42, 47])) := by
          unfold Hid
          rw [HSP.out, HDR.out, List.cons_append, spl, if_pos rfl]
          simp
        have hll : (txr L ++ [textP cur]).length + 1 = (txr L).length + 1 + 1 := by simp
        rw [hll] at hv4
        subst hv3 hv4
        clear HX o3 o4 g3 g4 HO2 HSP HDR HW
        go_wp2
        go_roundw
        case rel => exact ⟨k + 1, w4, L ++ [cur], [], by omega, by go_num, HG4.out, World.grownBy.refl _ _, HO4.out, Bw.nil _ _, HS4.out⟩
        case measure => simp [intOf]; omega
      · obtain ⟨v2, w2, run2, o2, g2, a2, c2, hv2⟩ := bw_one W0.heap.size wr (.slice pa cur.length pc) cur p HB.out GU.out.size (by omega)
        have HG2 := hide (grown_new GU.out g2 (fun j e => (HB.out.lt j e).1))
        have HO2 := hide o2
        have HS2 : Hid (spl [47, 42] (t ++ [42, 47]) = L ++ spl (cur ++ [p]) (t.drop (k + 1) ++ [42, 47])) := by
          unfold Hid
          rw [HSP.out, HDR.out, List.cons_append, spl, if_neg hp]
        subst hv2
        clear o2 g2 HSP HDR
        go_wp2
        go_roundw
        case rel => exact ⟨k + 1, W0, L, cur ++ [p], by omega, by go_num, G0.out, HG2.out, HO.out, HO2.out, HS2.out⟩
        case measure => simp [intOf]; omega
    · have hkn : t.drop k = [] := List.drop_of_length_le (by omega)
      have hsp : spl [] (47 :: 42 :: t ++ [42, 47]) = L ++ [cur ++ [42, 47]] := by
        have h1 := HSP.out
        rw [hkn] at h1
        rw [show (47 :: 42 :: t ++ [42, 47] : List Int) = 47 :: 42 :: (t ++ [42, 47]) by simp, spl, if_neg (by omega), spl, if_neg (by omega)]
        simpa [spl] using h1
      have HSE := hide (show rawR (spl [] (47 :: 42 :: t ++ [42, 47])) = txr L ++ [textP (cur ++ [42, 47])] by rw [hsp, raw_flat]; rfl)
      obtain ⟨v2, w2, run2, o2, g2⟩ := bw_str W0.heap.size wr (.slice pa cur.length pc) cur [42, 47] HB.out (by intro z hz; simp at hz; omega) (by simp) GU.out.size (by simp; omega)
      rw [show strOfNums [42, 47] = { data := #[42, 47] } by rfl] at run2
      have G02 := grown_new GU.out g2 (fun j e => (HB.out.lt j e).1)
      have HC := hide (l6text_any v2 _ w2 o2.rd (by simp; omega))
      have HW := hide (HO.out.keep G02)
      have GW02 := hide (grown_trans G0.out G02)
      have hWz := GW02.out.size
      obtain ⟨a2, c2, hv2, _, _⟩ := o2.sl
      have hl2 : (cur ++ ([42, 47] : List Int)).length = cur.length + 2 := by simp
      rw [hl2] at hv2
      clear hl2
      subst hv2
      clear o2 g2 hsp hkn
      go_wp2_with fail
      refine HC.out.mono ?_
      rintro e w3 ⟨v3, rfl, o3, g3⟩
      obtain ⟨v4, w4, run4, o4, g4, _, ⟨a4, c4, hv4⟩, _⟩ := HW.out.push g3 o3 (by omega) (by omega)
      obtain ⟨a3, c3, hv3, _, _⟩ := o3.sl
      have gW4 := grown_new GW02.out g4 (fun j e => (HO.out.lt j e).1)
      have hWz4 := gW4.size
      have hwW : w.heap.size ≤ W.heap.size := GW.out.size
      have HR := hide (l6row_any v4 _ W.heap.size w4 o4.di hWz4 (by rw [mess_app]; simp only [mess, textP, mes, List.length_append, List.length_cons, List.length_nil]; omega))
      have GW4 := hide (grown_trans GW.out gW4)
      subst hv3 hv4
      clear HC o3 o4 g3 g4 HW gW4
      go_wp2_with fail
      refine HR.out.mono ?_
      rintro e w5 ⟨v5, rfl, o5, g5⟩
      obtain ⟨a5, c5, hv5, _, _⟩ := o5.sl
      have HO5 := hide (o5.base hwW)
      have HG5 := hide (grown_trans GW4.out g5)
      generalize (rowP (txr L ++ [textP (cur ++ [42, 47])])).length = L5 at *
      subst hv5
      clear o5 g5 HR
      go_wp2
      go_ret
      refine ⟨_, rfl, ?_, HG5.out⟩
      have hfin := HO5.out
      rw [← HSE.out] at hfin
      exact hfin
end Go.Proofs.YtakkdniikhgpdaaGreatDoor

namespace Go.Proofs.YtakkdniikhgpdaaGreatDoor
open Go.RowKit
attribute [-go_sem] Builtin.append_

theorem l6comment_any (c : Cm) (tv : Value) (w : World) (hv : RdB w.heap.size w tv c.t) (hs : Sl tv c.t.length) (hn : c.t.length ≤ 1000000) :
    Calls Tryz.prog 103 #[.agg #[.bool c.b, tv]] w fun e w' => ∃ v', e = .returned v' ∧ PoR w.heap.size w' v' (comP' c) ∧ w.grownBy w' none := by
  obtain ⟨b, t⟩ := c
  cases b with
  | false => exact l6comment_line t tv w hv hs (Nat.le_trans hn (by omega))
  | true => exact l6comment_block t tv w hv hs hn

theorem wC_mem (cs : List Cm) : ∀ c ∈ cs, 4 * c.t.length + 30 ≤ wC cs := by
  induction cs with
  | nil => simp
  | cons d cs ih =>
    intro c hc
    simp only [wC]
    rcases List.mem_cons.1 hc with rfl | h
    · omega
    · have := ih c h; omega
theorem wC_len (cs : List Cm) : 30 * cs.length ≤ wC cs := by
  induction cs with
  | nil => simp
  | cons d cs ih => simp only [wC, List.length_cons]; omega
theorem mess_take (cs : List Cm) (k : Nat) : mess (befP (cs.take k)) ≤ wC cs ∧ mess (aftP (cs.take k)) ≤ wC cs := by
  have h : wC (cs.take k) ≤ wC cs := by
    have h2 : ∀ (a b : List Cm), wC (a ++ b) = wC a + wC b := by
      intro a b
      induction a with
      | nil => simp [wC]
      | cons c a ih => simp only [List.cons_append, wC, ih]; omega
    have h3 := h2 (cs.take k) (cs.drop k)
    rw [List.take_append_drop] at h3
    omega
  exact ⟨Nat.le_trans (mess_bef _) h, Nat.le_trans (mess_aft _) h⟩

theorem rdB_below {q : IntKind} {B : Nat} {w w' : World} {v : Value} {zs : List Int} (h : Rd q B w v zs) (g : Below B w w') (hB : B ≤ w.heap.size) : Rd q w'.heap.size w' v zs := by
  obtain ⟨a, cap, e, hr⟩ := h
  refine ⟨a, cap, e, fun h0 => ?_⟩
  obtain ⟨b, off, ha, hb, hc⟩ := hr h0
  have := g.size
  exact ⟨b, off, ha, by omega, fun j hj => by rw [g.cell (by simpa using hb)]; exact hc j hj⟩
theorem rdC_below {B : Nat} {w w' : World} {v : Value} {cs : List Cm} (h : RdC B w v cs) (g : Below B w w') : RdC B w' v cs := by
  obtain ⟨a, cap, hv, h1, h2, hh⟩ := h
  refine ⟨a, cap, hv, h1, h2, fun h0 => ?_⟩
  obtain ⟨b, off, ha, hb, hc⟩ := hh h0
  refine ⟨b, off, ha, hb, fun j p hp => ?_⟩
  obtain ⟨tv, c0, c1, ⟨a2, cap2, e2, hr2⟩, hs⟩ := hc j p hp
  refine ⟨tv, by rw [g.cell (by simpa using hb)]; exact c0, by rw [g.cell (by simpa using hb)]; exact c1, ⟨a2, cap2, e2, fun h3 => ?_⟩, hs⟩
  obtain ⟨b2, off2, ha2, hb2, hc2⟩ := hr2 h3
  exact ⟨b2, off2, ha2, hb2, fun j hj => by rw [g.cell (by simpa using hb2)]; exact hc2 j hj⟩

set_option maxHeartbeats 4000000 in
set_option maxRecDepth 100000 in
theorem l6before_any (rv cv : Value) (dss : List (List Pc)) (cs : List Cm) (B : Nat) (w : World) (ho : DoR B w rv dss) (hB : B ≤ w.heap.size) (hc : RdC B w cv cs) (hn : wC cs ≤ 4000000) (hd : dss.length ≤ 100000000) :
    Calls Tryz.prog 100 #[rv, cv] w fun e w' => ∃ v', e = .returned v' ∧ DoR B w' v' (dss ++ befP cs) ∧ Below B w w' := by
  have HRC := hide hc
  have hwl := wC_len cs
  obtain ⟨a, cap, hcv, _, _, _⟩ := id hc
  obtain ⟨ra0, rc0, hrv, _, _⟩ := ho.sl
  have HO0 := hide ho
  subst hcv hrv
  clear hc ho
  go_enter Tryz.func100, Tryz.ntmps100
  go_wp2
  go_loopw [0, 5] (fun r i W => ∃ (k : Nat), k ≤ cs.length ∧ i = .int .i64 k ∧ DoR B W r (dss ++ befP (cs.take k)) ∧ Below B w W)
    (fun _ i _ => cs.length - (intOf i).toNat)
  case atStart => exact ⟨0, Nat.zero_le _, rfl, by simpa [befP] using HO0.out, Below.refl _ _⟩
  case round =>
    obtain ⟨k, hk, rfl, ho, hbel⟩ := hrel
    have hsz := hbel.size
    have HRr : RdC B wr (.slice a cs.length cap) cs := by
      have hg : wr.heap.size = wr.heap.size := rfl
      exact rdC_below HRC.out hbel
    obtain ⟨ra, rc, hrv, _, _⟩ := ho.sl
    by_cases hlt : k < cs.length
    · obtain ⟨b, off, cap', tv, hva, hbb, c0, c1, hrd, hsl⟩ := HRr.at k hlt
      cases hva
      have hm := wC_mem cs cs[k] (List.getElem_mem hlt)
      have hml := (mess_take cs k).1
      have hlen : (dss ++ befP (cs.take k)).length ≤ 200000000 := by have := mess_len (befP (cs.take k)); rw [List.length_append]; omega
      have HC : Hid (∀ W : World, Below B wr W → _) := fun W (g : Below B wr W) => l6comment_any cs[k] tv W (rdB_below hrd g (by omega)) hsl (by omega)
      have HL : Hid (∀ W : World, _) := fun W => l2leaf_any 4 W
      obtain ⟨ta, tc, htv, _, _⟩ := hsl
      have HE : Hid (dss ++ befP (cs.take (k + 1)) = (dss ++ befP (cs.take k)) ++ [comP' cs[k]] ++ [leafP 4]) := by
        unfold Hid
        rw [show cs.take (k + 1) = cs.take k ++ [cs[k]] by rw [List.take_add_one]; simp [hlt], befP_snoc]
        simp
      have HO := hide ho
      have HBEL := hide hbel
      generalize hLL : (dss ++ befP (cs.take k)).length = LL at *
      subst htv hrv
      clear hrd ho HRr hbel
      have hLB : ∀ x, (Value.slice ra LL rc).ownBlock = some x → B ≤ x := fun x e => (HO.out.lt x e).1
      generalize cs[k] = c at *
      go_wp2_with fail
      refine (HC.out _ (Below.refl _ _)).mono ?_
      rintro e w1 ⟨v1, rfl, o1, g1⟩
      obtain ⟨v2, w2, run2, o2, g2, g2', ⟨a2, c2, hv2⟩, h2⟩ := HO.out.push g1 o1 (by omega) (by omega)
      obtain ⟨a1, c1', hv1, _, _⟩ := o1.sl
      have hbel2 : Below B wr w2 := (Below.refl B wr).grown g2 (by omega) hLB
      have hsz2 := hbel2.size
      have c0' : w2.cell? ⟨b, off + k * 2, none⟩ = some (.bool c.b) := by rw [hbel2.cell (by simp; omega)]; exact c0
      have c1'' : w2.cell? ⟨b, off + k * 2 + 1, none⟩ = some (.slice ta c.t.length tc) := by rw [hbel2.cell (by simp; omega)]; exact c1
      have HB2 := hide hbel2
      have HO2 := hide o2
      rw [hLL] at hv2
      have HL2 : Hid (∀ x, v2.ownBlock = some x → B ≤ x) := fun x e => (o2.lt x e).1
      subst hv1 hv2
      clear o1 o2 g1 g2 g2' h2 hbel2
      go_wp2_with fail
      refine (HL.out _).mono ?_
      rintro e w3 ⟨v3, rfl, o3, g3⟩
      obtain ⟨v4, w4, run4, o4, g4, _, ⟨a4, c4, hv4⟩, _⟩ := HO2.out.push g3 o3 (by omega) (by rw [List.length_append, hLL]; simp; omega)
      obtain ⟨a3, c3, hv3, _, _⟩ := o3.sl
      rw [List.length_append, hLL, List.length_singleton] at hv4
      have HB4 := hide (HBEL.out.trans (HB2.out.trans ((Below.refl B w2).grown g4 (by omega) HL2.out)))
      have HO4 : Hid (DoR B w4 v4 (dss ++ befP (cs.take (k + 1)))) := by unfold Hid; rw [HE.out]; exact o4
      subst hv3 hv4
      clear o3 o4 g3 g4 HE HO2 HO HC HL hLL c0 c1 c0' c1''
      go_wp2
      go_roundw
      case rel => exact ⟨k + 1, by omega, by go_num, HO4.out, HB4.out⟩
      case measure => simp [intOf]; omega
    · have hkn : k = cs.length := by omega
      subst hkn
      rw [List.take_length] at ho hrv
      have HO := hide ho
      subst hrv
      clear ho HRr
      generalize (dss ++ befP cs).length = LL at *
      go_wp2
      go_ret
      exact ⟨_, rfl, HO.out, hbel⟩

set_option maxHeartbeats 4000000 in
set_option maxRecDepth 100000 in
theorem l6after_any (rv cv : Value) (dss : List (List Pc)) (cs : List Cm) (B : Nat) (w : World) (ho : DoR B w rv dss) (hB : B ≤ w.heap.size) (hc : RdC B w cv cs) (hn : wC cs ≤ 4000000) (hd : dss.length ≤ 100000000) :
    Calls Tryz.prog 96 #[rv, cv] w fun e w' => ∃ v', e = .returned v' ∧ DoR B w' v' (dss ++ aftP cs) ∧ Below B w w' := by
  have HRC := hide hc
  have hwl := wC_len cs
  obtain ⟨a, cap, hcv, _, _, _⟩ := id hc
  obtain ⟨ra0, rc0, hrv, _, _⟩ := ho.sl
  have HO0 := hide ho
  subst hcv hrv
  clear hc ho
  go_enter Tryz.func96, Tryz.ntmps96
  go_wp2
  go_loopw [0, 5] (fun r i W => ∃ (k : Nat), k ≤ cs.length ∧ i = .int .i64 k ∧ DoR B W r (dss ++ aftP (cs.take k)) ∧ Below B w W)
    (fun _ i _ => cs.length - (intOf i).toNat)
  case atStart => exact ⟨0, Nat.zero_le _, rfl, by simpa [aftP] using HO0.out, Below.refl _ _⟩
  case round =>
    obtain ⟨k, hk, rfl, ho, hbel⟩ := hrel
    have hsz := hbel.size
    have HRr : RdC B wr (.slice a cs.length cap) cs := by
      have hg : wr.heap.size = wr.heap.size := rfl
      exact rdC_below HRC.out hbel
    obtain ⟨ra, rc, hrv, _, _⟩ := ho.sl
    by_cases hlt : k < cs.length
    · obtain ⟨b, off, cap', tv, hva, hbb, c0, c1, hrd, hsl⟩ := HRr.at k hlt
      cases hva
      have hm := wC_mem cs cs[k] (List.getElem_mem hlt)
      have hml := (mess_take cs k).2
      have hlen : (dss ++ aftP (cs.take k)).length ≤ 200000000 := by have := mess_len (aftP (cs.take k)); rw [List.length_append]; omega
      have HC : Hid (∀ W : World, Below B wr W → _) := fun W (g : Below B wr W) => l6comment_any cs[k] tv W (rdB_below hrd g (by omega)) hsl (by omega)
      have HL : Hid (∀ W : World, _) := fun W => l2leaf_any 4 W
      obtain ⟨ta, tc, htv, _, _⟩ := hsl
      have HE : Hid (dss ++ aftP (cs.take (k + 1)) = (dss ++ aftP (cs.take k)) ++ [leafP 4] ++ [comP' cs[k]]) := by
        unfold Hid
        rw [show cs.take (k + 1) = cs.take k ++ [cs[k]] by rw [List.take_add_one]; simp [hlt], aftP_snoc]
        simp
      have HO := hide ho
      have HBEL := hide hbel
      generalize hLL : (dss ++ aftP (cs.take k)).length = LL at *
      subst htv hrv
      clear hrd ho HRr hbel
      have hLB : ∀ x, (Value.slice ra LL rc).ownBlock = some x → B ≤ x := fun x e => (HO.out.lt x e).1
      generalize cs[k] = c at *
      go_wp2_with fail
      refine (HL.out _).mono ?_
      rintro e w1 ⟨v1, rfl, o1, g1⟩
      obtain ⟨v2, w2, run2, o2, g2, g2', ⟨a2, c2, hv2⟩, h2⟩ := HO.out.push g1 o1 (by omega) (by omega)
      obtain ⟨a1, c1', hv1, _, _⟩ := o1.sl
      have hbel2 : Below B wr w2 := (Below.refl B wr).grown g2 (by omega) hLB
      have hsz2 := hbel2.size
      have c0' : w2.cell? ⟨b, off + k * 2, none⟩ = some (.bool c.b) := by rw [hbel2.cell (by simp; omega)]; exact c0
      have c1'' : w2.cell? ⟨b, off + k * 2 + 1, none⟩ = some (.slice ta c.t.length tc) := by rw [hbel2.cell (by simp; omega)]; exact c1
      have HB2 := hide hbel2
      have HO2 := hide o2
      rw [hLL] at hv2
      have HL2 : Hid (∀ x, v2.ownBlock = some x → B ≤ x) := fun x e => (o2.lt x e).1
      subst hv1 hv2
      clear o1 o2 g1 g2 g2' h2 hbel2
      go_wp2_with fail
      refine (HC.out _ HB2.out).mono ?_
      rintro e w3 ⟨v3, rfl, o3, g3⟩
      obtain ⟨v4, w4, run4, o4, g4, _, ⟨a4, c4, hv4⟩, _⟩ := HO2.out.push g3 o3 (by omega) (by rw [List.length_append, hLL]; simp; omega)
      obtain ⟨a3, c3, hv3, _, _⟩ := o3.sl
      rw [List.length_append, hLL, List.length_singleton] at hv4
      have HB4 := hide (HBEL.out.trans (HB2.out.trans ((Below.refl B w2).grown g4 (by omega) HL2.out)))
      have HO4 : Hid (DoR B w4 v4 (dss ++ aftP (cs.take (k + 1)))) := by unfold Hid; rw [HE.out]; exact o4
      subst hv3 hv4
      clear o3 o4 g3 g4 HE HO2 HO HC HL hLL c0 c1 c0' c1''
      go_wp2
      go_roundw
      case rel => exact ⟨k + 1, by omega, by go_num, HO4.out, HB4.out⟩
      case measure => simp [intOf]; omega
    · have hkn : k = cs.length := by omega
      subst hkn
      rw [List.take_length] at ho hrv
      have HO := hide ho
      subst hrv
      clear ho HRr
      generalize (dss ++ aftP cs).length = LL at *
      go_wp2
      go_ret
      exact ⟨_, rfl, HO.out, hbel⟩

end Go.Proofs.YtakkdniikhgpdaaGreatDoor

namespace Go.Proofs.YtakkdniikhgpdaaGreatDoor
open Go.RowKit

set_option maxHeartbeats 1000000 in
theorem l4letter_any (p : Int) (w : World) : Calls Tryz.prog 89 #[.int .i64 p] w fun e w' => e = .returned (.bool (isLet p)) ∧ w = w' := by
  by_cases h : isLet p = true
  · have HI : Hid (isLet p = true) := h
    have h' : (97 ≤ p ∧ p ≤ 122) ∨ (65 ≤ p ∧ p ≤ 90) ∨ p = 95 ∨ p = 36 := by simpa [isLet] using h
    clear h
    rcases h' with ⟨h1, h2⟩ | ⟨h1, h2⟩ | rfl | rfl
    · have h3 : ¬ p ≤ 90 := by omega
      have h4 : 65 ≤ p := by omega
      go_enter Tryz.func89, Tryz.ntmps89
      go_wp2
      go_ret
      exact ⟨by rw [HI.out]; rfl, rfl⟩
    · have h3 : ¬ 97 ≤ p := by omega
      go_enter Tryz.func89, Tryz.ntmps89
      go_wp2
      go_ret
      exact ⟨by rw [HI.out]; rfl, rfl⟩
    all_goals
      go_enter Tryz.func89, Tryz.ntmps89
      go_wp2
      go_ret
      exact ⟨rfl, rfl⟩
  · have HI : Hid (isLet p = false) := by simpa [Hid] using h
    have h' : ¬ ((97 ≤ p ∧ p ≤ 122) ∨ (65 ≤ p ∧ p ≤ 90) ∨ p = 95 ∨ p = 36) := by simpa [isLet] using h
    clear h
    have h95 : (p == 95) = false := by simp; omega
    have h36 : (p == 36) = false := by simp; omega
    by_cases h1 : 65 ≤ p
    · have h2 : ¬ p ≤ 90 := by omega
      by_cases h3 : 97 ≤ p
      · have h4 : ¬ p ≤ 122 := by omega
        clear h'
        go_enter Tryz.func89, Tryz.ntmps89
        go_wp2
        go_ret
        exact ⟨by rw [HI.out]; rfl, rfl⟩
      · clear h'
        go_enter Tryz.func89, Tryz.ntmps89
        go_wp2
        go_ret
        exact ⟨by rw [HI.out]; rfl, rfl⟩
    · have h3 : ¬ 97 ≤ p := by omega
      clear h'
      go_enter Tryz.func89, Tryz.ntmps89
      go_wp2
      go_ret
      exact ⟨by rw [HI.out]; rfl, rfl⟩

end Go.Proofs.YtakkdniikhgpdaaGreatDoor

namespace Go.Proofs.YtakkdniikhgpdaaGreatDoor
open Go.RowKit

set_option maxHeartbeats 400000 in
theorem l4digit_any (p : Int) (w : World) : Calls Tryz.prog 90 #[.int .i64 p] w fun e w' => e = .returned (.bool (isDig p)) ∧ w = w' := by
  by_cases h0 : 48 ≤ p
  · by_cases h1 : p ≤ 57
    · have HI : Hid (isDig p = true) := by simp [Hid, isDig, h0, h1]
      go_enter Tryz.func90, Tryz.ntmps90
      go_wp2
      go_ret
      exact ⟨by rw [HI.out]; rfl, rfl⟩
    · have HI : Hid (isDig p = false) := by simp [Hid, isDig]; omega
      go_enter Tryz.func90, Tryz.ntmps90
      go_wp2
      go_ret
      exact ⟨by rw [HI.out]; rfl, rfl⟩
  · have HI : Hid (isDig p = false) := by simp [Hid, isDig]; omega
    go_enter Tryz.func90, Tryz.ntmps90
    go_wp2
    go_ret
    exact ⟨by rw [HI.out]; rfl, rfl⟩

end Go.Proofs.YtakkdniikhgpdaaGreatDoor

namespace Go.Proofs.YtakkdniikhgpdaaGreatDoor
open Go.RowKit

set_option maxHeartbeats 1000000 in
set_option maxRecDepth 100000 in
theorem specIsName_any (v : Value) (zs : List Int) (w : World) (hv : RdI w.heap.size w v zs) (hn : zs.length ≤ 2097152) :
    Calls Tryz.prog 79 #[v] w fun e w' => e = .returned (.bool (nmR zs)) ∧ w = w' := by
  obtain ⟨a, cap, rfl, hr⟩ := hv
  have hnot : ∀ (x : Bool) (w : World), (Op.unary .not (.bool x)).run Tryz.prog w = .ok (.bool (!x)) w := fun _ _ => rfl
  go_enter Tryz.func79, Tryz.ntmps79
  go_wp2
  go_loopw [3] (fun i wr => ∃ k : Nat, k ≤ zs.length ∧ i = .int .i64 k ∧ nmUp zs k = true ∧ w = wr)
    (fun i _ => zs.length - (intOf i).toNat)
  case atStart => exact ⟨0, Nat.zero_le _, rfl, rfl, rfl⟩
  case round =>
    obtain ⟨k, hk, rfl, hall, rfl⟩ := hrel
    by_cases hlt : k < zs.length
    · obtain ⟨b, off, rfl, hb, hc⟩ := hr (fun h => by simp [h] at hlt)
      have hcx := hc k hlt
      have hal := hide (nmUp_snoc zs k hall)
      have han := hide (nmR_not zs k hlt)
      generalize zs[k]?.getD 0 = p at hcx hal han
      clear hc hr
      cases h1 : isLet p
      · by_cases hk0 : k = 0
        · have hk1 : ((k : Int) == 0) = true := by simp [hk0]
          have HF : Hid (nmR zs = false) := han.out (by simp [nmAt, h1, hk0])
          have HK := hide hk0
          clear hal han hk0
          go_wp2_with (first
            | (go_at_call 89; refine (l4letter_any _ _).mono ?_; rintro e w' ⟨rfl, rfl⟩; rw [h1]))
          go_ret
          exact ⟨by rw [HF.out]; rfl, rfl⟩
        · have hk1 : ((k : Int) == 0) = false := by simp; omega
          cases h2 : isDig p
          · have HF : Hid (nmR zs = false) := han.out (by simp [nmAt, h1, h2])
            clear hal han
            go_wp2_with (first
              | (go_at_call 89; refine (l4letter_any _ _).mono ?_; rintro e w' ⟨rfl, rfl⟩; rw [h1])
              | (go_at_call 90; refine (l4digit_any _ _).mono ?_; rintro e w' ⟨rfl, rfl⟩; rw [h2]))
            go_ret
            exact ⟨by rw [HF.out]; rfl, rfl⟩
          · have HT : Hid (nmUp zs (k + 1) = true) := hal.out (by simp [nmAt, h1, h2, hk0])
            clear hal han
            go_wp2_with (first
              | (go_at_call 89; refine (l4letter_any _ _).mono ?_; rintro e w' ⟨rfl, rfl⟩; rw [h1])
              | (go_at_call 90; refine (l4digit_any _ _).mono ?_; rintro e w' ⟨rfl, rfl⟩; rw [h2]))
            go_roundw
            case rel => exact ⟨k + 1, by omega, by go_num, HT.out, trivial⟩
            case measure => simp [intOf]; omega
      · have HT : Hid (nmUp zs (k + 1) = true) := hal.out (by simp [nmAt, h1])
        clear hal han
        go_wp2_with (first
          | (go_at_call 89; refine (l4letter_any _ _).mono ?_; rintro e w' ⟨rfl, rfl⟩; rw [h1]))
        go_roundw
        case rel => exact ⟨k + 1, by omega, by go_num, HT.out, trivial⟩
        case measure => simp [intOf]; omega
    · have hkn : k = zs.length := by omega
      rw [hkn] at hall
      have HF : Hid (nmR zs = decide (0 < zs.length)) := nmR_yes zs hall
      have HG : Hid (decide ((0 : Int) < (zs.length : Int)) = decide (0 < zs.length)) := by simp [Hid]
      clear hr hall hkn
      go_wp2
      go_ret
      exact ⟨by rw [HF.out, ← HG.out]; rfl, rfl⟩

end Go.Proofs.YtakkdniikhgpdaaGreatDoor

namespace Go.Proofs.YtakkdniikhgpdaaGreatDoor
open Go.RowKit
attribute [-go_sem] Builtin.append_

set_option maxHeartbeats 4000000 in
set_option maxRecDepth 100000 in
theorem l4ascii_any (v : Value) (zs : List Int) (w : World) (hv : RdI w.heap.size w v zs) (hz : ∀ z ∈ zs, 0 ≤ z ∧ z < 128) (hn : zs.length ≤ 1048576) :
    Calls Tryz.prog 80 #[v] w fun e w' => ∃ v', e = .returned v' ∧ Bw w.heap.size w' v' zs ∧ w.grownBy w' none := by
  have HV := hide hv
  obtain ⟨a, cap, hv0, _⟩ := id hv
  subst hv0
  clear hv
  go_enter Tryz.func80, Tryz.ntmps80
  go_wp2
  go_loopw [3, 4] (fun o i W => ∃ (k : Nat), k ≤ zs.length ∧ i = .int .i64 k ∧ Bw w.heap.size W o (zs.take k) ∧ w.grownBy W none)
    (fun _ i _ => zs.length - (intOf i).toNat)
  case atStart => exact ⟨0, Nat.zero_le _, rfl, Bw.nil _ _, World.grownBy.refl _ _⟩
  case round =>
    obtain ⟨k, hk, rfl, ho, hg⟩ := hrel
    have hlk : (zs.take k).length = k := by simp; omega
    obtain ⟨oa, oc, hov, _, _⟩ := ho.sl
    rw [hlk] at hov
    by_cases hlt : k < zs.length
    · obtain ⟨a', cap', e, hr⟩ := HV.out.keep hg
      simp only [Value.slice.injEq, true_and] at e
      obtain ⟨rfl, rfl⟩ := e
      obtain ⟨b, off, rfl, hbb, hc⟩ := hr (fun e => by rw [e] at hlt; simp at hlt)
      have hck := hc k hlt
      have hpz : 0 ≤ zs[k]?.getD 0 ∧ zs[k]?.getD 0 < 128 := by rw [List.getElem?_eq_getElem hlt]; exact hz _ (List.getElem_mem hlt)
      have HT := hide (take_snoc zs k hlt)
      have HO := hide ho
      subst hov
      clear hr hc ho
      generalize zs[k]?.getD 0 = p at *
      obtain ⟨v2, w2, run2, o2, g2, a2, c2, hv2⟩ := bw_one w.heap.size wr (.slice oa k oc) (zs.take k) p HO.out hg.size (by omega)
      rw [hlk] at hv2
      have HO2 : Hid (Bw w.heap.size w2 v2 (zs.take (k + 1))) := by unfold Hid; rw [HT.out]; exact o2
      have HG2 := hide (grown_new hg g2 (fun j e => (HO.out.lt j e).1))
      subst hv2
      clear o2 g2 HT
      go_wp2
      go_roundw
      case rel => exact ⟨k + 1, by omega, by go_num, HO2.out, HG2.out⟩
      case measure => simp [intOf]; omega
    · have hkn : k = zs.length := by omega
      subst hkn
      rw [List.take_length] at ho
      subst hov
      go_wp2
      go_ret
      exact ⟨_, rfl, ho, hg⟩

set_option maxHeartbeats 4000000 in
set_option maxRecDepth 100000 in
theorem l6key_any (v : Value) (us : List Int) (w : World) (hv : RdI w.heap.size w v us) (hn : us.length ≤ 1048576) :
    Calls Tryz.prog 88 #[v] w fun e w' => ∃ v', e = .returned v' ∧ Bw w.heap.size w' v' (keyB us) ∧ w.grownBy w' none := by
  have HI := hide (specIsName_any v us w hv (by omega))
  have HQ := hide (specQuote_any v us w hv hn)
  have HA := hide (fun h : nmR us = true => l4ascii_any v us w hv (fun z hz => (q_char z (nm_chars us h z hz)).2) hn)
  obtain ⟨a, cap, hv0, _⟩ := id hv
  subst hv0
  clear hv
  go_enter Tryz.func88, Tryz.ntmps88
  go_wp2_with fail
  refine HI.out.mono ?_
  rintro e w1 ⟨rfl, rfl⟩
  cases hb : nmR us with
  | true =>
    have HK := hide (show keyB us = us by unfold keyB; rw [hb]; rfl)
    have HA' := hide (HA.out hb)
    clear HA HQ HI
    go_wp2_with fail
    refine HA'.out.mono ?_
    rintro e w2 ⟨v2, rfl, o2, g2⟩
    obtain ⟨a2, c2, hv2, _, _⟩ := o2.sl
    subst hv2
    clear HA'
    go_wp2
    go_ret
    exact ⟨_, rfl, by rw [HK.out]; exact o2, g2⟩
  | false =>
    have HK := hide (show keyB us = (quR us).1 by unfold keyB; rw [hb]; rfl)
    clear HA HI
    go_wp2_with fail
    refine HQ.out.mono ?_
    rintro e w2 ⟨v2, rfl, o2, g2⟩
    obtain ⟨a2, c2, hv2, _, _⟩ := o2.sl
    subst hv2
    clear HQ
    go_wp2
    go_ret
    exact ⟨_, rfl, by rw [HK.out]; exact .inl o2, g2⟩
end Go.Proofs.YtakkdniikhgpdaaGreatDoor

