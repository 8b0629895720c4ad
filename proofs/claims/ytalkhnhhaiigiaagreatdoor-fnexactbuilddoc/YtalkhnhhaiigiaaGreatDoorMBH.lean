import Derived.Test.YtalkhnhhaiigiaaGreatDoorMBF
import Derived.Test.YtalkhnhhaiigiaaGreatDoorMBG
namespace Go.Proofs.YtalkhnhhaiigiaaGreatDoor
open Go.RowKit
attribute [-go_sem] Builtin.append_

theorem l6value_any (t : Tre) (ind : Int) (hD : DocOk t) : ∀ (d : Nat), d ≤ 202 → ∀ (j : Nat) (R2 : List Nod) (m : Bool) (nv tv : Value) (w : World), j < t.nodes.length → walkL triv d m (t.nodes.drop j, ()) = some (R2, ()) → RdT' w.heap.size w nv tv t →
    Calls Tryz.prog 38 #[.agg #[nv, tv], .int .i64 j, .int .i64 ind] w fun e w' => ∃ v', e = .returned v' ∧ PoR w.heap.size w' v' (valP ind d (t.nodes.drop j)).1 ∧ w.grownBy w' none
  | 0, _, j, R2, m, nv, tv, w, _, hw, _ => by simp [walkL] at hw
  | d + 1, hd, j, R2, m, nv, tv, w, hj, hw, hv => by
    have hdr : t.nodes.drop j = t.nodes[j] :: t.nodes.drop (j + 1) := List.drop_eq_getElem_cons hj
    have hnd := hD.nd _ (List.getElem_mem hj)
    by_cases h5 : t.nodes[j].k < 5
    · rw [hdr]
      simp only [valP, if_pos h5]
      exact l6value_scal t ind hD j hj h5 nv tv w hv
    · rw [hdr] at hw ⊢
      simp only [valP, if_neg h5]
      have hk6 := hnd.1.2
      have hc := hnd.2.2.2.2.2.2.2.2.2.2
      by_cases hc0 : t.nodes[j].cnt = 0
      · unfold contP
        rw [if_pos hc0]
        by_cases ht : t.nodes[j].tail = []
        · rw [if_pos ht]
          rcases (show t.nodes[j].k = 5 ∨ t.nodes[j].k = 6 by omega) with hk | hk
          · rw [hk]; exact l6value_bare5 t ind hD j hj hk hc0 ht nv tv w hv
          · rw [hk]; exact l6value_bare6 t ind hD j hj hk hc0 ht nv tv w hv
        · rw [if_neg ht]
          rcases (show t.nodes[j].k = 5 ∨ t.nodes[j].k = 6 by omega) with hk | hk
          · rw [hk]; exact l6value_tail5 t ind hD j hj hk hc0 ht nv tv w hv
          · rw [hk]; exact l6value_tail6 t ind hD j hj hk hc0 ht nv tv w hv
      · have hl : loopN (walkL triv d (decide (t.nodes[j].k = 6))) t.nodes[j].cnt.toNat (t.nodes.drop (j + 1), ()) = some (R2, ()) := by
          by_cases hm : t.nodes[j].mem ≠ m
          · simp [walkL, hm] at hw
          · by_cases h0 : 5 ≤ t.nodes[j].k ∧ d = 0
            · simp [walkL, hm, h0, triv] at hw
            · simpa only [walkL, if_neg hm, if_neg h0, triv, Option.bind_some] using hw
        rcases (show t.nodes[j].k = 5 ∨ t.nodes[j].k = 6 by omega) with hk | hk
        · rw [hk] at hl
          exact l6value_list5 t ind hD d (by omega) (fun j R2 m nv tv w a b c => l6value_any t ind hD d (by omega) j R2 m nv tv w a b c) j hj hk (by omega) R2 (by simpa using hl) nv tv w hv
        · rw [hk] at hl
          exact l6value_list6 t ind hD d (by omega) (fun j R2 m nv tv w a b c => l6value_any t ind hD d (by omega) j R2 m nv tv w a b c) j hj hk (by omega) R2 (by simpa using hl) nv tv w hv

set_option maxHeartbeats 4000000 in
set_option maxRecDepth 100000 in
theorem l6doc_any (t : Tre) (ind : Int) (hD : DocOk t) (hwt : wNs t.nodes + wC t.tail ≤ 3000000) (hw : walkL triv 201 false (t.nodes, ()) = some ([], ())) (nv tv : Value) (w : World) (hv : RdT' w.heap.size w nv tv t) :
    Calls Tryz.prog 16 #[.agg #[nv, tv], .int .i64 ind] w fun e w' => ∃ v', e = .returned v' ∧ PoR w.heap.size w' v' (docP ind t) ∧ w.grownBy w' none := by
  have h0 : 0 < t.nodes.length := by
    rcases hh : t.nodes with _ | ⟨n, R⟩
    · rw [hh] at hw; simp [walkL] at hw
    · simp
  have hdr : t.nodes = t.nodes[0] :: t.nodes.drop 1 := by
    have := List.drop_eq_getElem_cons h0
    simpa using this
  have HDP := hide (show docP ind t = rowP (befP t.nodes[0].lead ++ ((valP ind 201 t.nodes).1 :: leafP 4 :: befP t.tail)) by
    unfold docP
    split
    · rename_i h; rw [h] at h0; simp at h0
    · rename_i n R h
      simp only [h, List.getElem_cons_zero])
  have hmv : mes (valP ind 201 t.nodes).1 + wC t.nodes[0].lead ≤ wNs t.nodes := by
    obtain ⟨n, P, hP, hm⟩ := val_mes ind 201 false t.nodes [] hw (fun p hp h5 => ((hD.nd p hp).2.2.2.2.2.2.2.2.2.1 h5).1)
    have hn : t.nodes[0] = n := by simp only [hP, List.getElem_cons_zero]
    have hs : wNs t.nodes = wN n + wNs P := by rw [hP]; simp [wNs]
    rw [hn, hs]
    omega
  obtain ⟨hvn, hvt⟩ := id hv
  obtain ⟨na, ncap, hn0, _⟩ := id hvn
  obtain ⟨ta, tcap, ht0, _⟩ := id hvt
  obtain ⟨b, off, cap', lv, kv, xv, uv, qv, hva, hb0, hp⟩ := hvn.at 0 h0
  obtain ⟨W1, hW1⟩ : ∃ W1, W1 = w.alloc (Obj.cells #[nv, tv] 33) := ⟨_, rfl⟩
  have gg : w.grownBy W1 none := by rw [hW1]; exact World.grownBy_alloc _ _ _
  have GG := hide gg
  have z1 := gg.cell hp.lead (by simp)
  have y0 : W1.cell? ⟨w.heap.size, 0, none⟩ = some nv := by rw [hW1]; simp [go_sem]
  have y1 : W1.cell? ⟨w.heap.size, 1, none⟩ = some tv := by rw [hW1]; simp [go_sem]
  have sW : W1.heap.size = w.heap.size + 1 := by rw [hW1]; simp
  have HB1 := hide (l6before_any (.slice none 0 0) lv [] t.nodes[0].lead W1.heap.size W1 (DoR.nil _ _) (Nat.le_refl _) ((hp.rl.keep gg).wide gg.size) (by omega) (by simp))
  have HRT := hide ((hvt.keep gg).wide gg.size)
  have HRD : Hid (∀ W : World, Below W1.heap.size W1 W → RdT' W.heap.size W nv tv t) := fun W g => rdT_below (hvn.keep gg) (hvt.keep gg) gg.size g
  have HVAL : Hid (∀ W : World, Below W1.heap.size W1 W → _) := fun W (g : Below W1.heap.size W1 W) => l6value_any t ind hD 201 (by omega) 0 [] false nv tv W h0 (by simpa using hw) (HRD.out W g)
  have HL4 : Hid (∀ W : World, _) := fun W => l2leaf_any 4 W
  obtain ⟨la, lcap, hlv, _, _⟩ := hp.rl.sl
  have hml := mess_bef t.nodes[0].lead
  have hmll := mess_len (befP t.nodes[0].lead)
  have hmt := mess_bef t.tail
  subst hlv hva ht0
  cases hn0
  simp only [Nat.zero_mul, Nat.add_zero] at z1
  clear hvn hvt hv hp hw
  have HW1 := hide hW1
  rw [hW1] at HB1
  have z1' := z1
  rw [hW1] at z1'
  clear hW1
  have Y := hide (show _ ∧ _ from ⟨y0, y1⟩)
  clear y0 y1 z1 gg hdr
  rw [List.drop_zero] at HVAL
  generalize (valP ind 201 t.nodes).1 = vd at *
  generalize t.nodes[0].lead = ld at *
  go_enter Tryz.func16, Tryz.ntmps16
  go_wp2_with fail
  refine HB1.out.mono ?_
  rintro e w2 ⟨v2, rfl, o2, b2⟩
  have hW1 := HW1.out
  rw [← hW1] at o2 b2
  clear hW1
  rw [List.nil_append] at o2
  have HB2 := hide b2
  have hs2 := b2.size
  have HO2 := hide o2
  have HVA := hide (HVAL.out w2 b2)
  obtain ⟨a2, c2, hv2, _, _⟩ := o2.sl
  have x0 : w2.cell? ⟨w.heap.size, 0, none⟩ = some (.slice (some ⟨b, off, none⟩) t.nodes.length ncap) := by rw [b2.cell (by simp; omega)]; exact Y.out.1
  have x1 : w2.cell? ⟨w.heap.size, 1, none⟩ = some (.slice ta t.tail.length tcap) := by rw [b2.cell (by simp; omega)]; exact Y.out.2
  generalize hL2 : (befP ld).length = L2 at *
  subst hv2
  clear o2 b2 HB1 z1'
  go_wp2_with fail
  refine HVA.out.mono ?_
  rintro e w3 ⟨v3, rfl, o3, g3⟩
  obtain ⟨v4, w4, run4, o4, g4, _, ⟨a4, c4, hv4⟩, _⟩ := HO2.out.push g3 o3 hs2 (by omega)
  obtain ⟨a3, c3, hv3, _, _⟩ := o3.sl
  have hb4 : Below W1.heap.size w2 w4 := (Below.refl _ _).grown g4 hs2 (fun x e => (HO2.out.lt x e).1)
  have HB4 := hide (HB2.out.trans hb4)
  have hs4 := HB4.out.size
  have HO4 := hide o4
  rw [hL2] at hv4
  generalize vd.length = L3 at hv3
  subst hv3 hv4
  clear o3 o4 g3 g4 hb4 HVA HO2 x0 x1
  go_wp2_with fail
  refine (HL4.out _).mono ?_
  rintro e w5 ⟨v5, rfl, o5, g5⟩
  obtain ⟨v6, w6, run6, o6, g6, _, ⟨a6, c6, hv6⟩, _⟩ := HO4.out.push g5 o5 hs4 (by rw [List.length_append, hL2]; simp; omega)
  obtain ⟨a5, c5, hv5, _, _⟩ := o5.sl
  have hb6 : Below W1.heap.size w4 w6 := (Below.refl _ _).grown g6 hs4 (fun x e => (HO4.out.lt x e).1)
  have HB6 := hide (HB4.out.trans hb6)
  have hs6 := HB6.out.size
  have HBT := hide (l6before_any v6 _ _ t.tail W1.heap.size w6 o6 hs6 (rdC_below HRT.out HB6.out) (by omega) (by rw [List.length_append, List.length_append, hL2]; simp; omega))
  simp only [leafP, List.length_singleton] at hv5
  rw [List.length_append, hL2, List.length_singleton] at hv6
  have x1 : w6.cell? ⟨w.heap.size, 1, none⟩ = some (.slice ta t.tail.length tcap) := by rw [HB6.out.cell (by simp; omega)]; exact Y.out.2
  subst hv5 hv6
  clear o5 o6 g5 g6 hb6 HO4
  go_wp2_with fail
  refine HBT.out.mono ?_
  rintro e w7 ⟨v7, rfl, o7, b7⟩
  have HB7 := hide (HB6.out.trans b7)
  have HE := hide (show befP ld ++ [vd] ++ [leafP 4] ++ befP t.tail = befP ld ++ (vd :: leafP 4 :: befP t.tail) by simp)
  have o7' : DoR W1.heap.size w7 v7 (befP ld ++ (vd :: leafP 4 :: befP t.tail)) := by rw [← HE.out]; exact o7
  have HR := hide (l6row_any v7 _ _ w7 o7'.di HB7.out.size (by rw [mess_app]; simp only [mess, leafP, mes, List.length_nil]; omega))
  obtain ⟨a7, c7, hv7, _, _⟩ := o7'.sl
  generalize (befP ld ++ (vd :: leafP 4 :: befP t.tail)).length = L7 at hv7
  subst hv7
  clear o7 o7' b7 HBT HE
  go_wp2_with fail
  refine HR.out.mono ?_
  rintro e w8 ⟨v8, rfl, o8, g8⟩
  have HO8 := hide (o8.base (B' := w.heap.size) GG.out.size)
  have HG8 := hide (grown_trans (grown_trans GG.out (grown_of_below HB7.out)) g8)
  obtain ⟨a8, c8, hv8, _, _⟩ := o8.sl
  generalize (rowP (befP ld ++ (vd :: leafP 4 :: befP t.tail))).length = L8 at hv8
  subst hv8
  clear o8 g8 HR
  go_wp2
  go_ret
  refine ⟨_, rfl, ?_, HG8.out⟩
  rw [HDP.out]
  exact HO8.out
end Go.Proofs.YtalkhnhhaiigiaaGreatDoor

namespace Go.Proofs.YtalkhnhhaiigiaaGreatDoor
open Go.RowKit

def largeP (ps : List Pc) : Bool := decide (40000 < ps.length) || decide (100000 < sumT ps)
def bdR (vv : Bool) (ind : Int) (t : Tre) : List Pc × Int := if vv = true ∧ 0 ≤ ind ∧ ind ≤ 16 then (if largeP (docP ind t) = true then ([], 4) else (docP ind t, 0)) else ([], 1)
theorem sumT_snoc (ps : List Pc) (p : Pc) : sumT (ps ++ [p]) = sumT ps + p.t.length := by
  induction ps with
  | nil => simp [sumT]
  | cons q ps ih => simp only [List.cons_append, sumT, ih]; omega
theorem sumT_nonneg : ∀ ps, 0 ≤ sumT ps
  | [] => Int.le_refl _
  | p :: ps => by have := sumT_nonneg ps; simp only [sumT]; omega

set_option maxHeartbeats 4000000 in
set_option maxRecDepth 100000 in
theorem l6large_any (v : Value) (ps : List Pc) (B : Nat) (w : World) (hv : PiR B w none v ps) (hn : mes ps ≤ 4194304) :
    Calls Tryz.prog 17 #[v] w fun e w' => e = .returned (.bool (largeP ps)) ∧ w = w' := by
  have HV := hide hv
  obtain ⟨a, cap, hv0, _⟩ := id hv
  subst hv0
  have hl := mes_len ps
  have hsm := mes_sum ps
  clear hv
  go_enter Tryz.func17, Tryz.ntmps17
  go_wp2
  go_loopw [3, 4] (fun o i W => ∃ (k : Nat), k ≤ ps.length ∧ i = .int .i64 k ∧ o = .int .i64 (sumT (ps.take k)) ∧ w = W)
    (fun _ i _ => ps.length - (intOf i).toNat)
  case atStart => exact ⟨0, Nat.zero_le _, rfl, rfl, rfl⟩
  case round =>
    obtain ⟨k, hk, rfl, rfl, rfl⟩ := hrel
    by_cases hlt : k < ps.length
    · obtain ⟨b, off, cap', hva, hz, tv, c0, c1, c2, hT⟩ := HV.out.at k hlt
      cases hva
      have hm := mes_mem ps ps[k] (List.getElem_mem hlt)
      have HP := hide (show sumT (ps.take (k + 1)) = sumT (ps.take k) + ps[k].t.length by
        rw [show ps.take (k + 1) = ps.take k ++ [ps[k]] by rw [List.take_add_one]; simp [hlt], sumT_snoc])
      have hb1 : sumT (ps.take k) ≤ 4194304 := by
        have h1 := mes_sum (ps.take k)
        have h2 := mes_app (ps.take k) (ps.drop k)
        rw [List.take_append_drop] at h2
        omega
      have hb0 := sumT_nonneg (ps.take k)
      obtain ⟨ta, tcap, htv, _, _⟩ := hT.sl
      subst htv
      clear hT HV
      generalize ps[k] = p at *
      generalize sumT (ps.take k) = sm at *
      go_wp2
      go_roundw
      case rel => exact ⟨k + 1, by omega, by go_num, by rw [HP.out], trivial⟩
      case measure => simp [intOf]; omega
    · have hkn : k = ps.length := by omega
      subst hkn
      rw [List.take_length]
      have hb0 := sumT_nonneg ps
      clear HV
      by_cases h1 : 40000 < ps.length
      · have hd : decide (40000 < ps.length) = true := by simp [h1]
        have h1' : (40000 : Int) < ps.length := by omega
        go_wp2
        go_ret
        exact ⟨by simp [largeP, h1], rfl⟩
      · have h1' : ¬ (40000 : Int) < ps.length := by omega
        have h1'' : decide ((40000 : Int) < ps.length) = false := by simpa using h1'
        generalize hsmm : sumT ps = sm at *
        go_wp2
        go_ret
        exact ⟨by simp [largeP, h1, hsmm], rfl⟩

theorem docP_mes (t : Tre) (ind : Int) (hD : DocOk t) (hw : walkL triv 201 false (t.nodes, ()) = some ([], ())) : mes (docP ind t) ≤ wNs t.nodes + wC t.tail + 10 := by
  obtain ⟨n, P, hP, hm⟩ := val_mes ind 201 false t.nodes [] hw (fun p hp h5 => ((hD.nd p hp).2.2.2.2.2.2.2.2.2.1 h5).1)
  have hs : wNs t.nodes = wN n + wNs P := by rw [hP]; simp [wNs]
  have h1 := mess_bef n.lead
  have h2 := mess_bef t.tail
  have h4 : docP ind t = rowP (befP n.lead ++ ((valP ind 201 t.nodes).1 :: leafP 4 :: befP t.tail)) := by
    unfold docP
    rw [hP]
  rw [h4]
  refine Nat.le_trans (mes_row _) ?_
  rw [mess_app]
  simp only [mess, leafP, mes, List.length_nil]
  omega

set_option maxHeartbeats 4000000 in
set_option maxRecDepth 100000 in
theorem specBuild_any (t : Tre) (ind : Int) (vv : Bool) (hv1 : vv = true → DocOk t ∧ wNs t.nodes + wC t.tail ≤ 3000000 ∧ walkL triv 201 false (t.nodes, ()) = some ([], ())) (nv tv : Value) (w : World) (hv : RdT' w.heap.size w nv tv t)
    (hvalid : ∀ W : World, RdT' W.heap.size W nv tv t → Calls Tryz.prog 15 #[.agg #[nv, tv]] W fun e w'' => e = .returned (.bool vv) ∧ W.grownBy w'' none) :
    Calls Tryz.prog 5 #[.agg #[nv, tv], .int .i64 ind] w fun e w' => ∃ v', e = .returned (.tuple #[v', .int .i64 (bdR vv ind t).2]) ∧ PiR w.heap.size w' none v' (bdR vv ind t).1 ∧ w.grownBy w' none := by
  have hnot : ∀ (x : Bool) (w : World), (Op.unary .not (.bool x)).run Tryz.prog w = .ok (.bool (!x)) w := fun _ _ => rfl
  obtain ⟨hvn, hvt⟩ := id hv
  have HRd : Hid (∀ W : World, w.grownBy W none → RdT' W.heap.size W nv tv t) := fun W g => ⟨(hvn.keep g).wide g.size, (hvt.keep g).wide g.size⟩
  have HV : Hid (∀ W : World, w.grownBy W none → _) := fun W (g : w.grownBy W none) => hvalid W (HRd.out W g)
  have H1 := hide hv1
  have nilP : ∀ W : World, PiR w.heap.size W none (.slice none 0 0) [] := fun W => ⟨none, 0, rfl, Nat.le_refl _, by unfold maxLen; omega, fun h => absurd rfl h⟩
  have HNIL := hide nilP
  obtain ⟨na, ncap, hn0, _⟩ := id hvn
  obtain ⟨ta, tcap, ht0, _⟩ := id hvt
  subst hn0 ht0
  clear hvn hvt hv hvalid hv1 nilP
  go_enter Tryz.func5, Tryz.ntmps5
  go_wp2_with fail
  refine (HV.out _ (World.grownBy_alloc _ _ _)).mono ?_
  rintro e w1 ⟨rfl, g1⟩
  have G1 := hide (grown_trans (World.grownBy_alloc w (Obj.cells #[.slice na t.nodes.length ncap, .slice ta t.tail.length tcap] 33) none) g1)
  have q0 := g1.cell (a := ⟨w.heap.size, 0, none⟩) (v := .slice na t.nodes.length ncap) (by simp [go_sem]) (by simp)
  have q1 := g1.cell (a := ⟨w.heap.size, 1, none⟩) (v := .slice ta t.tail.length tcap) (by simp [go_sem]) (by simp)
  clear g1 HV
  cases vv with
  | false =>
    have HR := hide (show bdR false ind t = ([], 1) by simp [bdR])
    go_wp2
    go_ret2
    exact ⟨.slice none 0 0, by rw [HR.out]; rfl, by rw [HR.out]; exact HNIL.out _, G1.out⟩
  | true =>
    by_cases h0 : ind < 0
    · have HR := hide (show bdR true ind t = ([], 1) by unfold bdR; rw [if_neg (by omega)])
      go_wp2
      go_ret2
      exact ⟨.slice none 0 0, by rw [HR.out]; rfl, by rw [HR.out]; exact HNIL.out _, G1.out⟩
    · have h0' : decide (ind < 0) = false := by simpa using h0
      by_cases h16 : 16 < ind
      · have HR := hide (show bdR true ind t = ([], 1) by unfold bdR; rw [if_neg (by omega)])
        go_wp2
        go_ret2
        exact ⟨.slice none 0 0, by rw [HR.out]; rfl, by rw [HR.out]; exact HNIL.out _, G1.out⟩
      · have h16' : decide (16 < ind) = false := by simpa using h16
        obtain ⟨hD, hwt, hwk⟩ := H1.out rfl
        have HDC := hide (l6doc_any t ind hD hwt hwk _ _ w1 (HRd.out w1 G1.out))
        have HMS : Hid (mes (docP ind t) ≤ 4194304) := by
          have h := docP_mes t ind hD hwk
          unfold Hid
          omega
        clear HRd H1 hD hwt hwk
        go_wp2_with fail
        refine HDC.out.mono ?_
        rintro e w2 ⟨v2, rfl, o2, g2⟩
        have HLG := hide (l6large_any v2 _ _ w2 o2.pi HMS.out)
        have HO2 := hide (o2.base (B' := w.heap.size) G1.out.size)
        have G2 := hide (grown_trans G1.out g2)
        have HR := hide (show bdR true ind t = if largeP (docP ind t) = true then ([], 4) else (docP ind t, 0) by unfold bdR; rw [if_pos (by simp; omega)])
        obtain ⟨a2, c2, hv2, _, _⟩ := o2.sl
        generalize hL2 : (docP ind t).length = L2 at hv2
        subst hv2
        clear o2 g2 HDC hL2
        go_wp2_with fail
        refine HLG.out.mono ?_
        rintro e w3 ⟨rfl, rfl⟩
        clear HLG
        cases hlg : largeP (docP ind t) with
        | true =>
          have HR2 := hide (show bdR true ind t = ([], 4) by rw [HR.out, hlg]; rfl)
          clear hlg HR
          go_wp2
          go_ret2
          exact ⟨.slice none 0 0, by rw [HR2.out]; rfl, by rw [HR2.out]; exact HNIL.out _, G2.out⟩
        | false =>
          have HR2 := hide (show bdR true ind t = (docP ind t, 0) by rw [HR.out, hlg]; rfl)
          clear hlg HR
          go_wp2
          go_ret2
          exact ⟨.slice a2 L2 c2, by rw [HR2.out]; rfl, by rw [HR2.out]; exact HO2.out.pi, G2.out⟩
end Go.Proofs.YtalkhnhhaiigiaaGreatDoor

namespace Go.Proofs.YtalkhnhhaiigiaaGreatDoor
open Go.RowKit

/-! The program's document: a row of one's own, each text in a block of its own, the newer the later. -/

def TxO (B : Nat) (w : World) (tv : Value) (t : List Int) : Prop :=
  (tv = .slice none 0 0 ∧ t = []) ∨ ∃ g cap, tv = .slice (some ⟨g, 0, none⟩) t.length cap ∧ t.length ≤ cap ∧ cap ≤ maxLen ∧ B ≤ g ∧ g < w.heap.size ∧ ∀ j, j < t.length → w.cell? ⟨g, j, none⟩ = some (.int .u8 (t[j]?.getD 0)) ∧ w.frozen? ⟨g, j, none⟩ = false
theorem TxO.lt {B : Nat} {w : World} {tv : Value} {t : List Int} (h : TxO B w tv t) : ∀ g, tv.ownBlock = some g → B ≤ g ∧ g < w.heap.size := by
  rcases h with ⟨rfl, _⟩ | ⟨g, cap, rfl, _, _, h1, h2, _⟩
  · intro g e; cases e
  · intro k e; cases e; exact ⟨h1, h2⟩
theorem TxO.sl {B : Nat} {w : World} {tv : Value} {t : List Int} (h : TxO B w tv t) : Sl tv t.length := by
  rcases h with ⟨rfl, rfl⟩ | ⟨g, cap, rfl, h3, h4, h1, h2, _⟩
  · exact ⟨none, 0, rfl, Nat.le_refl _, by unfold maxLen; omega⟩
  · exact ⟨_, _, rfl, h3, h4⟩
theorem TxO.row {B : Nat} {w w' : World} {r : Option Nat} {tv : Value} {t : List Int} (h : TxO B w tv t) (g : w.grownBy w' r) (hr : ∀ x, tv.ownBlock = some x → r ≠ some x) : TxO B w' tv t := by
  rcases h with ⟨rfl, rfl⟩ | ⟨x, cap, rfl, h3, h4, h1, h2, h5⟩
  · exact .inl ⟨rfl, rfl⟩
  · have hne : some x ≠ r := fun e => hr x rfl e.symm
    refine .inr ⟨x, cap, rfl, h3, h4, h1, Nat.lt_of_lt_of_le h2 g.size, fun j hj => ⟨g.cell (h5 j hj).1 hne, ?_⟩⟩
    rw [World.frozen?_of_block (g.block x h2 hne)]
    exact (h5 j hj).2
theorem TxO.keep {B : Nat} {w w' : World} {tv : Value} {t : List Int} (h : TxO B w tv t) (g : w.grownBy w' none) : TxO B w' tv t := h.row g (fun _ _ e => by cases e)
theorem TxO.base {B B' : Nat} {w : World} {tv : Value} {t : List Int} (h : TxO B w tv t) (hB : B' ≤ B) : TxO B' w tv t := by
  rcases h with h | ⟨x, cap, h0, h3, h4, h1, h2, h5⟩
  · exact .inl h
  · exact .inr ⟨x, cap, h0, h3, h4, by omega, h2, h5⟩
theorem TxO.nil (B : Nat) (w : World) : TxO B w (.slice none 0 0) [] := .inl ⟨rfl, rfl⟩
theorem TxO.txR {B : Nat} {w : World} {tv : Value} {t : List Int} (h : TxO B w tv t) : TxR B w none tv t := by
  rcases h with ⟨rfl, rfl⟩ | ⟨g, cap, rfl, h3, h4, h1, h2, h5⟩
  · exact TxR.nil _ _ _
  · exact ⟨_, cap, rfl, h3, h4, fun _ => ⟨g, 0, rfl, ⟨h1, h2, by simp⟩, fun j hj => by rw [Nat.zero_add]; exact (h5 j hj).1⟩⟩

def Lat (tvs : List Value) : Prop := tvs.Pairwise (fun a b => ∀ g g', a.ownBlock = some g → b.ownBlock = some g' → g < g')
def DfR (H : Nat) (w : World) (v : Value) (ps : List Pc) : Prop :=
  ∃ tvs : List Value, tvs.length = ps.length ∧ w.ownsRow H 59 3 v ps.length (pcCs ps tvs) ∧ (∀ (j : Nat) (p : Pc) (tv : Value), ps[j]? = some p → tvs[j]? = some tv → TxO H w tv p.t ∧ ∀ g, tv.ownBlock = some g → v.ownBlock ≠ some g) ∧ Lat tvs

theorem DfR.lt {H : Nat} {w : World} {v : Value} {ps : List Pc} (h : DfR H w v ps) : ∀ k, v.ownBlock = some k → H ≤ k ∧ k < w.heap.size := by
  obtain ⟨tvs, _, ho, _⟩ := h
  exact fun k e => World.ownsRow.lt ho k e
theorem DfR.nil (H : Nat) (w : World) : DfR H w (.slice none 0 0) [] := ⟨[], rfl, ⟨by simp [pcCs], .inl ⟨rfl, rfl⟩⟩, fun j p tv h => by simp at h, List.Pairwise.nil⟩
theorem DfR.keep {H : Nat} {w w' : World} {v : Value} {ps : List Pc} (h : DfR H w v ps) (g : w.grownBy w' none) : DfR H w' v ps := by
  obtain ⟨tvs, hl, ho, ht, hp⟩ := h
  exact ⟨tvs, hl, World.ownsRow.kept ho g (by cases v.ownBlock <;> simp), fun j p tv h1 h2 => ⟨(ht j p tv h1 h2).1.keep g, (ht j p tv h1 h2).2⟩, hp⟩
/-- A change of one block before H. -/
theorem DfR.set {H : Nat} {w : World} {v : Value} {ps : List Pc} (h : DfR H w v ps) (b j : Nat) (x : Value) (hb : b < H) : DfR H (w.setCell ⟨b, j, none⟩ x) v ps := by
  obtain ⟨tvs, hl, ho, ht, hp⟩ := h
  have g : w.grownBy (w.setCell ⟨b, j, none⟩ x) (some b) := ⟨rfl, rfl, rfl, by simp, fun i _ hn => Below.heap_setCell _ _ _ _ (fun e => hn (by rw [e]))⟩
  exact ⟨tvs, hl, World.ownsRow.kept ho g (.inr (fun e => by have := (World.ownsRow.lt ho b e).1; omega)), fun j p tv h1 h2 => ⟨(ht j p tv h1 h2).1.row g (fun y e h => by cases h; have := ((ht j p tv h1 h2).1.lt b e).1; omega), (ht j p tv h1 h2).2⟩, hp⟩
theorem DfR.sl {H : Nat} {w : World} {v : Value} {ps : List Pc} (h : DfR H w v ps) : ∃ a cap, v = .slice a ps.length cap := by
  obtain ⟨tvs, _, ho, _⟩ := h
  exact row_sliceB ho
theorem DfR.po {H : Nat} {w : World} {v : Value} {ps : List Pc} (h : DfR H w v ps) : PoR H w v ps := by
  obtain ⟨tvs, hl, ho, ht, hp⟩ := h
  refine ⟨_, ho, fun j p hj => ?_⟩
  have hjl := (List.getElem?_eq_some_iff.1 hj).1
  obtain ⟨tv, htv⟩ : ∃ tv, tvs[j]? = some tv := ⟨tvs[j]'(by omega), List.getElem?_eq_getElem (by omega)⟩
  obtain ⟨k1, k2, k3⟩ := pcCs_at ps tvs j p tv hj htv
  obtain ⟨h1, h2⟩ := ht j p tv hj htv
  refine ⟨tv, k1, k2, k3, ?_⟩
  obtain ⟨a, cap, e, c1, c2, c3⟩ := h1.txR
  refine ⟨a, cap, e, c1, c2, fun h0 => ?_⟩
  obtain ⟨b, off, ha, hz, hc⟩ := c3 h0
  exact ⟨b, off, ha, ⟨hz.1, hz.2.1, fun q => h2 b (by rw [e, ha]; rfl) q.symm⟩, hc⟩
theorem pcCs_snoc : ∀ (ps : List Pc) (tvs : List Value) (p : Pc) (tv : Value), tvs.length = ps.length → pcCs (ps ++ [p]) (tvs ++ [tv]) = pcCs ps tvs ++ [.int .i64 p.k, tv, .int .i64 p.n]
  | [], [], _, _, _ => rfl
  | _ :: ps, _ :: tvs, p, tv, h => by simp only [List.length_cons, Nat.add_right_cancel_iff] at h; simp only [List.cons_append, pcCs, pcCs_snoc ps tvs p tv h, pcC, List.append_assoc]
  | [], _ :: _, _, _, h => by simp at h
  | _ :: _, [], _, _, h => by simp at h

/-- One element more: its text is newer than the document. -/
theorem DfR.push {H : Nat} {w0 w : World} {v : Value} {ps : List Pc} (k n : Int) (tv : Value) (t : List Int) (hd : DfR H w0 v ps) (g : w0.grownBy w none) (ht : TxO w0.heap.size w tv t) (hH : H ≤ w0.heap.size) (hn : ps.length ≤ 1000000) :
    ∃ v' w', (Builtin.append_ #[27, 27] 27 #[v, .slice (some ⟨w.heap.size, 0, none⟩) 1 1]).run Tryz.prog (w.alloc (Obj.cells #[.int .i64 k, tv, .int .i64 n] 59)) = .ok v' w' ∧ DfR H w' v' (ps ++ [⟨k, t, n⟩]) ∧ w.grownBy w' v.ownBlock ∧ ∃ a cap, v' = .slice a (ps.length + 1) cap := by
  obtain ⟨i0, hi, hz0, hz1, hz2⟩ := info_parts infoPc
  have gA := World.grownBy_alloc w (Obj.cells #[.int .i64 k, tv, .int .i64 n] 59) none
  have gA' := World.grownBy_alloc w (Obj.cells #[.int .i64 k, tv, .int .i64 n] 59) v.ownBlock
  have hs := g.size
  obtain ⟨tvs, hl, ho, htx, hp⟩ := (hd.keep g).keep gA
  have hsz : (w.alloc (Obj.cells #[.int .i64 k, tv, .int .i64 n] 59)).heap.size = w.heap.size + 1 := by simp
  have hnews : ∀ j u, ([.int .i64 k, tv, .int .i64 n] : List Value)[j]? = some u → (w.alloc (Obj.cells #[.int .i64 k, tv, .int .i64 n] 59)).cell? ((⟨w.heap.size, 0, none⟩ : Addr).add j) = some u := by
    intro j u hj
    rw [Addr.add_lit, Nat.zero_add]
    match j, hj with
    | 0, hj => simp at hj; subst hj; simp [go_sem]
    | 1, hj => simp at hj; subst hj; simp [go_sem]
    | 2, hj => simp at hj; subst hj; simp [go_sem]
    | j + 3, hj => simp at hj
  obtain ⟨v', w', hrun, h1, h2, _, h4⟩ := run_append_own_at (P := Tryz.prog) (w.alloc (Obj.cells #[.int .i64 k, tv, .int .i64 n] 59)) H 27 27 59 i0 (.agg #[.int .i64 0, .slice none 0 0, .int .i64 0]) 3 40 Tryz.underlying27 hi hz0 hz1 hz2 rfl (by decide) v ps.length _ ho ⟨w.heap.size, 0, none⟩ 1 1 _ rfl hnews
    (by intro x hx; simp at hx; rcases hx with rfl | rfl | rfl
        · rfl
        · exact oneCell_slice ht.sl
        · rfl) (by unfold maxLen; omega) (by omega) (by omega)
  have old : ∀ g', (∃ (j : Nat) (p : Pc) (u : Value), ps[j]? = some p ∧ tvs[j]? = some u ∧ u.ownBlock = some g') → g' < w0.heap.size := by
    rintro g' ⟨j, p, u, hj, hu, hg⟩
    obtain ⟨tvs0, hl0, ho0, htx0, hp0⟩ := hd
    have : tvs0 = tvs := by
      have e1 := World.ownsRow.kept (World.ownsRow.kept ho0 g (by cases v.ownBlock <;> simp)) gA (by cases v.ownBlock <;> simp)
      apply List.ext_getElem?
      intro i
      by_cases hi' : i < ps.length
      · have k0 := pcCs_at ps tvs0 i (ps[i]) (tvs0[i]'(by omega)) (by simp [hi']) (by simp [hl0, hi'])
        have k1 := pcCs_at ps tvs i (ps[i]) (tvs[i]'(by omega)) (by simp [hi']) (by simp [hl, hi'])
        rcases ho.2 with ⟨hv, hn0⟩ | ⟨x, cap, cur, hv, _⟩
        · omega
        · have c0 := World.ownsRow.cellAt (hv ▸ e1) (i * 3 + 1) (by omega)
          have c1 := World.ownsRow.cellAt (hv ▸ ho) (i * 3 + 1) (by omega)
          rw [k0.2.1] at c0
          rw [k1.2.1] at c1
          rw [c0] at c1
          simp only [Option.some.injEq] at c1
          rw [List.getElem?_eq_getElem (by omega), List.getElem?_eq_getElem (by omega), c1]
      · rw [List.getElem?_eq_none (by omega), List.getElem?_eq_none (by omega)]
    subst this
    exact ((htx0 j p u hj hu).1.lt g' hg).2
  have hnew : ∀ g', tv.ownBlock = some g' → w0.heap.size ≤ g' ∧ g' < w.heap.size := fun g' e => ht.lt g' e
  have hvb : ∀ x, v'.ownBlock = some x → (v.ownBlock = some x ∨ x = w.heap.size + 1) := fun x e => by
    rcases h4 with h | h
    · exact .inl (by rw [← h]; exact e)
    · rw [h, hsz] at e; cases e; exact .inr rfl
  refine ⟨v', w', hrun, ⟨tvs ++ [tv], by simp [hl], ?_, ?_, ?_⟩, grown_trans gA' h2, ?_⟩
  · rw [pcCs_snoc ps tvs _ _ hl, List.length_append]
    exact h1
  · intro j p u hj hu
    by_cases hlt : j < ps.length
    · rw [List.getElem?_append_left hlt] at hj
      rw [List.getElem?_append_left (by omega)] at hu
      obtain ⟨q1, q2⟩ := htx j p u hj hu
      refine ⟨q1.row h2 (fun x e h => q2 x e h), fun g' e h => ?_⟩
      rcases hvb g' h with h' | h'
      · exact q2 g' e h'
      · have := old g' ⟨j, p, u, hj, hu, e⟩; omega
    · have hje : j = ps.length := by have := (List.getElem?_eq_some_iff.1 hj).1; simp at this; omega
      subst hje
      simp at hj
      rw [← hl] at hu
      simp at hu
      subst hj hu
      have q2 : ∀ x, tv.ownBlock = some x → v.ownBlock ≠ some x := fun x e h => by have h1 := (hd.lt x h).2; have := (hnew x e).1; omega
      refine ⟨((ht.base hH).keep gA).row h2 (fun x e h => q2 x e h), fun g' e h => ?_⟩
      rcases hvb g' h with h' | h'
      · exact q2 g' e h'
      · have := (hnew g' e).2; omega
  · unfold Lat
    rw [List.pairwise_append]
    refine ⟨hp, by simp, ?_⟩
    intro a ha b hb g1 g2 e1 e2
    simp at hb
    subst hb
    obtain ⟨j, hj, hja⟩ := List.getElem_of_mem ha
    have := old g1 ⟨j, ps[j]'(by omega), a, by simp [show j < ps.length by omega], by rw [← hja]; simp [hj], e1⟩
    have := (hnew g2 e2).1
    omega
  · rcases h1.2 with ⟨hv, hn0⟩ | ⟨x, cap, cur, hv, _⟩
    · omega
    · exact ⟨_, cap, hv⟩

/-- What the draft does with an element. -/
def putS (s : List Pc × Bool) (p : Pc) : List Pc × Bool := if s.2 = true ∨ s.1.length = 40000 ∨ 100000 - sumT s.1 < p.t.length then (s.1, true) else (s.1 ++ [p], false)
def putsS (s : List Pc × Bool) (ps : List Pc) : List Pc × Bool := ps.foldl putS s
theorem putsS_app (s : List Pc × Bool) (a b : List Pc) : putsS s (a ++ b) = putsS (putsS s a) b := by simp [putsS]

/-- The draft in block bd. -/
structure Draft (H : Nat) (w : World) (bd : Nat) (s : List Pc × Bool) : Prop where
  v : ∃ dv, w.cell? ⟨bd, 0, none⟩ = some dv ∧ DfR H w dv s.1
  r : w.cell? ⟨bd, 1, none⟩ = some (.int .i64 (100000 - sumT s.1))
  f : w.cell? ⟨bd, 2, none⟩ = some (.bool s.2)
  fz : ∀ j, w.frozen? ⟨bd, j, none⟩ = false
  n : s.1.length ≤ 40000
  sm : sumT s.1 ≤ 100000
theorem Draft.keep {H : Nat} {w w' : World} {bd : Nat} {s : List Pc × Bool} (h : Draft H w bd s) (g : w.grownBy w' none) : Draft H w' bd s := by
  obtain ⟨dv, h1, h2⟩ := h.v
  exact ⟨⟨dv, g.cell h1 (by simp), h2.keep g⟩, g.cell h.r (by simp), g.cell h.f (by simp), fun j => by rw [World.frozen?_of_block (g.block bd (World.block_lt_of_cell? w _ h1) (by simp))]; exact h.fz j, h.n, h.sm⟩

/-- All blocks before H but bd are as they were. -/
structure Frd (H bd : Nat) (w w' : World) : Prop where
  os : w'.os = w.os
  tape : w'.tape = w.tape
  output : w'.output = w.output
  size : w.heap.size ≤ w'.heap.size
  block : ∀ k, k < H → k ≠ bd → w'.heap[k]? = w.heap[k]?
theorem Frd.refl (H bd : Nat) (w : World) : Frd H bd w w := ⟨rfl, rfl, rfl, Nat.le_refl _, fun _ _ _ => rfl⟩
theorem Frd.trans {H bd : Nat} {a b c : World} (h : Frd H bd a b) (k : Frd H bd b c) : Frd H bd a c :=
  ⟨k.os.trans h.os, k.tape.trans h.tape, k.output.trans h.output, Nat.le_trans h.size k.size, fun i hi hn => (k.block i hi hn).trans (h.block i hi hn)⟩
theorem Frd.grown {H bd : Nat} {a b : World} {r : Option Nat} (g : a.grownBy b r) (hH : H ≤ a.heap.size) (hr : ∀ x, r = some x → H ≤ x ∨ x = bd) : Frd H bd a b :=
  ⟨g.os, g.tape, g.output, g.size, fun k hk hn => g.block k (by omega) (fun e => by have := hr k e.symm; omega)⟩
theorem Frd.set (H bd : Nat) (w : World) (j : Nat) (x : Value) : Frd H bd w (w.setCell ⟨bd, j, none⟩ x) :=
  ⟨rfl, rfl, rfl, by simp, fun k _ hn => Below.heap_setCell _ _ _ _ (by simpa using hn)⟩
end Go.Proofs.YtalkhnhhaiigiaaGreatDoor

