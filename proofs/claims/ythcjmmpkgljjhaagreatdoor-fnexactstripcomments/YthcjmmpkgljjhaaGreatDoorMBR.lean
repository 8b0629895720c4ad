import Derived.Test.YthcjmmpkgljjhaaGreatDoorMBM
import Derived.Test.YthcjmmpkgljjhaaGreatDoorMBP
import Derived.Test.YthcjmmpkgljjhaaGreatDoorMBQ
namespace Go.Proofs.YthcjmmpkgljjhaaGreatDoor
open Go.RowKit
attribute [-go_sem] Builtin.append_

set_option maxHeartbeats 8000000 in
set_option maxRecDepth 100000 in
theorem implStrip_any (nv tv : Value) (t : Tre) (vv : Bool) (w : World) (hv : RdT' w.heap.size w nv tv t) (hok : TOk t) (hne : vv = true → t.nodes ≠ [])
    (hvalid : ∀ W : World, w.grownBy W none → Calls Tryz.prog 17 #[.agg #[nv, tv]] W fun e w'' => e = .returned (.bool vv) ∧ W.grownBy w'' none) :
    Calls Tryz.prog 7 #[.agg #[nv, tv]] w fun e w' => ∃ nv', e = .returned (.agg #[nv', .slice none 0 0]) ∧ (if vv = true then Bare w.heap.size w' nv' t.nodes else nv' = .slice none 0 0) ∧ w.grownBy w' none := by
  obtain ⟨hvn, hvt⟩ := id hv
  obtain ⟨na, ncap, hn0, _⟩ := id hvn
  obtain ⟨ta, tcap, ht0, _⟩ := id hvt
  have HV := hide hvalid
  have HOK := hide hok
  have hnl := hok.n
  have HCl : Hid (t.nodes ≠ [] → ∀ W : World, w.grownBy W none → _) := fun h0 W (g : w.grownBy W none) => nodesClone_any nv t.nodes W ((hvn.keep g).wide g.size) hok.n h0
  subst hn0 ht0
  clear hv hvn hvt hok hvalid
  have gA := hide (grown_trans (World.grownBy_alloc w (Obj.cells #[.slice na t.nodes.length ncap, .slice ta t.tail.length tcap] 30) none) (World.grownBy_alloc _ (Obj.cells #[.slice none 0 0, .slice none 0 0] 30) _))
  go_enter Tryz.func7, Tryz.ntmps7
  go_wp2_with fail
  refine (HV.out _ gA.out).mono ?_
  rintro e w1 ⟨rfl, g1⟩
  have q0 := g1.cell (a := ⟨w.heap.size, 0, none⟩) (v := .slice na t.nodes.length ncap) (by simp [go_sem]) (by simp)
  obtain ⟨r0, r0f⟩ := grown_bothC (a := ⟨w.heap.size + 1, 0, none⟩) (v := .slice none 0 0) g1 (by simp [go_sem]) (by simp [go_sem])
  obtain ⟨r1, r1f⟩ := grown_bothC (a := ⟨w.heap.size + 1, 1, none⟩) (v := .slice none 0 0) g1 (by simp [go_sem]) (by simp [go_sem])
  have G1 := hide (grown_trans gA.out g1)
  have hs1 : w.heap.size + 2 ≤ w1.heap.size := by have := g1.size; simp at this; omega
  clear g1 gA HV
  cases vv with
  | false =>
    clear HCl
    go_wp2
    refine bodyPost_ret (v := .agg #[.slice none 0 0, .slice none 0 0]) (by simp [results, Tryz.results7, go_sem, r0, r1]) rfl ?_
    refine ⟨_, rfl, rfl, ?_⟩
    exact grown_of_below (((below_of_grown G1.out).setCell (by simp) _).setCell (by simp) _)
  | true =>
    have HCl := hide (HCl.out (hne rfl))
    go_wp2_with fail
    refine (HCl.out _ G1.out).mono ?_
    rintro e w2 ⟨g, gcap, xs0, rfl, hrow, HTX, g2⟩
    obtain ⟨r0, r0f⟩ := grown_bothC g2 r0 r0f
    obtain ⟨r1, r1f⟩ := grown_bothC g2 r1 r1f
    have G2 := hide (grown_trans G1.out g2)
    have hs2 := g2.size
    have hg := World.ownsRow.lt hrow g rfl
    have HROW := hide hrow
    have G12 := hide g2
    clear g2 q0 hrow
    go_wp2
    go_loopw [15] (fun i W => ∃ (k : Nat) (xs : List Value) (ts : List V3), k ≤ t.nodes.length ∧ i = .int .i64 k ∧ W.ownsRow w1.heap.size 42 8 (.slice (some ⟨g, 0, none⟩) t.nodes.length gcap) t.nodes.length xs ∧ ts.length = k ∧ Inc (g + 1) ts W.heap.size ∧ Below w1.heap.size w2 W ∧
        Hid (∀ i, k * 8 ≤ i → xs[i]? = xs0[i]?) ∧ Hid (∀ j p t3, t.nodes[j]? = some p → ts[j]? = some t3 → At8 xs (j * 8) (stripN p) (.slice none 0 0) t3.1 t3.2.1 t3.2.2 (.slice none 0 0) ∧ Own3 (g + 1) W p t3)) (fun i _ => t.nodes.length - (intOf i).toNat)
    case atStart =>
      refine ⟨0, xs0, [], Nat.zero_le _, rfl, HROW.out, rfl, ?_, Below.refl _ _, fun _ _ => rfl, fun j p t3 _ h => by simp at h⟩
      show g + 1 ≤ w2.heap.size
      omega
    case round =>
      obtain ⟨k, xs, ts, hk, rfl, hrow, hts, hinc, hbel, HX, HT⟩ := hrel
      by_cases hlt : k < t.nodes.length
      · have hkl : (k : Int) < t.nodes.length := by omega
        have hxl := hrow.1
        have hpk : t.nodes[k]? = some t.nodes[k] := by simp [hlt]
        have hpo := HOK.out.ns _ (List.getElem_mem hlt)
        obtain ⟨lv, kv, xv, uv, tv', hat0, rk, rx, ru, sk, sx, su⟩ := HTX.out k _ hpk
        have hat : At8 xs (k * 8) t.nodes[k] lv kv xv uv tv' := by
          obtain ⟨e0, e1, e2, e3, e4, e5, e6, e7⟩ := hat0
          exact ⟨by rw [HX.out _ (by omega)]; exact e0, by rw [HX.out _ (by omega)]; exact e1, by rw [HX.out _ (by omega)]; exact e2, by rw [HX.out _ (by omega)]; exact e3, by rw [HX.out _ (by omega)]; exact e4, by rw [HX.out _ (by omega)]; exact e5, by rw [HX.out _ (by omega)]; exact e6, by rw [HX.out _ (by omega)]; exact e7⟩
        have hc1 := World.ownsRow.cellAt hrow (k * 8 + 1) (by omega)
        rw [hat.2.1] at hc1
        have hf1 := World.ownsRow.frozenAt hrow (k * 8 + 1)
        have hc7 := World.ownsRow.cellAt hrow (k * 8 + 7) (by omega)
        rw [hat.2.2.2.2.2.2.2] at hc7
        have hf7 := World.ownsRow.frozenAt hrow (k * 8 + 7)
        have hs0 := (World.ownsRow.stored hrow (k * 8 + 1) (.slice none 0 0)).1
        have hs1' := (World.ownsRow.stored hs0 (k * 8 + 7) (.slice none 0 0)).1
        obtain ⟨W2, hW2⟩ : ∃ W2, W2 = (wr.setCell ⟨g, k * 8 + 1, none⟩ (.slice none 0 0)).setCell ⟨g, k * 8 + 7, none⟩ (.slice none 0 0) := ⟨_, rfl⟩
        have hsz2 : W2.heap.size = wr.heap.size := by rw [hW2]; simp
        have d3 : W2.drew.cell? ⟨g, k * 8 + 3, none⟩ = some kv := by
          have := World.ownsRow.cellAt hs1' (k * 8 + 3) (by omega)
          rw [← hW2, List.getElem?_set_ne (by omega), List.getElem?_set_ne (by omega), hat.2.2.2.1] at this
          exact this
        have d4 : W2.drew.cell? ⟨g, k * 8 + 4, none⟩ = some xv := by
          have := World.ownsRow.cellAt hs1' (k * 8 + 4) (by omega)
          rw [← hW2, List.getElem?_set_ne (by omega), List.getElem?_set_ne (by omega), hat.2.2.2.2.1] at this
          exact this
        have d5 : W2.drew.cell? ⟨g, k * 8 + 5, none⟩ = some uv := by
          have := World.ownsRow.cellAt hs1' (k * 8 + 5) (by omega)
          rw [← hW2, List.getElem?_set_ne (by omega), List.getElem?_set_ne (by omega), hat.2.2.2.2.2.1] at this
          exact this
        rw [← hW2] at hs1'
        have gd : W2.grownBy W2.drew none := ⟨rfl, rfl, rfl, Nat.le_refl _, fun _ _ _ => rfl⟩
        have hrow2 := World.ownsRow.kept hs1' gd (.inr (by simp [Value.ownBlock]))
        have hb2 : Below w1.heap.size w2 W2.drew := by
          have := (hbel.setCell (p := ⟨g, k * 8 + 1, none⟩) hg.1 (.slice none 0 0)).setCell (p := ⟨g, k * 8 + 7, none⟩) hg.1 (.slice none 0 0)
          rw [← hW2] at this
          exact this.grown gd (by have := this.size; omega) (fun _ e => by cases e)
        have hB12 := (below_of_grown G12.out).trans hb2
        have gW := grown_of_below hB12
        have HK1 : Hid (∀ W : World, W2.drew.grownBy W none → _) := fun W (gg : W2.drew.grownBy W none) => cloneI_any kv t.nodes[k].key W (((rk.keep gW).keep gg).wideC (Nat.le_trans gW.size gg.size)) (by have := hpo.key; omega)
        have HK2 : Hid (∀ W : World, W2.drew.grownBy W none → _) := fun W (gg : W2.drew.grownBy W none) => cloneB_any xv t.nodes[k].text W (((rx.keep gW).keep gg).wideC (Nat.le_trans gW.size gg.size)) (by have := hpo.text; omega)
        have HK3 : Hid (∀ W : World, W2.drew.grownBy W none → _) := fun W (gg : W2.drew.grownBy W none) => cloneI_any uv t.nodes[k].units W (((ru.keep gW).keep gg).wideC (Nat.le_trans gW.size gg.size)) (by have := hpo.units; omega)
        have HT2 : Hid (∀ W : World, W2.drew.grownBy W none → ∀ j p t3, t.nodes[j]? = some p → ts[j]? = some t3 → Own3 (g + 1) W p t3) := fun W gg j p t3 h1 h2 => by
          have h := (((HT.out j p t3 h1 h2).2.set g (k * 8 + 1) (.slice none 0 0) (by omega)).set g (k * 8 + 7) (.slice none 0 0) (by omega))
          rw [← hW2] at h
          exact (h.later gd).later gg
        obtain ⟨ka, kc, hkv, _, _⟩ := sk
        obtain ⟨xa, xc, hxv, _, _⟩ := sx
        obtain ⟨ua, uc, huv, _, _⟩ := su
        subst hkv hxv huv
        have HPK := hide hpk
        have HAT := hide hat
        have HROW2 := hide hrow2
        have HB2 := hide hb2
        obtain ⟨I, hI⟩ : ∃ I : World → Prop, I = (fun W : World => W.cell? ⟨g, k * 8 + 3, none⟩ = some (.slice ka t.nodes[k].key.length kc) ∧ W.cell? ⟨g, k * 8 + 4, none⟩ = some (.slice xa t.nodes[k].text.length xc) ∧ W.cell? ⟨g, k * 8 + 5, none⟩ = some (.slice ua t.nodes[k].units.length uc)) := ⟨_, rfl⟩
        have HI0 : I W2.drew := by rw [hI]; exact ⟨d3, d4, d5⟩
        clear hpk hat hat0 hrow2 hb2 hs0 hs1' hrow hbel rk rx ru gW hB12 hpo d3 d4 d5 gd
        generalize t.nodes[k] = p at *
        go_wp2
        rw [← hW2]
        refine region_anyI I (fun i => !(i == 6 || i == 7 || i == 11 || i == 12 || i == 16 || i == 17)) (by kernel_rfl) ?_
        show anyI _ _ _ _ _ _ 27 (Array.replicate 27 false) _ _
        refine anyI_pure (i := 0) (.pointer (some ⟨g, k * 8, none⟩)) rfl (by kernel_rfl) (by kernel_rfl) (by kernel_rfl) rfl (fun _ _ _ h => h) (yldA rfl (fun W => by go_simp)) ?_
        refine anyI_pure (i := 1) (.pointer (some ⟨g, k * 8, none⟩)) rfl (by kernel_rfl) (by kernel_rfl) (by kernel_rfl) rfl (fun _ _ _ h => h) (yldA rfl (fun W => by go_simp)) ?_
        refine anyI_pure (i := 2) (.pointer (some ⟨g, k * 8, none⟩)) rfl (by kernel_rfl) (by kernel_rfl) (by kernel_rfl) rfl (fun _ _ _ h => h) (yldA rfl (fun W => by go_simp)) ?_
        refine anyI_pure (i := 3) (.pointer (some ⟨g, k * 8, none⟩)) rfl (by kernel_rfl) (by kernel_rfl) (by kernel_rfl) rfl (fun _ _ _ h => h) (yldA rfl (fun W => by go_simp)) ?_
        refine anyI_pure (i := 4) (.pointer (some ⟨g, k * 8, none⟩)) rfl (by kernel_rfl) (by kernel_rfl) (by kernel_rfl) rfl (fun _ _ _ h => h) (yldA rfl (fun W => by go_simp)) ?_
        refine anyI_pure (i := 5) (.pointer (some ⟨g, k * 8 + 3, none⟩)) rfl (by kernel_rfl) (by kernel_rfl) (by kernel_rfl) rfl (fun _ _ _ h => h) (yldA rfl (fun W => by go_simp)) ?_
        refine anyI_pure (i := 8) (.pointer (some ⟨g, k * 8, none⟩)) rfl (by kernel_rfl) (by kernel_rfl) (by kernel_rfl) rfl (fun _ _ _ h => h) (yldA rfl (fun W => by go_simp)) ?_
        refine anyI_pure (i := 9) (.pointer (some ⟨g, k * 8, none⟩)) rfl (by kernel_rfl) (by kernel_rfl) (by kernel_rfl) rfl (fun _ _ _ h => h) (yldA rfl (fun W => by go_simp)) ?_
        refine anyI_pure (i := 10) (.pointer (some ⟨g, k * 8 + 4, none⟩)) rfl (by kernel_rfl) (by kernel_rfl) (by kernel_rfl) rfl (fun _ _ _ h => h) (yldA rfl (fun W => by go_simp)) ?_
        refine anyI_pure (i := 13) (.pointer (some ⟨g, k * 8, none⟩)) rfl (by kernel_rfl) (by kernel_rfl) (by kernel_rfl) rfl (fun _ _ _ h => h) (yldA rfl (fun W => by go_simp)) ?_
        refine anyI_pure (i := 14) (.pointer (some ⟨g, k * 8, none⟩)) rfl (by kernel_rfl) (by kernel_rfl) (by kernel_rfl) rfl (fun _ _ _ h => h) (yldA rfl (fun W => by go_simp)) ?_
        refine anyI_pure (i := 15) (.pointer (some ⟨g, k * 8 + 5, none⟩)) rfl (by kernel_rfl) (by kernel_rfl) (by kernel_rfl) rfl (fun _ _ _ h => h) (yldA rfl (fun W => by go_simp)) ?_
        generalize hG : Act.put _ _ _ = A0
        simp [Act.put] at hG
        subst hG
        refine anyI_takeL (i := 6) (.slice ka p.key.length kc) rfl (by kernel_rfl) (by kernel_rfl) (by kernel_rfl) (by kernel_rfl) (fun _ _ _ h => h) HI0 (yldI rfl (fun W hW => by rw [hI] at hW; obtain ⟨h1, h2, h3⟩ := hW; go_simp)) ?_
        refine anyI_takeL (i := 11) (.slice xa p.text.length xc) rfl (by kernel_rfl) (by kernel_rfl) (by kernel_rfl) (by kernel_rfl) (fun _ _ _ h => h) HI0 (yldI rfl (fun W hW => by rw [hI] at hW; obtain ⟨h1, h2, h3⟩ := hW; go_simp)) ?_
        refine anyI_takeL (i := 16) (.slice ua p.units.length uc) rfl (by kernel_rfl) (by kernel_rfl) (by kernel_rfl) (by kernel_rfl) (fun _ _ _ h => h) HI0 (yldI rfl (fun W hW => by rw [hI] at hW; obtain ⟨h1, h2, h3⟩ := hW; go_simp)) ?_
        generalize hG : Act.put _ _ _ = A0
        simp [Act.put] at hG
        subst hG
        refine anyI_one (i := 7) (by kernel_rfl) (wpOp_call rfl rfl (by go_simp) (HK1.out _ (World.grownBy.refl _ _)) ?_)
        rintro e w3 ⟨v3, rfl, o3, g3⟩
        have HI1 : I w3 := by rw [hI] at HI0 ⊢; exact ⟨g3.cell HI0.1 (by simp), g3.cell HI0.2.1 (by simp), g3.cell HI0.2.2 (by simp)⟩
        refine ⟨_, rfl, .inr HI1, ?_⟩
        refine anyI_one (i := 12) (by kernel_rfl) (wpOp_call rfl rfl (by go_simp) (HK2.out _ g3) ?_)
        rintro e w4 ⟨v4, rfl, o4, g4⟩
        have HI2 : I w4 := by rw [hI] at HI1 ⊢; exact ⟨g4.cell HI1.1 (by simp), g4.cell HI1.2.1 (by simp), g4.cell HI1.2.2 (by simp)⟩
        refine ⟨_, rfl, .inr HI2, ?_⟩
        refine anyI_one (i := 17) (by kernel_rfl) (wpOp_call rfl rfl (by go_simp) (HK3.out _ (grown_trans g3 g4)) ?_)
        rintro e w5 ⟨v5, rfl, o5, g5⟩
        have HI3 : I w5 := by rw [hI] at HI2 ⊢; exact ⟨g5.cell HI2.1 (by simp), g5.cell HI2.2.1 (by simp), g5.cell HI2.2.2 (by simp)⟩
        refine ⟨_, rfl, .inr HI3, ?_⟩
        have g25 := grown_trans (grown_trans g3 g4) g5
        have hrow5 := World.ownsRow.kept HROW2.out g25 (.inr (by simp [Value.ownBlock]))
        have hin : In3 wr.heap.size (v3, v4, v5) w5.heap.size := ⟨w3.heap.size, w4.heap.size, by have := g3.size; simp at this; omega, g4.size, g5.size, fun b e => by have := World.ownsRow.lt o3 b e; simp at this; omega, fun b e => World.ownsRow.lt o4 b e, fun b e => World.ownsRow.lt o5 b e⟩
        have hgw : g + 1 ≤ wr.heap.size := by have := hinc.le; omega
        have hown : Own3 (g + 1) w5 p (v3, v4, v5) := ⟨row_base (by simp; omega) ((o3.later g4).later g5), row_base (by have := g3.size; simp at this; omega) (o4.later g5), row_base (by have := g3.size; have := g4.size; simp at *; omega) o5⟩
        have k3 := World.ownsRow.frozenAt hrow5 (k * 8 + 3)
        have k4 := World.ownsRow.frozenAt hrow5 (k * 8 + 4)
        have k5 := World.ownsRow.frozenAt hrow5 (k * 8 + 5)
        have hs3 := (World.ownsRow.stored hrow5 (k * 8 + 3) v3).1
        have hs4 := (World.ownsRow.stored hs3 (k * 8 + 4) v4).1
        have hs5 := (World.ownsRow.stored hs4 (k * 8 + 5) v5).1
        obtain ⟨a3, c3, hv3, _⟩ := o3.rd
        obtain ⟨a4, c4, hv4, _⟩ := o4.rd
        obtain ⟨a5, c5, hv5, _⟩ := o5.rd
        subst hv3 hv4 hv5
        rw [hI] at HI3
        obtain ⟨y3, y4, y5⟩ := HI3
        obtain ⟨W8, hW8⟩ : ∃ W8, W8 = ((w5.setCell ⟨g, k * 8 + 3, none⟩ (.slice a3 p.key.length c3)).setCell ⟨g, k * 8 + 4, none⟩ (.slice a4 p.text.length c4)).setCell ⟨g, k * 8 + 5, none⟩ (.slice a5 p.units.length c5) := ⟨_, rfl⟩
        have HS : Hid (W8.ownsRow w1.heap.size 42 8 (.slice (some ⟨g, 0, none⟩) t.nodes.length gcap) t.nodes.length (str5 xs (k * 8) (.slice a3 p.key.length c3) (.slice a4 p.text.length c4) (.slice a5 p.units.length c5))) := by rw [hW8]; exact hs5
        have hs8 : W8.heap.size = w5.heap.size := by rw [hW8]; simp
        have HINC : Hid (Inc (g + 1) (ts ++ [(.slice a3 p.key.length c3, .slice a4 p.text.length c4, .slice a5 p.units.length c5)]) W8.heap.size) := by rw [hs8]; exact Inc.snoc hin hinc
        have HB8 : Hid (Below w1.heap.size w2 W8) := by
          rw [hW8]
          exact ((((HB2.out.grown g25 (by have := HB2.out.size; omega) (fun _ e => by cases e)).setCell (p := ⟨g, k * 8 + 3, none⟩) hg.1 _).setCell (p := ⟨g, k * 8 + 4, none⟩) hg.1 _).setCell (p := ⟨g, k * 8 + 5, none⟩) hg.1 _)
        have set3 : ∀ q t3, Own3 (g + 1) w5 q t3 → Own3 (g + 1) W8 q t3 := fun q t3 h => by
          rw [hW8]
          exact ((h.set g _ _ (by omega)).set g _ _ (by omega)).set g _ _ (by omega)
        have HX2 : Hid (∀ i, (k + 1) * 8 ≤ i → (str5 xs (k * 8) (.slice a3 p.key.length c3) (.slice a4 p.text.length c4) (.slice a5 p.units.length c5))[i]? = xs0[i]?) := fun i hi => by rw [str5_ne _ _ _ _ _ _ (by omega)]; exact HX.out i (by omega)
        have HTN : Hid (∀ j q t3, t.nodes[j]? = some q → (ts ++ [((.slice a3 p.key.length c3, .slice a4 p.text.length c4, .slice a5 p.units.length c5) : V3)])[j]? = some t3 → At8 (str5 xs (k * 8) (.slice a3 p.key.length c3) (.slice a4 p.text.length c4) (.slice a5 p.units.length c5)) (j * 8) (stripN q) (.slice none 0 0) t3.1 t3.2.1 t3.2.2 (.slice none 0 0) ∧ Own3 (g + 1) W8 q t3) := fun j q t3 h1 h2 => by
          by_cases hjk : j < k
          · rw [List.getElem?_append_left (by omega)] at h2
            exact ⟨(HT.out j q t3 h1 h2).1.ne5 _ _ _ _ (by omega), set3 _ _ (HT2.out w5 g25 j q t3 h1 h2)⟩
          · have hje : j = k := by
              have := (List.getElem?_eq_some_iff.1 h2).1
              simp at this; omega
            subst hje
            rw [HPK.out] at h1
            cases h1
            rw [List.getElem?_append_right (by omega), hts, Nat.sub_self] at h2
            simp at h2
            subst h2
            exact ⟨HAT.out.str _ _ _ (by omega), set3 _ _ hown⟩
        clear hs3 hs4 hs5 set3 hs8 hin hown hrow5 o3 o4 o5 g3 g4 g5 g25 HI0 HI1 HI2 HK1 HK2 HK3 HT2 HROW2 HB2 HAT HPK
        refine anyI_one (i := 18) (by kernel_rfl) (wpOp_val (w' := w5) (v := .pointer (some ⟨g, k * 8, none⟩)) rfl rfl (by go_simp) ⟨.inl rfl, ?_⟩)
        refine anyI_one (i := 19) (by kernel_rfl) (wpOp_val (w' := w5) (v := .pointer (some ⟨g, k * 8 + 3, none⟩)) rfl rfl (by go_simp) ⟨.inl rfl, ?_⟩)
        refine anyI_one (i := 20) (by kernel_rfl) (wpOp_skip (w' := w5.setCell ⟨g, k * 8 + 3, none⟩ (.slice a3 p.key.length c3)) rfl rfl (by go_simp) ⟨.inl rfl, ?_⟩)
        refine anyI_one (i := 21) (by kernel_rfl) (wpOp_val (w' := w5.setCell ⟨g, k * 8 + 3, none⟩ (.slice a3 p.key.length c3)) (v := .pointer (some ⟨g, k * 8, none⟩)) rfl rfl (by go_simp) ⟨.inl rfl, ?_⟩)
        refine anyI_one (i := 22) (by kernel_rfl) (wpOp_val (w' := w5.setCell ⟨g, k * 8 + 3, none⟩ (.slice a3 p.key.length c3)) (v := .pointer (some ⟨g, k * 8 + 4, none⟩)) rfl rfl (by go_simp) ⟨.inl rfl, ?_⟩)
        refine anyI_one (i := 23) (by kernel_rfl) (wpOp_skip (w' := (w5.setCell ⟨g, k * 8 + 3, none⟩ (.slice a3 p.key.length c3)).setCell ⟨g, k * 8 + 4, none⟩ (.slice a4 p.text.length c4)) rfl rfl (by go_simp) ⟨.inl rfl, ?_⟩)
        refine anyI_one (i := 24) (by kernel_rfl) (wpOp_val (w' := (w5.setCell ⟨g, k * 8 + 3, none⟩ (.slice a3 p.key.length c3)).setCell ⟨g, k * 8 + 4, none⟩ (.slice a4 p.text.length c4)) (v := .pointer (some ⟨g, k * 8, none⟩)) rfl rfl (by go_simp) ⟨.inl rfl, ?_⟩)
        refine anyI_one (i := 25) (by kernel_rfl) (wpOp_val (w' := (w5.setCell ⟨g, k * 8 + 3, none⟩ (.slice a3 p.key.length c3)).setCell ⟨g, k * 8 + 4, none⟩ (.slice a4 p.text.length c4)) (v := .pointer (some ⟨g, k * 8 + 5, none⟩)) rfl rfl (by go_simp) ⟨.inl rfl, ?_⟩)
        refine anyI_one (i := 26) (by kernel_rfl) (wpOp_skip (w' := ((w5.setCell ⟨g, k * 8 + 3, none⟩ (.slice a3 p.key.length c3)).setCell ⟨g, k * 8 + 4, none⟩ (.slice a4 p.text.length c4)).setCell ⟨g, k * 8 + 5, none⟩ (.slice a5 p.units.length c5)) rfl rfl (by go_simp) ⟨.inl rfl, ?_⟩)
        refine anyI_done (by kernel_rfl) ?_ _
        rw [← hW8]
        subst hI
        clear hW8 hW2 k3 k4 k5 y3 y4 y5
        go_wp2
        go_roundw
        case rel => exact ⟨k + 1, _, _, by omega, by go_num, HS.out, by simp [hts], HINC.out, HB8.out, HX2.out, HTN.out⟩
        case measure => simp [intOf]; omega
      · have hkn : k = t.nodes.length := by omega
        subst hkn
        have z0 : wr.cell? ⟨w.heap.size + 1, 0, none⟩ = some (.slice none 0 0) := by rw [hbel.cell (by simp; omega)]; exact r0
        have z1 : wr.cell? ⟨w.heap.size + 1, 1, none⟩ = some (.slice none 0 0) := by rw [hbel.cell (by simp; omega)]; exact r1
        have f0 : wr.frozen? ⟨w.heap.size + 1, 0, none⟩ = false := by rw [hbel.frozen (by simp; omega)]; exact r0f
        have f1 : wr.frozen? ⟨w.heap.size + 1, 1, none⟩ = false := by rw [hbel.frozen (by simp; omega)]; exact r1f
        have HBw := hide (((below_of_grown G2.out).trans (hbel.mono (by omega))))
        have HRo := hide hrow
        have HINC := hide hinc
        have hgw : g + 1 ≤ wr.heap.size := hinc.le
        clear hrow hbel hinc
        go_wp2
        refine bodyPost_ret (v := .agg #[.slice (some ⟨g, 0, none⟩) t.nodes.length gcap, .slice none 0 0]) (by simp [results, Tryz.results7, go_sem, z0, z1]) rfl ?_
        refine ⟨_, rfl, ?_, grown_of_below ((HBw.out.setCell (by simp) _).setCell (by simp) _)⟩
        have rr := row_setC (row_setC HRo.out ⟨w.heap.size + 1, 0, none⟩ (.slice (some ⟨g, 0, none⟩) t.nodes.length gcap) (fun e => by have := (World.ownsRow.lt HRo.out _ e).1; simp only at this; omega)) ⟨w.heap.size + 1, 1, none⟩ (.slice none 0 0) (fun e => by have := (World.ownsRow.lt HRo.out _ e).1; simp only at this; omega)
        exact ⟨g, gcap, xs, ts, rfl, row_base (by omega) rr, hts, by simpa using HINC.out, fun j p t3 h1 h2 => ⟨(HT.out j p t3 h1 h2).1, ((HT.out j p t3 h1 h2).2.set _ _ _ (by omega)).set _ _ _ (by omega)⟩⟩
end Go.Proofs.YthcjmmpkgljjhaaGreatDoor

