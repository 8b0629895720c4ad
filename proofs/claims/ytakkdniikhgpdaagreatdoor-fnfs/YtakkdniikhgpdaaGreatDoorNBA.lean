import Derived.Test.YtakkdniikhgpdaaGreatDoorNAV
import Derived.Test.YtakkdniikhgpdaaGreatDoorNAY
import Derived.Test.YtakkdniikhgpdaaGreatDoorNAZ
namespace Go.Proofs.YtakkdniikhgpdaaGreatDoor
open Go.RowKit
attribute [-go_sem] Builtin.append_

set_option maxHeartbeats 4000000 in
set_option maxRecDepth 100000 in
/-- spec.l7drawAny. -/
theorem drawAny_k {F : Nat} {v : Value} {zs : List Int} (hz : Zk zs) (i : Nat) (Γ : Gk) (w : World) (hs : KS F v zs i Γ w) :
    Calls Tryz.prog 21 #[.pointer (some ⟨F, 0, none⟩)] w fun e w' => ∃ v', e = .returned (.agg #[v']) ∧ RwF F (w.heap.size + 1) w' v' (dAny zs i).1 ∧ ∃ Γ', KD F v zs Γ w (dAny zs i).2 Γ' w' := by
  have HZ := hide hz
  have hFw := hs.lt
  have hb1 := nx_bd hz.by' i
  have HP : Hid (dAny zs i = if (nx zs i).1 % 10 = 0 then spF zs (dFs zs (nx zs i).2).1 (dFs zs (nx zs i).2).2 else dFs zs (nx zs i).2) := rfl
  have HSM := hide (dFs_sm hz.by' (nx zs i).2)
  have HDF : Hid (∀ W Γ', KS F v zs (nx zs i).2 Γ' W → _) := fun W Γ' (h : KS F v zs (nx zs i).2 Γ' W) => drawFs_k hz (nx zs i).2 Γ' W h
  have g0 := World.grownBy_alloc w (Obj.cells #[Value.slice none 0 0] 25) none
  have HN1 := hide (((KD.refl hs).keep g0).next hz)
  have HBX := hide (Bx.new w (.slice none 0 0))
  generalize dFs zs (nx zs i).2 = DF at *
  generalize nx zs i = n1 at *
  clear hs hz g0
  go_enter Tryz.func21, Tryz.ntmps21
  go_wp2_with fail
  refine HN1.out.mono ?_
  rintro e w1 ⟨rfl, D1, g1⟩
  have hbR := HBX.out.keep g1 (by simp; omega)
  have HD1 := hide D1
  have HB1 := hide hbR
  have HFS := hide (HDF.out w1 Γ D1.st)
  have hw1 : w.heap.size < w1.heap.size := hbR.lt
  clear HN1 HBX HDF D1 g1 hbR
  go_wp2_with fail
  refine HFS.out.mono ?_
  rintro e w2 ⟨v2, rfl, hrw2, Γ2, D2⟩
  have gA := World.grownBy_alloc w2 (Obj.cells #[v2] 25) none
  have hsA : (w2.alloc (Obj.cells #[v2] 25)).heap.size = w2.heap.size + 1 := by simp
  have hs2 := D2.gr.size
  have hrwA := hrw2.keep gA (.inl rfl)
  have DA := D2.keep gA
  obtain ⟨a2, c2, hv2, _, _⟩ := hrw2.rd.sl
  by_cases h0 : n1.1 % 10 = 0
  · have HE := hide (HP.out.trans (if_pos h0))
    have HSP := hide (spoilFs_k HZ.out DF.2 Γ Γ2 w1 _ DA v2 DF.1 (w1.heap.size + 1) (by omega) (by omega) hrwA HSM.out)
    generalize DF.1.length = L2 at hv2
    subst hv2
    clear HP hrwA DA hrw2 D2 gA HFS
    go_wp2_with fail
    refine HSP.out.mono ?_
    rintro e w3 ⟨v3, rfl, hrw3, D3⟩
    have hbR3 := HB1.out.keep D3.gr (by simp; omega)
    have HR := hide ((hrw3.base (B' := w.heap.size + 1) (by omega) (by omega)).box hbR3 (by omega) v3)
    have HD := hide ((HD1.out.trans D3).box hbR3 (Nat.le_refl _) v3)
    have yR := hbR3.c
    have fR := hbR3.fr
    have y6 := (hbR3.set v3).c
    obtain ⟨a3, c3, hv3, _, _⟩ := hrw3.rd.sl
    generalize (spF zs DF.1 DF.2).1.length = L3 at hv3
    subst hv3
    clear hrw3 D3 hbR3 HSP HD1 HB1
    go_wp2
    refine bodyPost_ret (v := .agg #[.slice a3 L3 c3]) (by simp [results, Tryz.results21, go_sem, y6]) rfl ?_
    rw [HE.out]
    exact ⟨_, rfl, HR.out, _, HD.out⟩
  · have HE := hide (HP.out.trans (if_neg h0))
    have b0 : (n1.1 % 10 == 0) = false := by simpa using h0
    have hbR3 := HB1.out.keep DA.gr (by simp; omega)
    have hX := Bx.new w2 v2
    have HR := hide ((hrwA.base (B' := w.heap.size + 1) (by omega) (by omega)).box hbR3 (by omega) v2)
    have HD := hide ((HD1.out.trans DA).box hbR3 (Nat.le_refl _) v2)
    have yX := hX.c
    have yR := hbR3.c
    have fR := hbR3.fr
    have y6 := (hbR3.set v2).c
    generalize DF.1.length = L2 at hv2
    subst hv2
    clear HP hrwA DA hrw2 D2 gA HFS hX hbR3 hsA
    go_wp2
    refine bodyPost_ret (v := .agg #[.slice a2 L2 c2]) (by simp [results, Tryz.results21, go_sem, y6]) rfl ?_
    rw [HE.out]
    exact ⟨_, rfl, HR.out, _, HD.out⟩
end Go.Proofs.YtakkdniikhgpdaaGreatDoor

namespace Go.Proofs.YtakkdniikhgpdaaGreatDoor
open Go.RowKit

set_option maxHeartbeats 2000000 in
set_option maxRecDepth 100000 in
/-- The reader's rest. -/
theorem rest_k {F : Nat} {a : Option Addr} {cap : Nat} {zs : List Int} {i : Nat} {Γ : Gk} {w : World} (hs : KS F (.slice a zs.length cap) zs i Γ w) (hz : Zk zs) (hc : zs.length ≤ cap) (hcm : cap ≤ 9223372036854775807) :
    Calls Tryz.prog 20 #[.pointer (some ⟨F, 0, none⟩)] w fun e w' => ∃ a' c', e = .returned (.slice a' (zs.drop i).length c') ∧ RdB F w' (.slice a' (zs.drop i).length c') (zs.drop i) ∧ (zs.drop i).length ≤ c' ∧ c' ≤ 9223372036854775807 ∧ w.grownBy w' none := by
  have q0 := hs.rd.c0
  have q1 := hs.rd.c1
  have hl := hz.ln
  have hi := hs.le
  have HT := hide hs.tx
  have hld : (zs.drop i).length = zs.length - i := List.length_drop
  have hi' : (i : Int) ≤ zs.length := by omega
  have hcI : (zs.length : Int) ≤ cap := by omega
  clear hs hz
  go_enter Tryz.func20, Tryz.ntmps20
  go_wp2
  go_quiet (fail)
  have HX : Hid (i < zs.length → (if cap = i then a else Option.map (fun x => x.add i) a) = Option.map (fun x => x.add i) a) := fun h => if_neg (by omega)
  generalize (if cap = i then a else Option.map (fun x => x.add i) a) = X at *
  go_wp2
  go_ret
  refine ⟨X, cap - i, by first | rfl | (rw [hld]; rfl), ?_, by omega, by omega, grown_drewN (World.grownBy.refl _ _) _⟩
  refine ⟨X, cap - i, by rw [hld], fun h0 => ?_⟩
  have hlt : i < zs.length := by
    by_cases h : i < zs.length
    · exact h
    · exact absurd (List.drop_eq_nil_of_le (by omega)) h0
  obtain ⟨a', cap', e, hr⟩ := HT.out
  simp only [Value.slice.injEq, true_and] at e
  obtain ⟨rfl, rfl⟩ := e
  obtain ⟨b, off, rfl, hb, hc⟩ := hr (fun e => by rw [e] at hlt; simp at hlt)
  refine ⟨b, off + i, (HX.out hlt).trans (by simp [Addr.add_lit]), hb, fun j hj => ?_⟩
  rw [hld] at hj
  have := hc (i + j) (by omega)
  rw [List.getElem?_drop, show off + i + j = off + (i + j) by omega]
  exact this
end Go.Proofs.YtakkdniikhgpdaaGreatDoor

namespace Go.Proofs.YtakkdniikhgpdaaGreatDoor
open Go.RowKit
attribute [-go_sem] Builtin.append_

theorem Txo.bxo {F b : Nat} {g : Option Nat} {W : World} {u : Value} {t : List Int} {a : Option Addr} {n c : Nat} (h : Txo F g W u t) (hb : Bx W b (.slice a n c)) (z : Value) : Txo F g (W.setCell ⟨b, 0, none⟩ z) u t := by
  obtain ⟨a', cap, h1, h2, h3, h4⟩ := h
  refine ⟨a', cap, h1, h2, h3, fun h0 => ?_⟩
  obtain ⟨b', off, e, hb', hF, hg, hc⟩ := h4 h0
  have hne : b' ≠ b := fun e2 => by
    subst e2
    have := hc 0 (List.length_pos_iff.2 h0)
    rw [cell_of_row W b' _ _ _ _ hb] at this
    rcases hj : off + 0 with _ | n
    · rw [hj] at this; simp at this
    · rw [hj] at this; simp at this
  have gr : W.grownBy (W.setCell ⟨b, 0, none⟩ z) (some b) := ⟨rfl, rfl, rfl, by simp, fun i _ hn => heap_setCell_other W ⟨b, 0, none⟩ i z (fun e => hn (by rw [e]))⟩
  exact ⟨b', off, e, Nat.lt_of_lt_of_le hb' gr.size, hF, hg, fun k hk => gr.cell (hc k hk) (by simpa using hne)⟩
theorem rd_openW (a : Option Addr) (cap : Nat) (zs : List Int) (w : World) (o : Obj) (hv : RdB w.heap.size w (.slice a zs.length cap) zs) :
    RdB w.heap.size (w.alloc o) (.slice a (zs.take 500).length cap) (zs.take 500) := by
  have := open_rdr hv o
  rw [show min 500 zs.length = (zs.take 500).length by rw [List.length_take]] at this
  exact this

set_option maxHeartbeats 4000000 in
set_option maxRecDepth 100000 in
/-- spec.DrawFsWrite. -/
theorem drawFsWrite_k (a : Option Addr) (cap : Nat) (zs : List Int) (w : World) (hv : RdB w.heap.size w (.slice a zs.length cap) zs) (hby : Bys zs) (hm : zs.length ≤ 1048576) (hlc : zs.length ≤ cap) (hcm : cap ≤ 9223372036854775807) :
    Calls Tryz.prog 4 #[.slice a zs.length cap] w fun e w' => ∃ fv nv dv, e = .returned (.tuple #[.agg #[fv], nv, dv]) ∧ (∃ a n c, nv = .slice a n c) ∧ RdF w'.heap.size w' fv (dWri zs).1 ∧ RdB w'.heap.size w' dv (dWri zs).2 ∧ Sl dv (dWri zs).2.length ∧ w.grownBy w' none := by
  obtain ⟨w0, hw0⟩ : ∃ w0, w0 = w.alloc (Obj.cells #[.slice none 0 0] 25) := ⟨_, rfl⟩
  have gA : w.grownBy w0 none := by rw [hw0]; exact World.grownBy_alloc _ _ _
  have bR : Bx w0 w.heap.size (.slice none 0 0) := by rw [hw0]; exact Bx.new w _
  have hv0 : RdB w0.heap.size w0 (.slice a zs.length cap) zs := (hv.keep gA).wideF gA.size
  have HO := hide (l1open_any a cap zs w0 hm hlc hcm)
  have HZ : Hid (Zk (zs.take 500)) := ⟨fun z hz => hby z (List.mem_of_mem_take hz), by rw [List.length_take]; omega⟩
  have hl5 : min 500 zs.length = (zs.take 500).length := by rw [List.length_take]
  rw [hl5] at HO
  obtain ⟨w1, hw1⟩ : ∃ w1, w1 = w0.alloc (.cells #[.slice a (zs.take 500).length cap, .int .i64 0] 65) := ⟨_, rfl⟩
  have g1 : w0.grownBy w1 none := by rw [hw1]; exact World.grownBy_alloc _ _ _
  have hS : KS w0.heap.size (.slice a (zs.take 500).length cap) (zs.take 500) 0 (fun _ => none) w1 := by
    rw [hw1]
    exact ⟨fun b k m s h => (by cases h), heap_alloc_new w0 _, Nat.zero_le _, rd_openW a cap zs w0 _ hv0⟩
  have HS := hide hS
  have HBR := hide (bR.keep g1 (by simp))
  have HG := hide (grown_trans gA g1)
  have hF : w.heap.size < w0.heap.size := bR.lt
  have hy5 : (zs.take 500).length ≤ cap := by rw [List.length_take]; omega
  have hy6 : (zs.take 500).length ≤ 500 := by rw [List.length_take]; omega
  have HP : Hid (dWri zs = ((dAny (zs.take 500) (nx (zs.take 500) 0).2).1, ddt ((zs.take 500).drop (nx (zs.take 500) 0).2))) := rfl
  have HNM := hide (drawName_k HZ.out 0 _ w1 hS)
  rw [← hw1] at HO
  have HW0 := hide hw0
  clear hv hv0 gA bR g1 hl5 hw1 hS
  generalize zs.take 500 = ys at *
  generalize (nx ys 0).2 = j at *
  go_enter Tryz.func4, Tryz.ntmps4
  go_wp2_with fail
  rw [← HW0.out]
  refine HO.out.mono ?_
  rintro e w1' ⟨rfl, rfl⟩
  clear HO hw0
  go_wp2_with fail
  refine HNM.out.mono ?_
  rintro e w2 ⟨⟨na, nn, nc, rfl⟩, D2⟩
  have HR := hide (rest_k D2.st HZ.out hy5 hcm)
  have HD2 := hide D2
  clear HNM D2
  go_wp2_with fail
  refine HR.out.mono ?_
  rintro e w3 ⟨ra, rc, rfl, hrd, hrc1, hrc2, g3⟩
  have D3 := HD2.out.keep g3
  have hw3 := D3.gr.size
  have hF3 : w0.heap.size < w3.heap.size := by have := D3.st.lt; omega
  have HDD := hide (drawDecodeText_any ra rc (ys.drop j) w3 (hrd.wideF (by omega)) (fun z hz => HZ.out.by' z (List.mem_of_mem_drop hz)) (by simp only [List.length_drop]; omega) hrc1 hrc2)
  have HD3 := hide D3
  generalize (ys.drop j).length = LR at *
  clear HR HD2 g3 D3 hrd
  go_wp2_with fail
  refine HDD.out.mono ?_
  rintro e w4 ⟨dv, rfl, o4, g4⟩
  have D4 := HD3.out.keep g4
  have hAb := ab_own (F := w0.heap.size) o4 (by omega)
  have HAN := hide (drawAny_k HZ.out j _ w4 D4.st)
  have HD4 := hide D4
  have HAb := hide hAb
  have hw4 : w0.heap.size < w4.heap.size := by have := g4.size; omega
  obtain ⟨da, dc, hdv, _, _⟩ := hAb.1
  generalize (ddt (ys.drop j)).length = LD at hdv
  subst hdv
  clear HDD g4 o4 D4 hAb HD3
  go_wp2_with fail
  refine HAN.out.mono ?_
  rintro e w5 ⟨v5, rfl, hrw5, Γ5, D5⟩
  have bR5 := (HBR.out.keep HD4.out.gr (by simp; omega)).keep D5.gr (by simp; omega)
  have hrwR := hrw5.box bR5 (by omega) v5
  have hAb5 := HAb.out.mono D5.gr
  obtain ⟨a5, c5, hv5, _, _⟩ := hrw5.rd.sl
  have g5 : w.grownBy w5 none := grown_new HG.out (grown_two HD4.out.gr D5.gr) (fun x e => by cases e; omega)
  have hset : w5.grownBy (w5.setCell ⟨w.heap.size, 0, none⟩ v5) (some w.heap.size) := ⟨rfl, rfl, rfl, by simp, fun i _ hn => heap_setCell_other w5 ⟨w.heap.size, 0, none⟩ i v5 (fun e => hn (by rw [e]))⟩
  have HG6 := hide (grown_new g5 hset (fun x e => by cases e; exact Nat.le_refl _))
  have hD6 := hAb5.txo.bxo bR5 v5
  have HFV := hide hrwR.rd
  have HDV := hide (And.intro hD6.rd hD6.sl)
  have yR := bR5.c
  have fR := bR5.fr
  have y6 := (bR5.set v5).c
  generalize (dAny ys j).1.length = L5 at hv5
  subst hv5
  clear HAN D5 hrw5 bR5 hrwR hAb5 g5 hset hD6 HD4 HAb HBR HG
  go_wp2
  refine bodyPost_ret (v := .tuple #[.agg #[.slice a5 L5 c5], .slice na nn nc, .slice da LD dc]) (by simp [results, Tryz.results4, go_sem, y6]) rfl ?_
  rw [HP.out]
  exact ⟨_, _, _, rfl, ⟨_, _, _, rfl⟩, HFV.out, HDV.out.1, HDV.out.2, HG6.out⟩
end Go.Proofs.YtakkdniikhgpdaaGreatDoor

