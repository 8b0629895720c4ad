import Derived.Test.YtakkdniikhgpdaaGreatDoorMAA
import Derived.Test.YtakkdniikhgpdaaGreatDoorMAM
import Derived.Test.YtakkdniikhgpdaaGreatDoorMBF
import Derived.Test.YtakkdniikhgpdaaGreatDoorMBM
import Derived.Test.YtakkdniikhgpdaaGreatDoorMBO
import Derived.Test.YtakkdniikhgpdaaGreatDoorMBP
import Derived.Test.YtakkdniikhgpdaaGreatDoorMBQ
namespace Go.Proofs.YtakkdniikhgpdaaGreatDoor
open Go.RowKit
attribute [-go_sem] Builtin.append_

set_option maxHeartbeats 4000000 in
set_option maxRecDepth 100000 in
/-- spec.l7drawAny. -/
theorem drawAny_k {F : Nat} {v : Value} {zs : List Int} (hz : Zk zs) (i : Nat) (Γ : Gk) (w : World) (hs : KS F v zs i Γ w) :
    Calls Tryz.prog 21 #[.pointer (some ⟨F, 0, none⟩)] w fun e w' => ∃ v', e = .returned (.agg #[v']) ∧ RwF F (w.heap.size + 1) w' v' (dAny zs i).1 ∧ ∃ Γ', KD F v zs Γ w (dAny zs i).2 Γ' w' := by
  have HZ := hide hz
  have hFw := hs.lt
  have hb1 := nx_bd hz.by' i
  have HP : Hid (dAny zs i = if (nx zs i).1 % 10 = 0 then spF zs (dFs zs (nx zs i).2).1 (dFs zs (nx zs i).2).2 else dFs zs (nx zs i).2) := rfl
  have HSM := hide (dFs_sm hz.by' (nx zs i).2)
  have HDF : Hid (∀ W Γ', KS F v zs (nx zs i).2 Γ' W → _) := fun W Γ' (h : KS F v zs (nx zs i).2 Γ' W) => drawFs_k hz (nx zs i).2 Γ' W h
  have g0 := World.grownBy_alloc w (Obj.cells #[Value.slice none 0 0] 25) none
  have HN1 := hide (((KD.refl hs).keep g0).next hz)
  have HBX := hide (Bx.new w (.slice none 0 0))
  generalize dFs zs (nx zs i).2 = DF at *
  generalize nx zs i = n1 at *
  clear hs hz g0
  go_enter Tryz.func21, Tryz.ntmps21
  go_wp2_with fail
  refine HN1.out.mono ?_
  rintro e w1 ⟨rfl, D1, g1⟩
  have hbR := HBX.out.keep g1 (by simp; omega)
  have HD1 := hide D1
  have HB1 := hide hbR
  have HFS := hide (HDF.out w1 Γ D1.st)
  have hw1 : w.heap.size < w1.heap.size := hbR.lt
  clear HN1 HBX HDF D1 g1 hbR
  go_wp2_with fail
  refine HFS.out.mono ?_
  rintro e w2 ⟨v2, rfl, hrw2, Γ2, D2⟩
  have gA := World.grownBy_alloc w2 (Obj.cells #[v2] 25) none
  have hsA : (w2.alloc (Obj.cells #[v2] 25)).heap.size = w2.heap.size + 1 := by simp
  have hs2 := D2.gr.size
  have hrwA := hrw2.keep gA (.inl rfl)
  have DA := D2.keep gA
  obtain ⟨a2, c2, hv2, _, _⟩ := hrw2.rd.sl
  by_cases h0 : n1.1 % 10 = 0
  · have HE := hide (HP.out.trans (if_pos h0))
    have HSP := hide (spoilFs_k HZ.out DF.2 Γ Γ2 w1 _ DA v2 DF.1 (w1.heap.size + 1) (by omega) (by omega) hrwA HSM.out)
    generalize DF.1.length = L2 at hv2
    subst hv2
    clear HP hrwA DA hrw2 D2 gA HFS
    go_wp2_with fail
    refine HSP.out.mono ?_
    rintro e w3 ⟨v3, rfl, hrw3, D3⟩
    have hbR3 := HB1.out.keep D3.gr (by simp; omega)
    have HR := hide ((hrw3.base (B' := w.heap.size + 1) (by omega) (by omega)).box hbR3 (by omega) v3)
    have HD := hide ((HD1.out.trans D3).box hbR3 (Nat.le_refl _) v3)
    have yR := hbR3.c
    have fR := hbR3.fr
    have y6 := (hbR3.set v3).c
    obtain ⟨a3, c3, hv3, _, _⟩ := hrw3.rd.sl
    generalize (spF zs DF.1 DF.2).1.length = L3 at hv3
    subst hv3
    clear hrw3 D3 hbR3 HSP HD1 HB1
    go_wp2
    refine bodyPost_ret (v := .agg #[.slice a3 L3 c3]) (by simp [results, Tryz.results21, go_sem, y6]) rfl ?_
    rw [HE.out]
    exact ⟨_, rfl, HR.out, _, HD.out⟩
  · have HE := hide (HP.out.trans (if_neg h0))
    have b0 : (n1.1 % 10 == 0) = false := by simpa using h0
    have hbR3 := HB1.out.keep DA.gr (by simp; omega)
    have hX := Bx.new w2 v2
    have HR := hide ((hrwA.base (B' := w.heap.size + 1) (by omega) (by omega)).box hbR3 (by omega) v2)
    have HD := hide ((HD1.out.trans DA).box hbR3 (Nat.le_refl _) v2)
    have yX := hX.c
    have yR := hbR3.c
    have fR := hbR3.fr
    have y6 := (hbR3.set v2).c
    generalize DF.1.length = L2 at hv2
    subst hv2
    clear HP hrwA DA hrw2 D2 gA HFS hX hbR3 hsA
    go_wp2
    refine bodyPost_ret (v := .agg #[.slice a2 L2 c2]) (by simp [results, Tryz.results21, go_sem, y6]) rfl ?_
    rw [HE.out]
    exact ⟨_, rfl, HR.out, _, HD.out⟩
end Go.Proofs.YtakkdniikhgpdaaGreatDoor

namespace Go.Proofs.YtakkdniikhgpdaaGreatDoor
open Go.RowKit

set_option maxHeartbeats 2000000 in
set_option maxRecDepth 100000 in
/-- The reader's rest. -/
theorem rest_k {F : Nat} {a : Option Addr} {cap : Nat} {zs : List Int} {i : Nat} {Γ : Gk} {w : World} (hs : KS F (.slice a zs.length cap) zs i Γ w) (hz : Zk zs) (hc : zs.length ≤ cap) (hcm : cap ≤ 9223372036854775807) :
    Calls Tryz.prog 20 #[.pointer (some ⟨F, 0, none⟩)] w fun e w' => ∃ a' c', e = .returned (.slice a' (zs.drop i).length c') ∧ RdB F w' (.slice a' (zs.drop i).length c') (zs.drop i) ∧ (zs.drop i).length ≤ c' ∧ c' ≤ 9223372036854775807 ∧ w.grownBy w' none := by
  have q0 := hs.rd.c0
  have q1 := hs.rd.c1
  have hl := hz.ln
  have hi := hs.le
  have HT := hide hs.tx
  have hld : (zs.drop i).length = zs.length - i := List.length_drop
  have hi' : (i : Int) ≤ zs.length := by omega
  have hcI : (zs.length : Int) ≤ cap := by omega
  clear hs hz
  go_enter Tryz.func20, Tryz.ntmps20
  go_wp2
  go_quiet (fail)
  have HX : Hid (i < zs.length → (if cap = i then a else Option.map (fun x => x.add i) a) = Option.map (fun x => x.add i) a) := fun h => if_neg (by omega)
  generalize (if cap = i then a else Option.map (fun x => x.add i) a) = X at *
  go_wp2
  go_ret
  refine ⟨X, cap - i, by first | rfl | (rw [hld]; rfl), ?_, by omega, by omega, grown_drewN (World.grownBy.refl _ _) _⟩
  refine ⟨X, cap - i, by rw [hld], fun h0 => ?_⟩
  have hlt : i < zs.length := by
    by_cases h : i < zs.length
    · exact h
    · exact absurd (List.drop_eq_nil_of_le (by omega)) h0
  obtain ⟨a', cap', e, hr⟩ := HT.out
  simp only [Value.slice.injEq, true_and] at e
  obtain ⟨rfl, rfl⟩ := e
  obtain ⟨b, off, rfl, hb, hc⟩ := hr (fun e => by rw [e] at hlt; simp at hlt)
  refine ⟨b, off + i, (HX.out hlt).trans (by simp [Addr.add_lit]), hb, fun j hj => ?_⟩
  rw [hld] at hj
  have := hc (i + j) (by omega)
  rw [List.getElem?_drop, show off + i + j = off + (i + j) by omega]
  exact this
end Go.Proofs.YtakkdniikhgpdaaGreatDoor

namespace Go.Proofs.YtakkdniikhgpdaaGreatDoor
open Go.RowKit
attribute [-go_sem] Builtin.append_

theorem Txo.bxo {F b : Nat} {g : Option Nat} {W : World} {u : Value} {t : List Int} {a : Option Addr} {n c : Nat} (h : Txo F g W u t) (hb : Bx W b (.slice a n c)) (z : Value) : Txo F g (W.setCell ⟨b, 0, none⟩ z) u t := by
  obtain ⟨a', cap, h1, h2, h3, h4⟩ := h
  refine ⟨a', cap, h1, h2, h3, fun h0 => ?_⟩
  obtain ⟨b', off, e, hb', hF, hg, hc⟩ := h4 h0
  have hne : b' ≠ b := fun e2 => by
    subst e2
    have := hc 0 (List.length_pos_iff.2 h0)
    rw [cell_of_row W b' _ _ _ _ hb] at this
    rcases hj : off + 0 with _ | n
    · rw [hj] at this; simp at this
    · rw [hj] at this; simp at this
  have gr : W.grownBy (W.setCell ⟨b, 0, none⟩ z) (some b) := ⟨rfl, rfl, rfl, by simp, fun i _ hn => heap_setCell_other W ⟨b, 0, none⟩ i z (fun e => hn (by rw [e]))⟩
  exact ⟨b', off, e, Nat.lt_of_lt_of_le hb' gr.size, hF, hg, fun k hk => gr.cell (hc k hk) (by simpa using hne)⟩
theorem rd_openW (a : Option Addr) (cap : Nat) (zs : List Int) (w : World) (o : Obj) (hv : RdB w.heap.size w (.slice a zs.length cap) zs) :
    RdB w.heap.size (w.alloc o) (.slice a (zs.take 500).length cap) (zs.take 500) := by
  have := open_rdr hv o
  rw [show min 500 zs.length = (zs.take 500).length by rw [List.length_take]] at this
  exact this

set_option maxHeartbeats 4000000 in
set_option maxRecDepth 100000 in
/-- spec.DrawFsWrite. -/
theorem drawFsWrite_k (a : Option Addr) (cap : Nat) (zs : List Int) (w : World) (hv : RdB w.heap.size w (.slice a zs.length cap) zs) (hby : Bys zs) (hm : zs.length ≤ 1048576) (hlc : zs.length ≤ cap) (hcm : cap ≤ 9223372036854775807) :
    Calls Tryz.prog 4 #[.slice a zs.length cap] w fun e w' => ∃ fv nv dv, e = .returned (.tuple #[.agg #[fv], nv, dv]) ∧ (∃ a n c, nv = .slice a n c) ∧ RdF w'.heap.size w' fv (dWri zs).1 ∧ RdB w'.heap.size w' dv (dWri zs).2 ∧ Sl dv (dWri zs).2.length ∧ w.grownBy w' none := by
  obtain ⟨w0, hw0⟩ : ∃ w0, w0 = w.alloc (Obj.cells #[.slice none 0 0] 25) := ⟨_, rfl⟩
  have gA : w.grownBy w0 none := by rw [hw0]; exact World.grownBy_alloc _ _ _
  have bR : Bx w0 w.heap.size (.slice none 0 0) := by rw [hw0]; exact Bx.new w _
  have hv0 : RdB w0.heap.size w0 (.slice a zs.length cap) zs := (hv.keep gA).wideF gA.size
  have HO := hide (l1open_any a cap zs w0 hm hlc hcm)
  have HZ : Hid (Zk (zs.take 500)) := ⟨fun z hz => hby z (List.mem_of_mem_take hz), by rw [List.length_take]; omega⟩
  have hl5 : min 500 zs.length = (zs.take 500).length := by rw [List.length_take]
  rw [hl5] at HO
  obtain ⟨w1, hw1⟩ : ∃ w1, w1 = w0.alloc (.cells #[.slice a (zs.take 500).length cap, .int .i64 0] 65) := ⟨_, rfl⟩
  have g1 : w0.grownBy w1 none := by rw [hw1]; exact World.grownBy_alloc _ _ _
  have hS : KS w0.heap.size (.slice a (zs.take 500).length cap) (zs.take 500) 0 (fun _ => none) w1 := by
    rw [hw1]
    exact ⟨fun b k m s h => (by cases h), heap_alloc_new w0 _, Nat.zero_le _, rd_openW a cap zs w0 _ hv0⟩
  have HS := hide hS
  have HBR := hide (bR.keep g1 (by simp))
  have HG := hide (grown_trans gA g1)
  have hF : w.heap.size < w0.heap.size := bR.lt
  have hy5 : (zs.take 500).length ≤ cap := by rw [List.length_take]; omega
  have hy6 : (zs.take 500).length ≤ 500 := by rw [List.length_take]; omega
  have HP : Hid (dWri zs = ((dAny (zs.take 500) (nx (zs.take 500) 0).2).1, ddt ((zs.take 500).drop (nx (zs.take 500) 0).2))) := rfl
  have HNM := hide (drawName_k HZ.out 0 _ w1 hS)
  rw [← hw1] at HO
  have HW0 := hide hw0
  clear hv hv0 gA bR g1 hl5 hw1 hS
  generalize zs.take 500 = ys at *
  generalize (nx ys 0).2 = j at *
  go_enter Tryz.func4, Tryz.ntmps4
  go_wp2_with fail
  rw [← HW0.out]
  refine HO.out.mono ?_
  rintro e w1' ⟨rfl, rfl⟩
  clear HO hw0
  go_wp2_with fail
  refine HNM.out.mono ?_
  rintro e w2 ⟨⟨na, nn, nc, rfl⟩, D2⟩
  have HR := hide (rest_k D2.st HZ.out hy5 hcm)
  have HD2 := hide D2
  clear HNM D2
  go_wp2_with fail
  refine HR.out.mono ?_
  rintro e w3 ⟨ra, rc, rfl, hrd, hrc1, hrc2, g3⟩
  have D3 := HD2.out.keep g3
  have hw3 := D3.gr.size
  have hF3 : w0.heap.size < w3.heap.size := by have := D3.st.lt; omega
  have HDD := hide (drawDecodeText_any ra rc (ys.drop j) w3 (hrd.wideF (by omega)) (fun z hz => HZ.out.by' z (List.mem_of_mem_drop hz)) (by simp only [List.length_drop]; omega) hrc1 hrc2)
  have HD3 := hide D3
  generalize (ys.drop j).length = LR at *
  clear HR HD2 g3 D3 hrd
  go_wp2_with fail
  refine HDD.out.mono ?_
  rintro e w4 ⟨dv, rfl, o4, g4⟩
  have D4 := HD3.out.keep g4
  have hAb := ab_own (F := w0.heap.size) o4 (by omega)
  have HAN := hide (drawAny_k HZ.out j _ w4 D4.st)
  have HD4 := hide D4
  have HAb := hide hAb
  have hw4 : w0.heap.size < w4.heap.size := by have := g4.size; omega
  obtain ⟨da, dc, hdv, _, _⟩ := hAb.1
  generalize (ddt (ys.drop j)).length = LD at hdv
  subst hdv
  clear HDD g4 o4 D4 hAb HD3
  go_wp2_with fail
  refine HAN.out.mono ?_
  rintro e w5 ⟨v5, rfl, hrw5, Γ5, D5⟩
  have bR5 := (HBR.out.keep HD4.out.gr (by simp; omega)).keep D5.gr (by simp; omega)
  have hrwR := hrw5.box bR5 (by omega) v5
  have hAb5 := HAb.out.mono D5.gr
  obtain ⟨a5, c5, hv5, _, _⟩ := hrw5.rd.sl
  have g5 : w.grownBy w5 none := grown_new HG.out (grown_two HD4.out.gr D5.gr) (fun x e => by cases e; omega)
  have hset : w5.grownBy (w5.setCell ⟨w.heap.size, 0, none⟩ v5) (some w.heap.size) := ⟨rfl, rfl, rfl, by simp, fun i _ hn => heap_setCell_other w5 ⟨w.heap.size, 0, none⟩ i v5 (fun e => hn (by rw [e]))⟩
  have HG6 := hide (grown_new g5 hset (fun x e => by cases e; exact Nat.le_refl _))
  have hD6 := hAb5.txo.bxo bR5 v5
  have HFV := hide hrwR.rd
  have HDV := hide (And.intro hD6.rd hD6.sl)
  have yR := bR5.c
  have fR := bR5.fr
  have y6 := (bR5.set v5).c
  generalize (dAny ys j).1.length = L5 at hv5
  subst hv5
  clear HAN D5 hrw5 bR5 hrwR hAb5 g5 hset hD6 HD4 HAb HBR HG
  go_wp2
  refine bodyPost_ret (v := .tuple #[.agg #[.slice a5 L5 c5], .slice na nn nc, .slice da LD dc]) (by simp [results, Tryz.results4, go_sem, y6]) rfl ?_
  rw [HP.out]
  exact ⟨_, _, _, rfl, ⟨_, _, _, rfl⟩, HFV.out, HDV.out.1, HDV.out.2, HG6.out⟩
end Go.Proofs.YtakkdniikhgpdaaGreatDoor

namespace Go.Proofs.YtakkdniikhgpdaaGreatDoor
open Go.RowKit
attribute [-go_sem] Builtin.append_

/-- What FsRead answers. -/
def readL (fs : List Fl) (n : List Int) : List Int := if okArg fs n then (match findF fs n with | some f => f.d | none => []) else []
def readC (fs : List Fl) (n : List Int) : Int := if okArg fs n then (match findF fs n with | some _ => 0 | none => 5) else 1


set_option maxHeartbeats 4000000 in
set_option maxRecDepth 100000 in
theorem specRead_any (v nv : Value) (fs : List Fl) (n : List Int) (w : World) (hv : RdF w.heap.size w v fs) (hnv : RdB w.heap.size w nv n) (hs : Sl nv n.length) (hd : Fss fs) (hb : Byt n) (hn : n.length ≤ 1048576) :
    Calls Tryz.prog 6 #[.agg #[v], nv] w fun e w' => ∃ v', e = .returned (.tuple #[v', .int .i64 (readC fs n)]) ∧ OwB w.heap.size w' v' (readL fs n) ∧ w.grownBy w' none := by
  obtain ⟨a, cap, hv0, _⟩ := id hv
  obtain ⟨na, ncap, hn0, _⟩ := id hnv
  have HV : Hid (∀ w', w.grownBy w' none → Calls Tryz.prog 5 #[.agg #[v]] w' fun e w'' => e = .returned (.bool (validF fs)) ∧ w'.grownBy w'' none) := fun w' g => specValid_any v fs w' (hv.now g) hd
  have HF : Hid (∀ w', w.grownBy w' none → Calls Tryz.prog 23 #[.agg #[v], nv] w' fun e w'' => FindSays w'.heap.size fs n e w'' ∧ w'.grownBy w'' none) := fun w' g => l7find_any v nv fs n w' (hv.now g) (hnv.keep g).now hd hb
  have HN : Hid (∀ w', Calls Tryz.prog 22 #[.slice na n.length ncap] w' fun e w'' => e = .returned (.bool (nameOK n)) ∧ w' = w'') := fun w' => nameOK_spec na n ncap w' (by omega)
  subst hv0 hn0
  clear hv hnv
  by_cases h1 : validF fs = true
  · rw [h1] at HV
    by_cases h2 : nameOK n = true
    · rw [h2] at HN
      have HO : Hid (okArg fs n = true) := by unfold Hid okArg; rw [h1, h2]; rfl
      clear h1 h2
      go_enter Tryz.func6, Tryz.ntmps6
      go_wp2_with fail
      refine (HV.out _ (World.grownBy_alloc _ _ _)).mono ?_
      rintro e w1 ⟨rfl, g1⟩
      have c1 : w1.cell? ⟨w.heap.size, 0, none⟩ = some (.slice a fs.length cap) := g1.cell (by simp [go_sem]) (by simp)
      have G1 : Hid (w.grownBy w1 none) := grown_trans (World.grownBy_alloc _ _ _) g1
      clear g1
      go_wp2_with fail
      refine (HN.out _).mono ?_
      rintro e w2 ⟨rfl, rfl⟩
      go_wp2_with fail
      refine (HF.out _ G1.out).mono ?_
      rintro e w2 ⟨hfs, g2⟩
      unfold FindSays at hfs
      cases hfind : findF fs n with
      | none =>
        rw [hfind] at hfs
        have HC : Hid (readC fs n = 5) := by unfold Hid readC; rw [HO.out, hfind]; rfl
        have HL : Hid (readL fs n = []) := by unfold Hid readL; rw [HO.out, hfind]; rfl
        subst hfs
        clear hfind
        have G2 : Hid (w.grownBy w2 none) := grown_trans G1.out g2
        clear g2
        go_wp2
        go_ret2
        exact ⟨.slice none 0 0, by rw [HC.out]; rfl, by rw [HL.out]; exact OwB.nil _ _, grown_trans G2.out (World.grownBy_alloc _ _ _)⟩
      | some f =>
        rw [hfind] at hfs
        obtain ⟨x, rfl, hx⟩ := hfs
        have HC : Hid (readC fs n = 0) := by unfold Hid readC; rw [HO.out, hfind]; rfl
        have HL : Hid (readL fs n = f.d) := by unfold Hid readL; rw [HO.out, hfind]; rfl
        have hft := hd.tlen f (find_mem hfind).1
        obtain ⟨x1, x2⟩ := x
        have HC1 : Hid (∀ w', w2.grownBy w' none → Calls Tryz.prog 24 #[x2] w' fun e w'' => ∃ v', e = .returned v' ∧ OwB w'.heap.size w'' v' f.d ∧ w'.grownBy w'' none) := fun w' g => l1copy_anyF x2 f.d w' ((hx.rd.keep g).now) (by omega)
        obtain ⟨a1, k1, e1, _, _⟩ := hx.sn
        obtain ⟨a2, k2, e2, _, _⟩ := hx.sd
        simp only at e1 e2
        subst e1 e2
        clear hfind hx
        have G2 : Hid (w.grownBy w2 none) := grown_trans G1.out g2
        clear g2
        go_wp2_with fail
        refine (HC1.out _ (World.grownBy_alloc _ _ _)).mono ?_
        rintro e w3 ⟨v3, rfl, o3, g3⟩
        have HO3 : Hid (OwB w.heap.size w3 v3 f.d) := row_base (by have := G2.out.size; simp; omega) o3
        have G3 : Hid (w.grownBy w3 none) := grown_trans (grown_trans G2.out (World.grownBy_alloc _ _ _)) g3
        obtain ⟨a3, k3, e3, _⟩ := o3.rd
        subst e3
        clear o3 g3
        go_wp2
        go_ret2
        exact ⟨.slice a3 f.d.length k3, by rw [HC.out]; rfl, by rw [HL.out]; exact HO3.out, G3.out⟩
    · rw [show nameOK n = false by simpa using h2] at HN
      have HC : Hid (readC fs n = 1) := by unfold Hid readC okArg; simp [h2]
      have HL : Hid (readL fs n = []) := by unfold Hid readL okArg; simp [h2]
      clear h1 h2
      go_enter Tryz.func6, Tryz.ntmps6
      go_wp2_with fail
      refine (HV.out _ (World.grownBy_alloc _ _ _)).mono ?_
      rintro e w1 ⟨rfl, g1⟩
      have G1 : Hid (w.grownBy w1 none) := grown_trans (World.grownBy_alloc _ _ _) g1
      clear g1
      go_wp2_with fail
      refine (HN.out _).mono ?_
      rintro e w2 ⟨rfl, rfl⟩
      go_wp2
      go_ret2
      exact ⟨.slice none 0 0, by rw [HC.out]; rfl, by rw [HL.out]; exact OwB.nil _ _, G1.out⟩
  · rw [show validF fs = false by simpa using h1] at HV
    have HC : Hid (readC fs n = 1) := by unfold Hid readC okArg; simp [h1]
    have HL : Hid (readL fs n = []) := by unfold Hid readL okArg; simp [h1]
    clear h1
    go_enter Tryz.func6, Tryz.ntmps6
    go_wp2_with fail
    refine (HV.out _ (World.grownBy_alloc _ _ _)).mono ?_
    rintro e w1 ⟨rfl, g1⟩
    have G1 : Hid (w.grownBy w1 none) := grown_trans (World.grownBy_alloc _ _ _) g1
    clear g1
    go_wp2
    go_ret2
    exact ⟨.slice none 0 0, by rw [HC.out]; rfl, by rw [HL.out]; exact OwB.nil _ _, G1.out⟩

end Go.Proofs.YtakkdniikhgpdaaGreatDoor

namespace Go.Proofs.YtakkdniikhgpdaaGreatDoor

/-! What FnFs asks of the lists. -/
theorem crashed_n (keep : Int) (f : Fl) : (crashed keep f).n = f.n := by unfold crashed; split <;> rfl
theorem crashed_ok {keep : Int} (hk : 0 ≤ keep) {f : Fl} (h : okF f = true) : okF (crashed keep f) = true := by
  unfold okF at h ⊢
  rw [crashed_n]
  rw [Bool.and_eq_true] at h ⊢
  refine ⟨h.1, ?_⟩
  have := of_decide_eq_true h.2
  refine decide_eq_true ?_
  unfold crashed
  split
  · simp only [List.length_take]; omega
  · simp only; omega
theorem crash_valid {keep : Int} (hk : 0 ≤ keep) {fs : List Fl} (h : validF fs = true) : validF (crashF keep fs) = true := by
  refine valid_mk (by rw [crashF, List.length_map]; exact valid_len50 h) (fun p hp => ?_) ?_
  · obtain ⟨q, hq, rfl⟩ := List.mem_map.1 hp
    exact crashed_ok hk (valid_ok h q hq)
  · have := valid_ascF h
    rw [AscF, crashF, List.pairwise_map]
    refine this.imp ?_
    intro a b hab
    rw [crashed_n, crashed_n]
    exact hab
theorem crash_none {keep : Int} {fs : List Fl} {n : List Int} (h : findF fs n = none) : findF (crashF keep fs) n = none := by
  refine find_of_none fun p hp => ?_
  obtain ⟨q, hq, rfl⟩ := List.mem_map.1 hp
  rw [crashed_n]
  exact find_noneF h q hq
theorem craF_ok {keep : Int} (hk : 0 ≤ keep) {fs : List Fl} (h : validF fs = true) : craF fs keep = crashF keep fs ∧ craC fs keep = 0 := by
  unfold craF craC
  rw [h, decide_eq_true hk]
  exact ⟨rfl, rfl⟩
theorem crashed_new (n d : List Int) {keep : Int} (hk : 0 ≤ keep) : (crashed keep ⟨n, d, 0⟩).d = d.take (min keep.toNat d.length) := by
  unfold crashed
  split
  · rename_i h
    simp only at h ⊢
    rw [Nat.min_eq_left (by omega), Int.zero_add]
  · rename_i h
    simp only at h ⊢
    rw [Nat.min_eq_right (by omega), List.take_length]
theorem crashed_safe (n d : List Int) {keep : Int} (hk : 0 ≤ keep) : (crashed keep ⟨n, d, (d.length : Int)⟩).d = d := by
  unfold crashed
  rw [if_neg (by simp only; omega)]
/-- Found, by the name: a list with one file put in. -/
theorem find_same {fs : List Fl} (h : validF fs = true) {i : Nat} (hi : i < fs.length) {n : List Int} (hn : fs[i].n = n) : findF fs n = some fs[i] :=
  find_yes i hi (fun j hj e => by
    have := name_once h (show j < fs.length by omega) hi (e.trans hn.symm)
    omega) hn
structure Chn2 (F : List Fl) (n m d : List Int) (keep : Int) : Prop where
  v : validF F = true
  l : F.length < 50
  n0 : findF F n = none
  m0 : findF F m = none
  nm : n ≠ m
  on : nameOK n = true
  om : nameOK m = true
  k0 : 0 ≤ keep
theorem okF_mk {d : List Int} (x : List Int) (hx : nameOK x = true) (s : Int) (h0 : 0 ≤ s) (h1 : s ≤ (d.length : Int)) : okF ⟨x, d, s⟩ = true := by
  unfold okF
  rw [hx, decide_eq_true (show 0 ≤ s ∧ s ≤ _ from ⟨h0, h1⟩)]
  rfl
section
variable {F : List Fl} {n m d : List Int} {keep : Int} (H : Chn2 F n m d keep)
include H
theorem Chn2.a {i : Nat} (hp : Pos F n i) : validF (F.take i ++ (⟨n, d, 0⟩ : Fl) :: F.drop i) = true ∧ findF (F.take i ++ (⟨n, d, 0⟩ : Fl) :: F.drop i) n = some ⟨n, d, 0⟩ ∧ findF (F.take i ++ (⟨n, d, 0⟩ : Fl) :: F.drop i) m = none :=
  ⟨valid_ins H.v (p := ⟨n, d, 0⟩) hp H.n0 (okF_mk n H.on 0 (by omega) (by omega)) H.l, ins_find (p := ⟨n, d, 0⟩) H.n0, ins_find_no H.m0 H.nm⟩
/-- What is synced is where it was. -/
theorem Chn2.c {i j : Nat} (hp : Pos F n i) (hj : j < (F.take i ++ (⟨n, d, 0⟩ : Fl) :: F.drop i).length) (hn : (F.take i ++ (⟨n, d, 0⟩ : Fl) :: F.drop i)[j].n = n) : j = i := by
  have hl : i < (F.take i ++ (⟨n, d, 0⟩ : Fl) :: F.drop i).length := by have := hp.le; simp; omega
  refine name_once (H.a hp).1 hj hl ?_
  rw [hn, ins_at hp.le]
theorem Chn2.cs {i : Nat} (hp : Pos F n i) : validF (F.take i ++ (⟨n, d, (d.length : Int)⟩ : Fl) :: F.drop i) = true ∧ findF (F.take i ++ (⟨n, d, (d.length : Int)⟩ : Fl) :: F.drop i) n = some ⟨n, d, (d.length : Int)⟩ ∧ findF (F.take i ++ (⟨n, d, (d.length : Int)⟩ : Fl) :: F.drop i) m = none :=
  ⟨valid_ins H.v (p := ⟨n, d, (d.length : Int)⟩) hp H.n0 (okF_mk n H.on _ (by omega) (by omega)) H.l, ins_find (p := ⟨n, d, (d.length : Int)⟩) H.n0, ins_find_no H.m0 H.nm⟩
theorem Chn2.dd {k : Nat} (hp : Pos F m k) : validF (F.take k ++ (⟨m, d, (d.length : Int)⟩ : Fl) :: F.drop k) = true ∧ findF (F.take k ++ (⟨m, d, (d.length : Int)⟩ : Fl) :: F.drop k) n = none :=
  ⟨valid_ins H.v (p := ⟨m, d, (d.length : Int)⟩) hp H.m0 (okF_mk m H.om _ (by omega) (by omega)) H.l, ins_find_no H.n0 (fun e => H.nm e.symm)⟩
end
end Go.Proofs.YtakkdniikhgpdaaGreatDoor

namespace Go.Proofs.YtakkdniikhgpdaaGreatDoor

/-! FnFs's lists, one after the other. -/
theorem crash_find {keep : Int} {fs : List Fl} {n : List Int} {f : Fl} (h : findF fs n = some f) : findF (crashF keep fs) n = some (crashed keep f) := by
  unfold findF crashF at *
  rw [List.find?_map]
  have : (fun f => decide (f.n = n)) ∘ crashed keep = fun f => decide (f.n = n) := by
    funext x
    simp only [Function.comp, crashed_n]
  rw [this, h]
  rfl
theorem cutF_at {F : List Fl} {i : Nat} (hi : i ≤ F.length) (x : Fl) : (F.take i ++ x :: F.drop i).take i ++ (F.take i ++ x :: F.drop i).drop (i + 1) = F := by
  have hl : (F.take i).length = i := by simp; omega
  rw [List.take_append_of_le_length (by omega), List.take_take, Nat.min_self, List.drop_append, hl, show i + 1 - i = 1 by omega, List.drop_eq_nil_of_le (by omega), List.nil_append, List.drop_one, List.tail_cons, List.take_append_drop]
theorem setF_at {F : List Fl} {i : Nat} (hi : i ≤ F.length) (x y : Fl) : (F.take i ++ x :: F.drop i).set i y = F.take i ++ y :: F.drop i := by
  have hl : (F.take i).length = i := by simp; omega
  rw [List.set_append_right _ _ (by omega), hl, Nat.sub_self, List.set_cons_zero]
theorem crashF_ins (keep : Int) (F : List Fl) (i : Nat) (x : Fl) : crashF keep (F.take i ++ x :: F.drop i) = (crashF keep F).take i ++ crashed keep x :: (crashF keep F).drop i := by
  simp [crashF]
section
variable {F : List Fl} {n m d : List Int} {keep : Int} (H : Chn2 F n m d keep)
include H
/-- Written, crashed, read. -/
theorem Chn2.readA {i : Nat} (hp : Pos F n i) : craC (F.take i ++ (⟨n, d, 0⟩ : Fl) :: F.drop i) keep = 0 ∧ readC (craF (F.take i ++ (⟨n, d, 0⟩ : Fl) :: F.drop i) keep) n = 0 ∧ readL (craF (F.take i ++ (⟨n, d, 0⟩ : Fl) :: F.drop i) keep) n = d.take (min keep.toNat d.length) := by
  obtain ⟨h1, h2, _⟩ := H.a (d := d) hp
  obtain ⟨e1, e2⟩ := craF_ok H.k0 h1
  have hv := crash_valid H.k0 h1
  have hf := crash_find (keep := keep) h2
  refine ⟨e2, ?_, ?_⟩
  · rw [e1]; unfold readC okArg; rw [hv, H.on, hf]; rfl
  · rw [e1]; unfold readL okArg; rw [hv, H.on, hf]; exact crashed_new n d H.k0
theorem Chn2.sync {i j : Nat} (hp : Pos F n i) (hj : j < (F.take i ++ (⟨n, d, 0⟩ : Fl) :: F.drop i).length) (hn : (F.take i ++ (⟨n, d, 0⟩ : Fl) :: F.drop i)[j].n = n) : (F.take i ++ (⟨n, d, 0⟩ : Fl) :: F.drop i).set j { (F.take i ++ (⟨n, d, 0⟩ : Fl) :: F.drop i)[j] with s := ((F.take i ++ (⟨n, d, 0⟩ : Fl) :: F.drop i)[j].d.length : Int) } = F.take i ++ (⟨n, d, (d.length : Int)⟩ : Fl) :: F.drop i := by
  have e := H.c hp hj hn
  subst e
  have := ins_at (p := (⟨n, d, 0⟩ : Fl)) hp.le
  rw [this]
  exact setF_at hp.le _ _
theorem Chn2.ren {i j k : Nat} (hp : Pos F n i) (hj : j < (F.take i ++ (⟨n, d, (d.length : Int)⟩ : Fl) :: F.drop i).length) (hn : (F.take i ++ (⟨n, d, (d.length : Int)⟩ : Fl) :: F.drop i)[j].n = n)
    (hk : Pos ((F.take i ++ (⟨n, d, (d.length : Int)⟩ : Fl) :: F.drop i).take j ++ (F.take i ++ (⟨n, d, (d.length : Int)⟩ : Fl) :: F.drop i).drop (j + 1)) m k) : Pos F m k ∧ ((F.take i ++ (⟨n, d, (d.length : Int)⟩ : Fl) :: F.drop i).take j ++ (F.take i ++ (⟨n, d, (d.length : Int)⟩ : Fl) :: F.drop i).drop (j + 1)).take k ++ { (F.take i ++ (⟨n, d, (d.length : Int)⟩ : Fl) :: F.drop i)[j] with n := m } :: ((F.take i ++ (⟨n, d, (d.length : Int)⟩ : Fl) :: F.drop i).take j ++ (F.take i ++ (⟨n, d, (d.length : Int)⟩ : Fl) :: F.drop i).drop (j + 1)).drop k = F.take k ++ (⟨m, d, (d.length : Int)⟩ : Fl) :: F.drop k := by
  have hl : i < (F.take i ++ (⟨n, d, (d.length : Int)⟩ : Fl) :: F.drop i).length := by have := hp.le; simp; omega
  have e : j = i := name_once (H.cs hp).1 hj hl (by rw [hn, ins_at hp.le])
  subst e
  rw [cutF_at hp.le] at hk ⊢
  refine ⟨hk, ?_⟩
  rw [ins_at (p := (⟨n, d, (d.length : Int)⟩ : Fl)) hp.le]
/-- Renamed, crashed. -/
theorem Chn2.readD {k : Nat} (hp : Pos F m k) : craC (F.take k ++ (⟨m, d, (d.length : Int)⟩ : Fl) :: F.drop k) keep = 0 ∧ validF (craF (F.take k ++ (⟨m, d, (d.length : Int)⟩ : Fl) :: F.drop k) keep) = true ∧ findF (craF (F.take k ++ (⟨m, d, (d.length : Int)⟩ : Fl) :: F.drop k) keep) m ≠ none ∧ readC (craF (F.take k ++ (⟨m, d, (d.length : Int)⟩ : Fl) :: F.drop k) keep) m = 0 ∧ readL (craF (F.take k ++ (⟨m, d, (d.length : Int)⟩ : Fl) :: F.drop k) keep) m = d ∧ readC (craF (F.take k ++ (⟨m, d, (d.length : Int)⟩ : Fl) :: F.drop k) keep) n = 5 := by
  obtain ⟨h1, h2⟩ := H.dd (d := d) hp
  obtain ⟨e1, e2⟩ := craF_ok H.k0 h1
  have hv := crash_valid H.k0 h1
  have hf := crash_find (keep := keep) (ins_find (p := (⟨m, d, (d.length : Int)⟩ : Fl)) (i := k) H.m0)
  have hno := crash_none (keep := keep) h2
  rw [e1]
  refine ⟨e2, hv, by rw [hf]; simp, ?_, ?_, ?_⟩
  · unfold readC okArg; rw [hv, H.om, hf]; rfl
  · unfold readL okArg; rw [hv, H.om, hf]; exact crashed_safe m d H.k0
  · unfold readC okArg; rw [hv, H.on, hno]; rfl
theorem Chn2.rem {k j : Nat} (hp : Pos F m k) (hj : j < (craF (F.take k ++ (⟨m, d, (d.length : Int)⟩ : Fl) :: F.drop k) keep).length) (hn : (craF (F.take k ++ (⟨m, d, (d.length : Int)⟩ : Fl) :: F.drop k) keep)[j].n = m) : (craF (F.take k ++ (⟨m, d, (d.length : Int)⟩ : Fl) :: F.drop k) keep).take j ++ (craF (F.take k ++ (⟨m, d, (d.length : Int)⟩ : Fl) :: F.drop k) keep).drop (j + 1) = crashF keep F := by
  obtain ⟨h1, _⟩ := H.dd (d := d) hp
  obtain ⟨e1, _⟩ := craF_ok H.k0 h1
  have hv := crash_valid H.k0 h1
  have hlk : k ≤ (crashF keep F).length := by have := hp.le; simp [crashF]; omega
  generalize hE : craF (F.take k ++ (⟨m, d, (d.length : Int)⟩ : Fl) :: F.drop k) keep = E at *
  have hE2 : E = (crashF keep F).take k ++ crashed keep ⟨m, d, (d.length : Int)⟩ :: (crashF keep F).drop k := by rw [e1, crashF_ins]
  rw [← e1] at hv
  have hl : k < E.length := by rw [hE2]; simp; omega
  have e : j = k := by
    refine name_once hv hj hl ?_
    rw [hn]
    have : E[k] = crashed keep ⟨m, d, (d.length : Int)⟩ := by
      simp only [hE2]
      exact ins_at hlk _
    rw [this, crashed_n]
  subst e
  rw [hE2]
  exact cutF_at hlk _
end
end Go.Proofs.YtakkdniikhgpdaaGreatDoor

namespace Go.Proofs.YtakkdniikhgpdaaGreatDoor
open Go.RowKit

theorem sameB_false_of {za zb : List Int} (k : Nat) (h : za[k]?.getD 0 ≠ zb[k]?.getD 0) : decide (za = zb) = false := by
  simp only [decide_eq_false_iff_not]; intro e; exact h (by rw [e])

set_option maxHeartbeats 400000 in
set_option maxRecDepth 100000 in
theorem sameB_any (va vb : Value) (za zb : List Int) (w : World) (ha : Rd .u8 w.heap.size w va za) (hb : Rd .u8 w.heap.size w vb zb) (hn : za.length ≤ 600000000) :
    Calls Tryz.prog 12 #[va, vb] w fun e w' => e = .returned (.bool (decide (za = zb))) ∧ ∃ m, w' = w.drewN m := by
  obtain ⟨a, capa, rfl, hra⟩ := ha
  obtain ⟨b, capb, rfl, hrb⟩ := hb
  by_cases hl : za.length = zb.length
  · have hne : ((za.length : Int) != (zb.length : Int)) = false := by simp [hl]
    have HL : Hid (za.length = zb.length) := hl
    clear hl
    go_enter Tryz.func12, Tryz.ntmps12
    go_wp2
    go_loopw [5] (fun i wr => ∃ k m : Nat, k ≤ za.length ∧ i = .int .i64 k ∧ za.take k = zb.take k ∧ wr = w.drewN m)
      (fun i _ => za.length - (intOf i).toNat)
    case atStart => exact ⟨0, 0, Nat.zero_le _, rfl, by simp, rfl⟩
    case round =>
      obtain ⟨k, m, hk, rfl, ht, hwr⟩ := hrel
      subst hwr
      by_cases hlt : k < za.length
      · have hlt2 : k < zb.length := by rw [← HL.out]; exact hlt
        obtain ⟨ba, offa, rfl, hba, hca⟩ := hra (fun h => by simp [h] at hlt)
        obtain ⟨bb, offb, rfl, hbb, hcb⟩ := hrb (fun h => by simp [h] at hlt2)
        have hxa := hca k hlt
        have hxb := hcb k hlt2
        have hta := take_snoc za k hlt
        have htb := take_snoc zb k hlt2
        have hla : (k : Int) < (za.length : Int) := by omega
        have hlb : (k : Int) < (zb.length : Int) := by omega
        clear hca hcb hra hrb
        by_cases hz : za[k]?.getD 0 = zb[k]?.getD 0
        · have HT : Hid (za.take (k + 1) = zb.take (k + 1)) := by unfold Hid; rw [hta, htb, ht, hz]
          clear hta htb ht
          rw [← hz] at hxb
          clear hz
          generalize za[k]?.getD 0 = z at hxa hxb
          go_wp2
          go_quiet (fail)
          go_wp2
          go_roundw
          case rel => exact ⟨k + 1, _, by omega, by go_num, HT.out, rfl⟩
          case measure => simp [intOf]; omega
        · have HF : Hid (decide (za = zb) = false) := sameB_false_of k hz
          generalize za[k]?.getD 0 = z at hxa hz
          generalize zb[k]?.getD 0 = z2 at hxb hz
          clear hta htb ht
          have hz2 : (z != z2) = true := by simp [hz]
          clear hz
          go_wp2
          go_quiet (fail)
          go_wp2
          go_ret
          exact ⟨by rw [HF.out]; rfl, m + nq, by rw [World.drewN_drewN]⟩
      · have HF : Hid (decide (za = zb) = true) := by
          unfold Hid
          rw [List.take_of_length_le (by omega), List.take_of_length_le (by have := HL.out; omega)] at ht
          simp [ht]
        clear ht
        go_wp2
        go_ret
        exact ⟨by rw [HF.out]; rfl, _, rfl⟩
  · have hne : ((za.length : Int) != (zb.length : Int)) = true := by simp; omega
    have HF : Hid (decide (za = zb) = false) := by
      unfold Hid
      simp only [decide_eq_false_iff_not]; intro e; exact hl (by rw [e])
    clear hl
    go_enter Tryz.func12, Tryz.ntmps12
    go_wp2
    go_ret
    exact ⟨by rw [HF.out]; rfl, 0, rfl⟩

theorem sameB_same (va vb : Value) (zs : List Int) (w : World) (ha : Rd .u8 w.heap.size w va zs) (hb : Rd .u8 w.heap.size w vb zs) (hn : zs.length ≤ 600000000) :
    Calls Tryz.prog 12 #[va, vb] w fun e w' => e = .returned (.bool true) ∧ w.grownBy w' none := by
  refine (sameB_any va vb zs zs w ha hb hn).mono ?_
  rintro e w' ⟨rfl, m, rfl⟩
  exact ⟨by simp, grown_drewN (World.grownBy.refl _ _) m⟩

end Go.Proofs.YtakkdniikhgpdaaGreatDoor

