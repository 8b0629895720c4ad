import Derived.Test.YtakkdniikhgpdaaGreatDoorNBA
import Derived.Test.YtakkdniikhgpdaaGreatDoorNBD
import Derived.Test.YtakkdniikhgpdaaGreatDoorNBF
import Derived.Test.YtakkdniikhgpdaaGreatDoorNBI
namespace Go.Proofs.YtakkdniikhgpdaaGreatDoor
open Go.RowKit
set_option linter.unusedVariables false
attribute [-go_sem] Builtin.append_

set_option maxHeartbeats 1000000 in
set_option maxRecDepth 100000 in
theorem take_any (a : Option Addr) (cap : Nat) (zs : List Int) (w : World) (hv : RdB w.heap.size w (.slice a zs.length cap) zs) (hb : Bys zs) (hn : zs.length ≤ 1048576) :
    Calls Tryz.prog 7 #[.slice a zs.length cap, .int .i64 0] w fun e w' => e = .returned (.int .i64 (zs[0]?.getD 0)) ∧ w = w' := by
  obtain ⟨a', cap', e, hr⟩ := hv
  simp only [Value.slice.injEq, true_and] at e
  obtain ⟨rfl, rfl⟩ := e
  by_cases h0 : zs = []
  · subst h0
    go_enter Tryz.func7, Tryz.ntmps7
    go_wp2
    go_ret
    exact ⟨rfl, rfl⟩
  · obtain ⟨b, off, rfl, hb', hc⟩ := hr h0
    have hl := List.length_pos_iff.2 h0
    have hc0 := hc 0 hl
    rw [Nat.add_zero] at hc0
    have hbb := hb.get 0
    generalize zs[0]?.getD 0 = z at *
    have hne : ((zs.length : Int) == 0) = false := by simp; omega
    have hne' : ¬ (zs.length : Int) = 0 := by omega
    have hz : (0 : Int).tmod (zs.length : Int) = 0 := Int.zero_tmod _
    have hpos : (0 : Int) < zs.length := by omega
    clear hr hc h0
    go_enter Tryz.func7, Tryz.ntmps7
    go_wp2
    go_ret
    exact ⟨by go_num, rfl⟩

theorem rd_cutL {B : Nat} {w : World} {a : Option Addr} {n cap : Nat} {t : List Int} (h : RdB B w (.slice a n cap) t) {m : Nat} (hm : m ≤ t.length) : RdB B w (.slice a m cap) (t.take m) := by
  have hl : (t.take m).length = m := by simp; omega
  obtain ⟨a', cap', e, hr⟩ := h
  simp only [Value.slice.injEq] at e
  obtain ⟨rfl, _, rfl⟩ := e
  refine ⟨a, cap, by rw [hl], fun h0 => ?_⟩
  obtain ⟨b, off, ha, hb, hc⟩ := hr (fun e => h0 (by rw [e]; simp))
  exact ⟨b, off, ha, hb, fun j hj => by rw [hl] at hj; rw [List.getElem?_take, if_pos hj]; exact hc j (by omega)⟩
/-- What the law keeps. -/
structure Lx (w W : World) (fv dv nv mv : Value) (FL : List Fl) (DT : List Int) (bf : Nat) : Prop where
  g : w.grownBy W none
  f : RdF W.heap.size W fv FL
  d : RdB W.heap.size W dv DT
  n : RdB W.heap.size W nv [110]
  m : RdB W.heap.size W mv [110, 50]
  x : Bx W bf fv
theorem Lx.keep {w W W' : World} {fv dv nv mv : Value} {FL : List Fl} {DT : List Int} {bf : Nat} (h : Lx w W fv dv nv mv FL DT bf) (g : W.grownBy W' none) : Lx w W' fv dv nv mv FL DT bf :=
  ⟨grown_trans h.g g, h.f.now g, (h.d.keep g).wideF g.size, (h.n.keep g).wideF g.size, (h.m.keep g).wideF g.size, h.x.keep g (by simp)⟩
structure Fv (W : World) (b : Nat) (v : Value) (L : List Fl) : Prop where
  x : Bx W b v
  r : RdF W.heap.size W v L
theorem Fv.keep {W W' : World} {b : Nat} {v : Value} {L : List Fl} (h : Fv W b v L) (g : W.grownBy W' none) : Fv W' b v L := ⟨h.x.keep g (by simp), h.r.now g⟩
theorem Fv.new {W : World} {v : Value} {L : List Fl} (h : RdF W.heap.size W v L) : Fv (W.alloc (Obj.cells #[v] 25)) W.heap.size v L := ⟨Bx.new _ _, h.now (World.grownBy_alloc _ _ none)⟩
theorem readC_or {FL : List Fl} {n : List Int} (hv : validF FL = true) (hn : nameOK n = true) : (findF FL n = none ∧ readC FL n = 5) ∨ readC FL n = 0 := by
  unfold readC okArg
  rw [hv, hn]
  cases h : findF FL n with
  | none => exact .inl ⟨rfl, rfl⟩
  | some f => exact .inr rfl

theorem RdB.boxL {B b : Nat} {W : World} {v : Value} {t : List Int} {a : Option Addr} {n c : Nat} (h : RdB B W v t) (hb : Bx W b (.slice a n c)) (u : Value) : RdB B (W.setCell ⟨b, 0, none⟩ u) v t := by
  obtain ⟨a', cap, e, hr⟩ := h
  refine ⟨a', cap, e, fun h0 => ?_⟩
  obtain ⟨b', off, ha, hlt, hc⟩ := hr h0
  have hne : b' ≠ b := fun e2 => by
    subst e2
    have := hc 0 (List.length_pos_iff.2 h0)
    rw [cell_of_row W b' _ _ _ _ hb] at this
    rcases hj : off + 0 with _ | n
    · rw [hj] at this; simp at this
    · rw [hj] at this; simp at this
  have gr : W.grownBy (W.setCell ⟨b, 0, none⟩ u) (some b) := ⟨rfl, rfl, rfl, by simp, fun i _ hn => heap_setCell_other W ⟨b, 0, none⟩ i u (fun e => hn (by rw [e]))⟩
  exact ⟨b', off, ha, hlt, fun k hk => gr.cell (hc k hk) (by simpa using hne)⟩
theorem RdF.boxL {B b : Nat} {W : World} {v : Value} {L : List Fl} {a : Option Addr} {n c : Nat} (h : RdF B W v L) (hb : Bx W b (.slice a n c)) (u : Value) : RdF B (W.setCell ⟨b, 0, none⟩ u) v L := by
  obtain ⟨a', cap, e, h1, h2, hr⟩ := h
  refine ⟨a', cap, e, h1, h2, fun h0 => ?_⟩
  obtain ⟨b', off, ha, hlt, hc⟩ := hr h0
  have hne : b' ≠ b := fun e2 => by
    subst e2
    obtain ⟨x, hx⟩ := hc 0 (L[0]'(List.length_pos_iff.2 h0)) (by simp [List.length_pos_iff.2 h0])
    have := hx.d
    rw [cell_of_row W b' _ _ _ _ hb] at this
    simp at this
  have gr : W.grownBy (W.setCell ⟨b, 0, none⟩ u) (some b) := ⟨rfl, rfl, rfl, by simp, fun i _ hn => heap_setCell_other W ⟨b, 0, none⟩ i u (fun e => hn (by rw [e]))⟩
  have hnb : some b' ≠ some b := by simpa using hne
  refine ⟨b', off, ha, hlt, fun j p hp => ?_⟩
  obtain ⟨x, hx⟩ := hc j p hp
  exact ⟨x, gr.cell hx.n hnb, gr.cell hx.d hnb, gr.cell hx.s hnb, hx.rn.boxL hb u, hx.sn, hx.rd.boxL hb u, hx.sd⟩
theorem set_sz (W : World) (x : Addr) (u : Value) : (W.setCell x u).heap.size = W.heap.size := by simp
theorem Lx.box {w W : World} {fv dv nv mv : Value} {FL : List Fl} {DT : List Int} {bf b : Nat} {a : Option Addr} {n c : Nat} (h : Lx w W fv dv nv mv FL DT bf) (hb : Bx W b (.slice a n c)) (hlo : w.heap.size ≤ b) (hne : bf ≠ b) (u : Value) : Lx w (W.setCell ⟨b, 0, none⟩ u) fv dv nv mv FL DT bf := by
  have gr : W.grownBy (W.setCell ⟨b, 0, none⟩ u) (some b) := ⟨rfl, rfl, rfl, by simp, fun i _ hn => heap_setCell_other W ⟨b, 0, none⟩ i u (fun e => hn (by rw [e]))⟩
  refine ⟨grown_new h.g gr (fun x e => by cases e; exact hlo), ?_, ?_, ?_, ?_, h.x.off _ _ hne⟩
  · rw [set_sz]; exact h.f.boxL hb u
  · rw [set_sz]; exact h.d.boxL hb u
  · rw [set_sz]; exact h.n.boxL hb u
  · rw [set_sz]; exact h.m.boxL hb u
theorem Fv.box {W : World} {b' b : Nat} {v : Value} {L : List Fl} {a : Option Addr} {n c : Nat} (h : Fv W b' v L) (hb : Bx W b (.slice a n c)) (hne : b' ≠ b) (u : Value) : Fv (W.setCell ⟨b, 0, none⟩ u) b' v L := ⟨h.x.off _ _ hne, by rw [set_sz]; exact h.r.boxL hb u⟩
theorem Fv.put {W : World} {b : Nat} {v : Value} {L : List Fl} {a : Option Addr} {n c : Nat} (h : RdF W.heap.size W v L) (hb : Bx W b (.slice a n c)) : Fv (W.setCell ⟨b, 0, none⟩ v) b v L := ⟨hb.set v, by rw [set_sz]; exact h.boxL hb v⟩
theorem fss_ins {FL : List Fl} (h : Fss FL) (hl : FL.length ≤ 100) (i : Nat) (p : Fl) (h1 : p.n.length ≤ 1048576 ∧ p.d.length ≤ 1048576) (h2 : Byt p.n ∧ Byt p.d) : Fss (FL.take i ++ p :: FL.drop i) := by
  have hm : ∀ x ∈ FL.take i ++ p :: FL.drop i, x = p ∨ x ∈ FL := fun x hx => by
    rcases List.mem_append.1 hx with hx | hx
    · exact .inr (List.mem_of_mem_take hx)
    · rcases List.mem_cons.1 hx with hx | hx
      · exact .inl hx
      · exact .inr (List.mem_of_mem_drop hx)
  refine ⟨by simp; omega, fun x hx => ?_, fun x hx => ?_⟩
  · rcases hm x hx with rfl | hx
    · exact h1
    · exact h.tlen x hx
  · rcases hm x hx with rfl | hx
    · exact h2
    · exact h.byt x hx
theorem fss_crash {FL : List Fl} (h : Fss FL) (keep : Int) : Fss (crashF keep FL) := by
  refine ⟨by simp [crashF]; exact h.len, fun x hx => ?_, fun x hx => ?_⟩
  · obtain ⟨y, hy, rfl⟩ := List.mem_map.1 hx
    have := h.tlen y hy
    unfold crashed
    split
    · simp only [List.length_take]; omega
    · exact this
  · obtain ⟨y, hy, rfl⟩ := List.mem_map.1 hx
    have := h.byt y hy
    unfold crashed
    split
    · exact ⟨this.1, fun z hz => this.2 z (List.mem_of_mem_take hz)⟩
    · exact this
theorem joinR {Q P : Option Addr → Nat → Nat → Nat → Nat → Option Addr → Nat → World → Prop} {G : Prop} (main : (∀ a b c d e f g h, P a b c d e f g h → Q a b c d e f g h) → G) (key : ∀ a b c d e f g h, P a b c d e f g h → Q a b c d e f g h) : G := main key

set_option maxHeartbeats 8000000 in
set_option maxRecDepth 100000 in
theorem fs_law (a am : Option Addr) (cap capm : Nat) (zs ms : List Int) (a0 a1 a2 : Addr) (w : World) (hv : RdB w.heap.size w (.slice a zs.length cap) zs) (hvm : RdB w.heap.size w (.slice am ms.length capm) ms) (hby : Bys zs) (hbm : Bys ms) (hlc : zs.length ≤ cap) (hcm : cap ≤ 9223372036854775807) (hlm : ms.length ≤ capm) (hcmm : capm ≤ 9223372036854775807) (he : Errs w a0 a1 a2) :
    Calls Tryz.prog 3 #[.slice a zs.length cap, .slice am ms.length capm] w fun e w' => e = .returned (.bool true) ∧ w.grownBy w' none := by
  by_cases hbig : 1048576 < zs.length
  · have hb' : (1048576 : Int) < zs.length := by omega
    clear hv hvm he
    go_enter Tryz.func3, Tryz.ntmps3
    go_wp2
    go_ret
    exact ⟨rfl, World.grownBy.refl _ _⟩
  have hb' : ¬ (1048576 : Int) < zs.length := by omega
  by_cases hbigm : 1048576 < ms.length
  · have hb'' : (1048576 : Int) < ms.length := by omega
    clear hv hvm he
    go_enter Tryz.func3, Tryz.ntmps3
    go_wp2
    go_ret
    exact ⟨rfl, World.grownBy.refl _ _⟩
  have hb'' : ¬ (1048576 : Int) < ms.length := by omega
  have HDW : Hid (∀ W : World, w.grownBy W none → _) := fun W (g : w.grownBy W none) => drawFsWrite_k a cap zs W ((hv.keep g).wideF g.size) hby (by omega) hlc hcm
  have hys : Bys (zs.take 500) := fun z hz => hby z (List.mem_of_mem_take hz)
  have HSM := hide (dAny_sm hys (nx (zs.take 500) 0).2)
  have HDK := hide (ddt_ok (zs := (zs.take 500).drop (nx (zs.take 500) 0).2) (fun z hz => hys z (List.mem_of_mem_drop hz)))
  have HTK : Hid (∀ W : World, w.grownBy W none → _) := fun W (g : w.grownBy W none) => take_any am capm ms W ((hvm.keep g).wideF g.size) hbm (by omega)
  have hkb := hbm.get 0
  generalize ms[0]?.getD 0 = kq at *
  obtain ⟨FL, hFL⟩ : ∃ FL, FL = (dWri zs).1 := ⟨_, rfl⟩
  obtain ⟨DT, hDT⟩ : ∃ DT, DT = (dWri zs).2 := ⟨_, rfl⟩
  rw [← hFL, ← hDT] at HDW
  replace HSM : Hid (Smf 61 FL) := by rw [hFL]; exact HSM
  replace HDK : Hid (Bys DT ∧ DT.length ≤ 60) := by rw [hDT]; exact HDK
  have HERR := hide he
  have hdl := HDK.out.2
  have HFSS := hide (HSM.out.fss (by omega))
  have hfl := HSM.out.l
  have HD1 := hide (HDW.out w (World.grownBy.refl _ _))
  clear hv hvm hby hbm he hys hFL hDT hbig hbigm
  go_enter Tryz.func3, Tryz.ntmps3
  go_wp2_with fail
  refine HD1.out.mono ?_
  rintro e w1 ⟨fv, nv, dv, rfl, ⟨na, nn, nc, hnv⟩, hrf, hrd, hsd, g1⟩
  obtain ⟨fa, fc, hfv, hfc1, hfc2⟩ := hrf.sl
  obtain ⟨da, dc, hdv, hdc1, hdc2⟩ := hsd
  have hdcb := And.intro hdc1 hdc2
  obtain ⟨w2, hw2⟩ : ∃ w2, w2 = w1.alloc (Obj.cells #[fv] 25) := ⟨_, rfl⟩
  have gA : w1.grownBy w2 none := by rw [hw2]; exact World.grownBy_alloc _ _ _
  have bF2 : Bx w2 w1.heap.size fv := by rw [hw2]; exact Bx.new _ _
  have HRF := hide (hrf.now gA)
  have HRD := hide ((hrd.keep gA).wideF gA.size)
  have G2 := hide (grown_trans g1 gA)
  have HVL := hide (specValid_any fv FL w2 HRF.out HFSS.out)
  have HBF := hide bF2
  have yF := bF2.c
  rw [hw2] at HVL yF
  have HW2 := hide hw2
  subst hfv hdv hnv
  clear hrf hrd g1 gA bF2 hw2 HD1
  go_wp2_with fail
  refine HVL.out.mono ?_
  rintro e w3 ⟨rfl, g3⟩
  rw [← HW2.out] at g3
  have hbF3 := HBF.out.keep g3 (by simp)
  have yF3 := hbF3.c
  have HBF3 := hide hbF3
  have HRF3 := hide (HRF.out.now g3)
  have HRD3 := hide ((HRD.out.keep g3).wideF g3.size)
  have G3 := hide (grown_trans G2.out g3)
  clear HVL HW2 yF G2 g3 HRF HRD HBF hbF3
  cases hval : validF FL with
  | false =>
    go_wp2
    go_ret
    exact ⟨rfl, G3.out⟩
  | true =>
  by_cases h50 : 50 ≤ FL.length
  · have h50' : (50 : Int) ≤ FL.length := by omega
    go_wp2
    go_ret
    exact ⟨rfl, G3.out⟩
  have h50' : ¬ (50 : Int) ≤ FL.length := by omega
  have kc1 := fun W => Lib.run_convert_bytes_const (P := Tryz.prog) W 22 5 #[.int .u8 110] 1 1 Tryz.underlying22 Tryz.underlying5
  have kc2 := Lib.run_convert_bytes_const (P := Tryz.prog) (w3.alloc (Obj.cells #[.int .u8 110] 5 (1, 2))) 22 5 #[.int .u8 110, .int .u8 50] 2 2 Tryz.underlying22 Tryz.underlying5
  rw [show (w3.alloc (Obj.cells #[.int .u8 110] 5 (1, 2))).heap.size = w3.heap.size + 1 by simp] at kc2
  obtain ⟨wN, hwN⟩ : ∃ wN, wN = w3.alloc (Obj.cells #[.int .u8 110] 5 (1, 2)) := ⟨_, rfl⟩
  obtain ⟨w4, hw4⟩ : ∃ w4, w4 = wN.alloc (Obj.cells #[.int .u8 110, .int .u8 50] 5 (2, 3)) := ⟨_, rfl⟩
  have gN : w3.grownBy wN none := by rw [hwN]; exact World.grownBy_alloc _ _ _
  have gM : wN.grownBy w4 none := by rw [hw4]; exact World.grownBy_alloc _ _ _
  have hsN : wN.heap.size = w3.heap.size + 1 := by rw [hwN]; simp
  have hs4 : w4.heap.size = w3.heap.size + 2 := by rw [hw4]; simp [hsN]
  have rN : RdB w4.heap.size w4 (.slice (some ⟨w3.heap.size, 0, none⟩) 1 1) [110] := by
    refine ⟨_, 1, rfl, fun _ => ⟨w3.heap.size, 0, rfl, by omega, fun j hj => ?_⟩⟩
    refine gM.cell ?_ (by simp)
    rw [hwN, cell_of_row _ w3.heap.size (0 + j) _ _ _ (heap_alloc_new w3 _)]
    match j, hj with
    | 0, _ => rfl
    | j + 1, hj => simp at hj
  have rM : RdB w4.heap.size w4 (.slice (some ⟨w3.heap.size + 1, 0, none⟩) 2 2) [110, 50] := by
    refine ⟨_, 2, rfl, fun _ => ⟨w3.heap.size + 1, 0, rfl, by omega, fun j hj => ?_⟩⟩
    rw [hw4, ← hsN, cell_of_row _ wN.heap.size (0 + j) _ _ _ (heap_alloc_new wN _)]
    match j, hj with
    | 0, _ => rfl
    | 1, _ => rfl
    | j + 2, hj => simp at hj; omega
  have sN : Sl (.slice (some ⟨w3.heap.size, 0, none⟩) 1 1) ([110] : List Int).length := ⟨_, _, rfl, Nat.le_refl _, by unfold maxLen; omega⟩
  have sM : Sl (.slice (some ⟨w3.heap.size + 1, 0, none⟩) 2 2) ([110, 50] : List Int).length := ⟨_, _, rfl, Nat.le_refl _, by unfold maxLen; omega⟩
  have bN : Byt [110] := fun z hz => by simp at hz; omega
  have bM : Byt [110, 50] := fun z hz => by simp at hz; omega
  have g34 := grown_trans gN gM
  have L4 : Lx w w4 (.slice fa FL.length fc) (.slice da DT.length dc) (.slice (some ⟨w3.heap.size, 0, none⟩) 1 1) (.slice (some ⟨w3.heap.size + 1, 0, none⟩) 2 2) FL DT w1.heap.size := ⟨grown_trans G3.out g34, HRF3.out.now g34, (HRD3.out.keep g34).wideF g34.size, rN, rM, HBF3.out.keep g34 (by simp)⟩
  have yF4 := L4.x.c
  have HSL := hide (And.intro sN sM)
  have HBY := hide (And.intro bN bM)
  have HR1 := hide (specRead_any _ _ FL [110] w4 L4.f L4.n sN HFSS.out bN (by simp))
  have HL4 := hide L4
  have HW4 := hide hw4
  have HWN := hide hwN
  rw [hw4, hwN] at HR1 yF4
  clear rN rM sN sM bN bM gN gM hsN hs4 g34 hw4 hwN HBF3 HRF3 HRD3 G3 L4
  go_wp2_with fail
  refine HR1.out.mono ?_
  rintro e w5 ⟨v5, rfl, o5, g5⟩
  rw [← HWN.out, ← HW4.out] at g5
  have HL5 := hide (HL4.out.keep g5)
  have yF5 := HL5.out.x.c
  have HR2 := hide (specRead_any _ _ FL [110, 50] w5 HL5.out.f HL5.out.m HSL.out.2 HFSS.out HBY.out.2 (by simp))
  obtain ⟨a5, c5, hv5, _, _⟩ := o5.sl
  generalize (readL FL [110]).length = l5 at hv5
  subst hv5
  clear HR1 HWN HW4 HL4 o5 g5 kc1 kc2 yF4 yF3
  go_wp2_with fail
  refine HR2.out.mono ?_
  rintro e w6 ⟨v6, rfl, o6, g6⟩
  have HL6 := hide (HL5.out.keep g6)
  have yF6 := HL6.out.x.c
  obtain ⟨a6, c6, hv6, _, _⟩ := o6.sl
  generalize (readL FL [110, 50]).length = l6 at hv6
  subst hv6
  have hr1 := readC_or (n := [110]) hval (by decide)
  have hr2 := readC_or (n := [110, 50]) hval (by decide)
  have HVAL := hide hval
  generalize readC FL [110] = q1 at *
  generalize readC FL [110, 50] = q2 at *
  clear HR2 HL5 o6 g6 yF5 hval
  rcases hr1 with ⟨hf1, rfl⟩ | rfl
  case inr =>
    go_wp2
    go_ret
    exact ⟨rfl, HL6.out.g⟩
  rcases hr2 with ⟨hf2, rfl⟩ | rfl
  case inr =>
    go_wp2
    go_ret
    exact ⟨rfl, HL6.out.g⟩
  obtain ⟨K, hK⟩ : ∃ K : Int, kq % ((DT.length : Int) + 2) = K := ⟨_, rfl⟩
  have hK0 : 0 ≤ K := by rw [← hK]; exact Int.emod_nonneg _ (by omega)
  have hK1 : K < (DT.length : Int) + 2 := by rw [← hK]; exact Int.emod_lt_of_pos _ (by omega)
  have hKt : kq.tmod ((DT.length : Int) + 2) = K := by rw [Int.tmod_eq_emod_of_nonneg hkb.1]; exact hK
  have HCH : Hid (∀ d, Chn2 FL [110] [110, 50] d K) := fun d => ⟨HVAL.out, by omega, hf1, hf2, by simp, by decide, by decide, hK0⟩
  have HTK6 := hide (HTK.out w6 HL6.out.g)
  have HF1 := hide hf1
  obtain ⟨KN, rfl⟩ : ∃ KN : Nat, K = (KN : Int) := ⟨K.toNat, by omega⟩
  have HCR := hide (specCrash_any _ FL (KN : Int) w6 HL6.out.f HFSS.out (by omega))
  obtain ⟨hcr1, hcr2⟩ := craF_ok (keep := (KN : Int)) hK0 HVAL.out
  rw [hcr1, hcr2] at HCR
  clear hK hf2 hf1 HTK hcr1 hcr2
  go_wp2_with fail
  refine HTK6.out.mono ?_
  rintro e w6' ⟨rfl, rfl⟩
  clear HTK6
  refine if hkk : (DT.length : Int) < (KN : Int) then ?kp else ?kn
  case' kp =>
    have HSX : Hid (∀ W, Lx w W (.slice fa FL.length fc) (.slice da DT.length dc) (.slice (some ⟨w3.heap.size, 0, none⟩) 1 1) (.slice (some ⟨w3.heap.size + 1, 0, none⟩) 2 2) FL DT w1.heap.size → RdB W.heap.size W (.slice da DT.length dc) (DT.take (min (KN : Int).toNat DT.length))) := fun W h => by
      rw [Nat.min_eq_right (by omega), List.take_length]; exact h.d
    have hXl : DT.length ≤ 61 := by omega
    go_wp2_with fail
  case' kn =>
    have HSX : Hid (∀ W, Lx w W (.slice fa FL.length fc) (.slice da DT.length dc) (.slice (some ⟨w3.heap.size, 0, none⟩) 1 1) (.slice (some ⟨w3.heap.size + 1, 0, none⟩) 2 2) FL DT w1.heap.size → RdB W.heap.size W (.slice da KN dc) (DT.take (min (KN : Int).toNat DT.length))) := fun W h => by
      rw [Nat.min_eq_left (by omega), show (KN : Int).toNat = KN by omega]; exact rd_cutL h.d (by omega)
    have hXl : KN ≤ 61 := by omega
    go_wp2_with fail
  all_goals
    refine HCR.out.mono ?_
    rintro e w7 ⟨v7, rfl, o7, g7⟩
    have hF8 := Fv.new o7.rd
    have gA8 := World.grownBy_alloc w7 (Obj.cells #[v7] 25) none
    have L8 := (HL6.out.keep g7).keep gA8
    have HD8 := hide (HDW.out _ L8.g)
    have HL8 := hide L8
    have HF8 := hide hF8
    obtain ⟨a7, c7, hv7, _, _⟩ := o7.rd.sl
    generalize (crashF (KN : Int) FL).length = l7 at hv7
    subst hv7
    clear HCR o7 g7 gA8 L8 hF8 HL6
    go_wp2_with fail
    generalize w7.alloc (Obj.cells #[.slice a7 l7 c7] 25) = w8 at *
    refine HD8.out.mono ?_
    rintro e w9 ⟨fv2, nv2, dv2, rfl, ⟨na2, nn2, nc2, hnv2⟩, hrf2, hrd2, hsd2, g9⟩
    obtain ⟨fa2, fc2, hfv2, _, _⟩ := hrf2.sl
    obtain ⟨da2, dc2, hdv2, _, _⟩ := hsd2
    have hF10 := Fv.new hrf2
    have gA10 := World.grownBy_alloc w9 (Obj.cells #[fv2] 25) none
    have HL10 := hide ((HL8.out.keep g9).keep gA10)
    have HB10 := hide ((HF8.out.keep g9).keep gA10)
    have HF10 := hide hF10
    subst hfv2 hdv2 hnv2
    clear HD8 HL8 HF8 hrf2 hrd2 g9 gA10 hF10 HDW
    have hdw := drw (w9.alloc (Obj.cells #[.slice fa2 FL.length fc2] 25))
    have hL := HL10.out.keep hdw
    have hB := HB10.out.keep hdw
    have hF := HF10.out.keep hdw
    obtain ⟨I, hI⟩ : ∃ I : World → Prop, I = (fun U => U.cell? ⟨w9.heap.size, 0, none⟩ = some (.slice fa2 FL.length fc2)) := ⟨_, rfl⟩
    have HI : I (w9.alloc (Obj.cells #[.slice fa2 FL.length fc2] 25)).drew := by rw [hI]; exact hF.x.c
    have hIK : ∀ {U U' : World}, U.grownBy U' none → I U → I U' := fun {U U'} g h => by rw [hI] at h ⊢; exact g.cell h (by simp)
    generalize hU0 : (w9.alloc (Obj.cells #[.slice fa2 FL.length fc2] 25)).drew = U0 at *
    clear hdw HL10 HB10 HF10
    go_wp2
    apply joinR (P := fun pa LA pc ba _ _ _ W => Lx w W (.slice fa FL.length fc) (.slice da DT.length dc) (.slice (some ⟨w3.heap.size, 0, none⟩) 1 1) (.slice (some ⟨w3.heap.size + 1, 0, none⟩) 2 2) FL DT w1.heap.size ∧ Fv W w7.heap.size (.slice a7 l7 c7) (crashF (KN : Int) FL) ∧ ∃ pi, Pos FL [110] pi ∧ (FL.take pi ++ (⟨[110], DT, 0⟩ : Fl) :: FL.drop pi).length = LA ∧ Fv W ba (.slice pa LA pc) (FL.take pi ++ (⟨[110], DT, 0⟩ : Fl) :: FL.drop pi))
    case main =>
      intro KEY
      refine region_anyI I (fun _ => false) (by kernel_rfl) ?_
      show anyI _ _ _ _ _ _ 12 (Array.replicate 12 false) _ _
      rw [hU0]
      refine anyI_take (i := 0) (.agg #[.slice fa2 FL.length fc2]) rfl (by kernel_rfl) (by kernel_rfl) (by kernel_rfl) (by kernel_rfl) (fun _ _ _ h => h) HI (yldI rfl (fun U hU => by rw [hI] at hU; go_simp)) ?_
      refine anyI_take (i := 1) (.slice (some ⟨w3.heap.size, 0, none⟩) 1 1) rfl (by kernel_rfl) (by kernel_rfl) (by kernel_rfl) (by kernel_rfl) (fun _ _ _ h => h) HI (yldI rfl (fun U hU => by go_simp)) ?_
      refine anyI_take (i := 3) (.slice da DT.length dc) rfl (by kernel_rfl) (by kernel_rfl) (by kernel_rfl) (by kernel_rfl) (fun _ _ _ h => h) HI (yldI rfl (fun U hU => by go_simp)) ?_
      generalize hGa : Act.put _ _ _ = A0
      simp [Act.put] at hGa
      subst hGa
      refine anyI_two (i := 2) (j := 9) (by kernel_rfl) ?_ ?_
      · have gA := World.grownBy_alloc U0 (Obj.cells #[] 5) none
        refine wpOp_val (w' := U0.alloc (Obj.cells #[] 5)) (v := .slice (some ⟨U0.heap.size, 0, none⟩) 0 0) rfl rfl (by go_simp) ⟨.inr (hIK gA HI), ?_⟩
        obtain ⟨be, hbe0⟩ : ∃ be, be = U0.heap.size := ⟨_, rfl⟩
        rw [← hbe0]
        have hE : Bw be (U0.alloc (Obj.cells #[] 5)) (.slice (some ⟨be, 0, none⟩) 0 0) [] := .inr ⟨_, rfl, Nat.le_refl _, by rw [hbe0]; simp, by simp, fun j hj => by simp at hj⟩
        have hbe2 : be < (U0.alloc (Obj.cells #[] 5)).heap.size := by rw [hbe0]; simp
        have hbe1 : U0.heap.size ≤ be := by omega
        clear hbe0
        have gE := gA
        have hL0 := hL
        have hB0 := hB
        have hF0 := hF
        have HI0 := HI
        generalize U0.alloc (Obj.cells #[] 5) = U1 at *
        replace hL := hL.keep gA
        replace hB := hB.keep gA
        replace hF := hF.keep gA
        replace HI := hIK gA HI
        clear gA
        refine anyI_two (i := 4) (j := 9) (by kernel_rfl) ?_ ?_
        · obtain ⟨dv', U2, runD, oD, gD0, hDo⟩ := bw_app be U1 (.slice (some ⟨be, 0, none⟩) 0 0) (.slice da DT.length dc) [] DT hE hL.d (by omega) (by simp; omega)
          have gD : U1.grownBy U2 (some be) := gD0
          have gA : U0.grownBy U2 none := grown_new gE gD (fun j e => by cases e; exact hbe1)
          rw [List.nil_append] at oD
          obtain ⟨da', dc', rfl, hdq1, hdq2⟩ := oD.sl
          refine wpOp_val (w' := U2) (v := .slice da' DT.length dc') rfl rfl (by go_simp) ⟨.inr (hIK gA HI0), ?_⟩
          have hDD := oD.rd
          replace hL := hL0.keep gA
          replace hB := hB0.keep gA
          replace hF := hF0.keep gA
          replace HI := hIK gA HI0
          clear runD gD gD0 hE oD hDo gA gE hL0 hB0 hF0 HI0
          refine anyI_two (i := 5) (j := 9) (by kernel_rfl) ?_ ?_
          · refine wpOp_call rfl rfl (by go_simp) (implWrite _ _ (.slice da' DT.length dc') FL [110] DT a0 a1 a2 U2 hF.r HFSS.out HVAL.out hL.n HSL.out.1 HBY.out.1 (by decide) hDD ⟨da', dc', rfl, hdq1, hdq2⟩ HF1.out (by omega) (by omega) (HERR.out.keep hL.g)) ?_
            rintro e U3 ⟨vA, FA, rfl, ⟨pi, hpi, rfl⟩, hRA, gA⟩
            refine ⟨_, rfl, .inr (hIK gA HI), ?_⟩
            replace hL := hL.keep gA
            replace hB := hB.keep gA
            replace hF := hF.keep gA
            replace HI := hIK gA HI
            clear gA
            obtain ⟨pa, pc, hvA, _, _⟩ := hRA.sl
            generalize hLA : (FL.take pi ++ (⟨[110], DT, 0⟩ : Fl) :: FL.drop pi).length = LA at hvA
            subst hvA
            refine anyI_take (i := 6) (.tuple #[.agg #[.slice pa LA pc], .int .i64 0]) rfl (by kernel_rfl) (by kernel_rfl) (by kernel_rfl) (by kernel_rfl) (fun _ _ _ h => h) HI (yldI rfl (fun U hU => by go_simp)) ?_
            refine anyI_take (i := 7) (.agg #[.slice pa LA pc]) rfl (by kernel_rfl) (by kernel_rfl) (by kernel_rfl) (by kernel_rfl) (fun _ _ _ h => h) HI (yldI rfl (fun U hU => by go_simp)) ?_
            refine anyI_take (i := 8) (.int .i64 0) rfl (by kernel_rfl) (by kernel_rfl) (by kernel_rfl) (by kernel_rfl) (fun _ _ _ h => h) HI (yldI rfl (fun U hU => by go_simp)) ?_
            refine anyI_one (i := 9) (by kernel_rfl) ?_
            have gA := World.grownBy_alloc U3 (Obj.cells #[.slice none 0 0] 25) none
            refine wpOp_val (w' := U3.alloc (Obj.cells #[.slice none 0 0] 25)) (v := .pointer (some ⟨U3.heap.size, 0, none⟩)) rfl rfl (by go_simp) ⟨.inr (hIK gA HI), ?_⟩
            obtain ⟨ba, hba0⟩ : ∃ ba, ba = U3.heap.size := ⟨_, rfl⟩
            rw [← hba0]
            have hBA : Bx (U3.alloc (Obj.cells #[.slice none 0 0] 25)) ba (.slice none 0 0) := by rw [hba0]; exact Bx.new _ _
            have hba : w.heap.size ≤ ba ∧ w1.heap.size < ba ∧ w7.heap.size < ba ∧ w9.heap.size < ba := by rw [hba0]; exact ⟨hL.g.size, hL.x.lt, hB.x.lt, hF.x.lt⟩
            clear hba0
            generalize U3.alloc (Obj.cells #[.slice none 0 0] 25) = U4 at *
            replace hL := hL.keep gA
            replace hB := hB.keep gA
            replace hF := hF.keep gA
            replace HI := hIK gA HI
            replace hRA := hRA.now gA
            clear gA
            have z0 := hBA.c
            have f0 := hBA.fr
            refine anyI_one (i := 10) (by kernel_rfl) (wpOp_skip (w' := U4.setCell ⟨ba, 0, none⟩ (.slice pa LA pc)) rfl rfl (by go_simp) ⟨.inr (by rw [hI]; exact (hF.box hBA (by omega) _).x.c), ?_⟩)
            refine anyI_one (i := 11) (by kernel_rfl) (wpOp_val (w' := U4.setCell ⟨ba, 0, none⟩ (.slice pa LA pc)) (v := .int .i64 0) rfl rfl (by go_simp) ⟨.inr (by rw [hI]; exact (hF.box hBA (by omega) _).x.c), ?_⟩)
            refine anyI_done (by kernel_rfl) ?_ _
            generalize hGz : Act.put _ _ _ = AZ
            simp [Act.put] at hGz
            subst hGz
            exact KEY pa LA pc ba be da' dc' _ ⟨hL.box hBA (by omega) (by omega) _, hB.box hBA (by omega) _, pi, hpi, hLA, Fv.put hRA hBA⟩
          · have gA := World.grownBy_alloc U2 (Obj.cells #[.slice none 0 0] 25) none
            refine wpOp_val (w' := U2.alloc (Obj.cells #[.slice none 0 0] 25)) (v := .pointer (some ⟨U2.heap.size, 0, none⟩)) rfl rfl (by go_simp) ⟨.inr (hIK gA HI), ?_⟩
            obtain ⟨ba, hba0⟩ : ∃ ba, ba = U2.heap.size := ⟨_, rfl⟩
            rw [← hba0]
            have hBA : Bx (U2.alloc (Obj.cells #[.slice none 0 0] 25)) ba (.slice none 0 0) := by rw [hba0]; exact Bx.new _ _
            have hba : w.heap.size ≤ ba ∧ w1.heap.size < ba ∧ w7.heap.size < ba ∧ w9.heap.size < ba := by rw [hba0]; exact ⟨hL.g.size, hL.x.lt, hB.x.lt, hF.x.lt⟩
            clear hba0
            generalize U2.alloc (Obj.cells #[.slice none 0 0] 25) = U3 at *
            replace hL := hL.keep gA
            replace hB := hB.keep gA
            replace hF := hF.keep gA
            replace HI := hIK gA HI
            replace hDD := (hDD.keep gA).wideF gA.size
            clear gA
            refine anyI_one (i := 5) (by kernel_rfl) ?_
            refine wpOp_call rfl rfl (by go_simp) (implWrite _ _ (.slice da' DT.length dc') FL [110] DT a0 a1 a2 U3 hF.r HFSS.out HVAL.out hL.n HSL.out.1 HBY.out.1 (by decide) hDD ⟨da', dc', rfl, hdq1, hdq2⟩ HF1.out (by omega) (by omega) (HERR.out.keep hL.g)) ?_
            rintro e U4 ⟨vA, FA, rfl, ⟨pi, hpi, rfl⟩, hRA, gA⟩
            refine ⟨_, rfl, .inr (hIK gA HI), ?_⟩
            replace hL := hL.keep gA
            replace hB := hB.keep gA
            replace hF := hF.keep gA
            replace HI := hIK gA HI
            have hBAo := hBA
            replace hBA := hBA.keep gA (by simp)
            clear gA
            obtain ⟨pa, pc, hvA, _, _⟩ := hRA.sl
            generalize hLA : (FL.take pi ++ (⟨[110], DT, 0⟩ : Fl) :: FL.drop pi).length = LA at hvA
            subst hvA
            refine anyI_take (i := 6) (.tuple #[.agg #[.slice pa LA pc], .int .i64 0]) rfl (by kernel_rfl) (by kernel_rfl) (by kernel_rfl) (by kernel_rfl) (fun _ _ _ h => h) HI (yldI rfl (fun U hU => by go_simp)) ?_
            refine anyI_take (i := 7) (.agg #[.slice pa LA pc]) rfl (by kernel_rfl) (by kernel_rfl) (by kernel_rfl) (by kernel_rfl) (fun _ _ _ h => h) HI (yldI rfl (fun U hU => by go_simp)) ?_
            refine anyI_take (i := 8) (.int .i64 0) rfl (by kernel_rfl) (by kernel_rfl) (by kernel_rfl) (by kernel_rfl) (fun _ _ _ h => h) HI (yldI rfl (fun U hU => by go_simp)) ?_
            have z0 := hBA.c
            have f0 := hBA.fr
            refine anyI_one (i := 10) (by kernel_rfl) (wpOp_skip (w' := U4.setCell ⟨ba, 0, none⟩ (.slice pa LA pc)) rfl rfl (by go_simp) ⟨.inr (by rw [hI]; exact (hF.box hBA (by omega) _).x.c), ?_⟩)
            refine anyI_one (i := 11) (by kernel_rfl) (wpOp_val (w' := U4.setCell ⟨ba, 0, none⟩ (.slice pa LA pc)) (v := .int .i64 0) rfl rfl (by go_simp) ⟨.inr (by rw [hI]; exact (hF.box hBA (by omega) _).x.c), ?_⟩)
            refine anyI_done (by kernel_rfl) ?_ _
            generalize hGz : Act.put _ _ _ = AZ
            simp [Act.put] at hGz
            subst hGz
            exact KEY pa LA pc ba be da' dc' _ ⟨hL.box hBA (by omega) (by omega) _, hB.box hBA (by omega) _, pi, hpi, hLA, Fv.put hRA hBA⟩
        · have gA := World.grownBy_alloc U1 (Obj.cells #[.slice none 0 0] 25) none
          refine wpOp_val (w' := U1.alloc (Obj.cells #[.slice none 0 0] 25)) (v := .pointer (some ⟨U1.heap.size, 0, none⟩)) rfl rfl (by go_simp) ⟨.inr (hIK gA HI), ?_⟩
          obtain ⟨ba, hba0⟩ : ∃ ba, ba = U1.heap.size := ⟨_, rfl⟩
          rw [← hba0]
          have hBA : Bx (U1.alloc (Obj.cells #[.slice none 0 0] 25)) ba (.slice none 0 0) := by rw [hba0]; exact Bx.new _ _
          have hba : w.heap.size ≤ ba ∧ w1.heap.size < ba ∧ w7.heap.size < ba ∧ w9.heap.size < ba := by rw [hba0]; exact ⟨hL.g.size, hL.x.lt, hB.x.lt, hF.x.lt⟩
          have hbe : ba ≠ be := by omega
          replace hbe2 := Nat.lt_of_lt_of_le hbe2 gA.size
          clear hba0
          generalize U1.alloc (Obj.cells #[.slice none 0 0] 25) = U2 at *
          replace hL := hL.keep gA
          replace hB := hB.keep gA
          replace hF := hF.keep gA
          replace HI := hIK gA HI
          replace hE := hE.keep gA
          replace gE := grown_trans gE gA
          clear gA
          refine anyI_one (i := 4) (by kernel_rfl) ?_
          obtain ⟨dv', U3, runD, oD, gD0, hDo⟩ := bw_app be U2 (.slice (some ⟨be, 0, none⟩) 0 0) (.slice da DT.length dc) [] DT hE hL.d (by omega) (by simp; omega)
          have gD : U2.grownBy U3 (some be) := gD0
          have gA : U0.grownBy U3 none := grown_new gE gD (fun j e => by cases e; exact hbe1)
          rw [List.nil_append] at oD
          obtain ⟨da', dc', rfl, hdq1, hdq2⟩ := oD.sl
          refine wpOp_val (w' := U3) (v := .slice da' DT.length dc') rfl rfl (by go_simp) ⟨.inr (hIK gA HI0), ?_⟩
          have hDD := oD.rd
          replace hBA := hBA.keep gD (by simp; omega)
          replace hL := hL0.keep gA
          replace hB := hB0.keep gA
          replace hF := hF0.keep gA
          replace HI := hIK gA HI0
          clear runD gD gD0 hE oD hDo gA gE hL0 hB0 hF0 HI0
          refine anyI_one (i := 5) (by kernel_rfl) ?_
          refine wpOp_call rfl rfl (by go_simp) (implWrite _ _ (.slice da' DT.length dc') FL [110] DT a0 a1 a2 U3 hF.r HFSS.out HVAL.out hL.n HSL.out.1 HBY.out.1 (by decide) hDD ⟨da', dc', rfl, hdq1, hdq2⟩ HF1.out (by omega) (by omega) (HERR.out.keep hL.g)) ?_
          rintro e U4 ⟨vA, FA, rfl, ⟨pi, hpi, rfl⟩, hRA, gA⟩
          refine ⟨_, rfl, .inr (hIK gA HI), ?_⟩
          replace hL := hL.keep gA
          replace hB := hB.keep gA
          replace hF := hF.keep gA
          replace HI := hIK gA HI
          have hBAo := hBA
          replace hBA := hBA.keep gA (by simp)
          clear gA
          obtain ⟨pa, pc, hvA, _, _⟩ := hRA.sl
          generalize hLA : (FL.take pi ++ (⟨[110], DT, 0⟩ : Fl) :: FL.drop pi).length = LA at hvA
          subst hvA
          refine anyI_take (i := 6) (.tuple #[.agg #[.slice pa LA pc], .int .i64 0]) rfl (by kernel_rfl) (by kernel_rfl) (by kernel_rfl) (by kernel_rfl) (fun _ _ _ h => h) HI (yldI rfl (fun U hU => by go_simp)) ?_
          refine anyI_take (i := 7) (.agg #[.slice pa LA pc]) rfl (by kernel_rfl) (by kernel_rfl) (by kernel_rfl) (by kernel_rfl) (fun _ _ _ h => h) HI (yldI rfl (fun U hU => by go_simp)) ?_
          refine anyI_take (i := 8) (.int .i64 0) rfl (by kernel_rfl) (by kernel_rfl) (by kernel_rfl) (by kernel_rfl) (fun _ _ _ h => h) HI (yldI rfl (fun U hU => by go_simp)) ?_
          have z0 := hBA.c
          have f0 := hBA.fr
          refine anyI_one (i := 10) (by kernel_rfl) (wpOp_skip (w' := U4.setCell ⟨ba, 0, none⟩ (.slice pa LA pc)) rfl rfl (by go_simp) ⟨.inr (by rw [hI]; exact (hF.box hBA (by omega) _).x.c), ?_⟩)
          refine anyI_one (i := 11) (by kernel_rfl) (wpOp_val (w' := U4.setCell ⟨ba, 0, none⟩ (.slice pa LA pc)) (v := .int .i64 0) rfl rfl (by go_simp) ⟨.inr (by rw [hI]; exact (hF.box hBA (by omega) _).x.c), ?_⟩)
          refine anyI_done (by kernel_rfl) ?_ _
          generalize hGz : Act.put _ _ _ = AZ
          simp [Act.put] at hGz
          subst hGz
          exact KEY pa LA pc ba be da' dc' _ ⟨hL.box hBA (by omega) (by omega) _, hB.box hBA (by omega) _, pi, hpi, hLA, Fv.put hRA hBA⟩
      · have gA := World.grownBy_alloc U0 (Obj.cells #[.slice none 0 0] 25) none
        refine wpOp_val (w' := U0.alloc (Obj.cells #[.slice none 0 0] 25)) (v := .pointer (some ⟨U0.heap.size, 0, none⟩)) rfl rfl (by go_simp) ⟨.inr (hIK gA HI), ?_⟩
        obtain ⟨ba, hba0⟩ : ∃ ba, ba = U0.heap.size := ⟨_, rfl⟩
        rw [← hba0]
        have hBA : Bx (U0.alloc (Obj.cells #[.slice none 0 0] 25)) ba (.slice none 0 0) := by rw [hba0]; exact Bx.new _ _
        have hba : w.heap.size ≤ ba ∧ w1.heap.size < ba ∧ w7.heap.size < ba ∧ w9.heap.size < ba := by rw [hba0]; exact ⟨hL.g.size, hL.x.lt, hB.x.lt, hF.x.lt⟩
        clear hba0
        generalize U0.alloc (Obj.cells #[.slice none 0 0] 25) = U1 at *
        replace hL := hL.keep gA
        replace hB := hB.keep gA
        replace hF := hF.keep gA
        replace HI := hIK gA HI
        clear gA
        refine anyI_one (i := 2) (by kernel_rfl) ?_
        have gA := World.grownBy_alloc U1 (Obj.cells #[] 5) none
        refine wpOp_val (w' := U1.alloc (Obj.cells #[] 5)) (v := .slice (some ⟨U1.heap.size, 0, none⟩) 0 0) rfl rfl (by go_simp) ⟨.inr (hIK gA HI), ?_⟩
        obtain ⟨be, hbe0⟩ : ∃ be, be = U1.heap.size := ⟨_, rfl⟩
        rw [← hbe0]
        have hE : Bw be (U1.alloc (Obj.cells #[] 5)) (.slice (some ⟨be, 0, none⟩) 0 0) [] := .inr ⟨_, rfl, Nat.le_refl _, by rw [hbe0]; simp, by simp, fun j hj => by simp at hj⟩
        have hbe2 : be < (U1.alloc (Obj.cells #[] 5)).heap.size := by rw [hbe0]; simp
        have hbe1 : U1.heap.size ≤ be := by omega
        have hbe : ba ≠ be := by have := hBA.lt; omega
        clear hbe0
        have gE := gA
        have hL0 := hL
        have hB0 := hB
        have hF0 := hF
        have HI0 := HI
        generalize U1.alloc (Obj.cells #[] 5) = U2 at *
        replace hL := hL.keep gA
        replace hB := hB.keep gA
        replace hF := hF.keep gA
        replace HI := hIK gA HI
        have hBAo := hBA
        replace hBA := hBA.keep gA (by simp)
        clear gA
        refine anyI_one (i := 4) (by kernel_rfl) ?_
        obtain ⟨dv', U3, runD, oD, gD0, hDo⟩ := bw_app be U2 (.slice (some ⟨be, 0, none⟩) 0 0) (.slice da DT.length dc) [] DT hE hL.d (by omega) (by simp; omega)
        have gD : U2.grownBy U3 (some be) := gD0
        have gA : U1.grownBy U3 none := grown_new gE gD (fun j e => by cases e; exact hbe1)
        rw [List.nil_append] at oD
        obtain ⟨da', dc', rfl, hdq1, hdq2⟩ := oD.sl
        refine wpOp_val (w' := U3) (v := .slice da' DT.length dc') rfl rfl (by go_simp) ⟨.inr (hIK gA HI0), ?_⟩
        have hDD := oD.rd
        replace hBA := hBA.keep gD (by simp; omega)
        replace hL := hL0.keep gA
        replace hB := hB0.keep gA
        replace hF := hF0.keep gA
        replace HI := hIK gA HI0
        clear runD gD gD0 hE oD hDo gA gE hL0 hB0 hF0 HI0
        refine anyI_one (i := 5) (by kernel_rfl) ?_
        refine wpOp_call rfl rfl (by go_simp) (implWrite _ _ (.slice da' DT.length dc') FL [110] DT a0 a1 a2 U3 hF.r HFSS.out HVAL.out hL.n HSL.out.1 HBY.out.1 (by decide) hDD ⟨da', dc', rfl, hdq1, hdq2⟩ HF1.out (by omega) (by omega) (HERR.out.keep hL.g)) ?_
        rintro e U4 ⟨vA, FA, rfl, ⟨pi, hpi, rfl⟩, hRA, gA⟩
        refine ⟨_, rfl, .inr (hIK gA HI), ?_⟩
        replace hL := hL.keep gA
        replace hB := hB.keep gA
        replace hF := hF.keep gA
        replace HI := hIK gA HI
        have hBAo := hBA
        replace hBA := hBA.keep gA (by simp)
        clear gA
        obtain ⟨pa, pc, hvA, _, _⟩ := hRA.sl
        generalize hLA : (FL.take pi ++ (⟨[110], DT, 0⟩ : Fl) :: FL.drop pi).length = LA at hvA
        subst hvA
        refine anyI_take (i := 6) (.tuple #[.agg #[.slice pa LA pc], .int .i64 0]) rfl (by kernel_rfl) (by kernel_rfl) (by kernel_rfl) (by kernel_rfl) (fun _ _ _ h => h) HI (yldI rfl (fun U hU => by go_simp)) ?_
        refine anyI_take (i := 7) (.agg #[.slice pa LA pc]) rfl (by kernel_rfl) (by kernel_rfl) (by kernel_rfl) (by kernel_rfl) (fun _ _ _ h => h) HI (yldI rfl (fun U hU => by go_simp)) ?_
        refine anyI_take (i := 8) (.int .i64 0) rfl (by kernel_rfl) (by kernel_rfl) (by kernel_rfl) (by kernel_rfl) (fun _ _ _ h => h) HI (yldI rfl (fun U hU => by go_simp)) ?_
        have z0 := hBA.c
        have f0 := hBA.fr
        refine anyI_one (i := 10) (by kernel_rfl) (wpOp_skip (w' := U4.setCell ⟨ba, 0, none⟩ (.slice pa LA pc)) rfl rfl (by go_simp) ⟨.inr (by rw [hI]; exact (hF.box hBA (by omega) _).x.c), ?_⟩)
        refine anyI_one (i := 11) (by kernel_rfl) (wpOp_val (w' := U4.setCell ⟨ba, 0, none⟩ (.slice pa LA pc)) (v := .int .i64 0) rfl rfl (by go_simp) ⟨.inr (by rw [hI]; exact (hF.box hBA (by omega) _).x.c), ?_⟩)
        refine anyI_done (by kernel_rfl) ?_ _
        generalize hGz : Act.put _ _ _ = AZ
        simp [Act.put] at hGz
        subst hGz
        exact KEY pa LA pc ba be da' dc' _ ⟨hL.box hBA (by omega) (by omega) _, hB.box hBA (by omega) _, pi, hpi, hLA, Fv.put hRA hBA⟩
    case key =>
      rintro pa LA pc ba be da' dc' W ⟨hL, hB, pi, hpi, hLA, hA⟩
      have HC := HCH.out DT
      have hDb : DT.length ≤ 1048576 := by omega
      have hFA : Fss (FL.take pi ++ (⟨[110], DT, 0⟩ : Fl) :: FL.drop pi) := fss_ins HFSS.out (by omega) pi ⟨[110], DT, 0⟩ ⟨by simp, hDb⟩ ⟨HBY.out.1, HDK.out.1⟩
      obtain ⟨hvA, hfA, hmA⟩ := HC.a (d := DT) hpi
      obtain ⟨hrc1, hrc2, hrc3⟩ := HC.readA (d := DT) hpi
      have hcA := (craF_ok (keep := (KN : Int)) HC.k0 hvA).1
      have hFB : Fss (craF (FL.take pi ++ (⟨[110], DT, 0⟩ : Fl) :: FL.drop pi) (KN : Int)) := by rw [hcA]; exact fss_crash hFA _
      have HCr := hide (implCrash_any _ _ (KN : Int) a0 a1 a2 W hA.r hFA (by omega) (HERR.out.keep hL.g))
      rw [hrc1] at HCr
      have yA := hA.x.c
      have HLW := hide hL
      have HBW := hide hB
      have HAW := hide hA
      have HPI := hide hpi
      have HVA := hide (And.intro hvA (And.intro hfA hmA))
      have HFA := hide hFA
      have HFB := hide hFB
      have HRC := hide (And.intro hrc2 hrc3)
      clear hL hB hA hpi hLA hvA hfA hmA hrc1 hrc2 hrc3 hcA hFA hFB hI hIK HI hF hU0
      go_wp2_with fail
      refine HCr.out.mono ?_
      rintro e w11 ⟨v11, rfl, o11, g11⟩
      have hF12 := Fv.new o11.rd
      have gA12 := World.grownBy_alloc w11 (Obj.cells #[v11] 25) none
      have HL12 := hide ((HLW.out.keep g11).keep gA12)
      have HB12 := hide ((HBW.out.keep g11).keep gA12)
      have HA12 := hide ((HAW.out.keep g11).keep gA12)
      have y12 := hF12.x.c
      have HRd := hide (implRead_any _ _ _ [110] a0 a1 a2 _ hF12.r HFB.out HL12.out.n HSL.out.1 HBY.out.1 (HERR.out.keep HL12.out.g))
      rw [HRC.out.1] at HRd
      obtain ⟨a11, c11, hv11, _, _⟩ := o11.rd.sl
      generalize (craF (FL.take pi ++ (⟨[110], DT, 0⟩ : Fl) :: FL.drop pi) (KN : Int)).length = l11 at hv11
      subst hv11
      clear HCr HLW HBW HAW o11 g11 gA12 hF12 yA
      go_wp2_with fail
      generalize w11.alloc (Obj.cells #[.slice a11 l11 c11] 25) = w12 at *
      refine HRd.out.mono ?_
      rintro e w13 ⟨v13, rfl, o13, g13⟩
      have HL13 := hide (HL12.out.keep g13)
      have HB13 := hide (HB12.out.keep g13)
      have HA13 := hide (HA12.out.keep g13)
      have o13' := o13.rd
      rw [HRC.out.2] at o13'
      have HSm := hide (sameB_same _ _ _ w13 o13' (HSX.out w13 HL13.out) (by simp; omega))
      obtain ⟨a13, c13, hv13, _, _⟩ := o13.sl
      generalize (readL (craF (FL.take pi ++ (⟨[110], DT, 0⟩ : Fl) :: FL.drop pi) (KN : Int)) [110]).length = l13 at hv13
      subst hv13
      clear HRd HL12 HB12 HA12 o13 o13' g13 y12
      go_wp2_with fail
      refine HSm.out.mono ?_
      rintro e w14 ⟨rfl, g14⟩
      have HL14 := hide (HL13.out.keep g14)
      have HB14 := hide (HB13.out.keep g14)
      have HA14 := hide (HA13.out.keep g14)
      have y14 := HA14.out.x.c
      have HSy := hide (implSync _ _ _ [110] a0 a1 a2 w14 HA14.out.r HFA.out HVA.out.1 HL14.out.n HSL.out.1 HBY.out.1 (by decide) (by rw [HVA.out.2.1]; simp) (HERR.out.keep HL14.out.g))
      clear HSm HL13 HB13 HA13 g14
      go_wp2_with fail
      refine HSy.out.mono ?_
      rintro e w15 ⟨v15, F15, rfl, ⟨j15, hj15, hn15, rfl⟩, r15, g15⟩
      rw [HC.sync HPI.out hj15 hn15] at r15
      have hFC : Fss (FL.take pi ++ (⟨[110], DT, (DT.length : Int)⟩ : Fl) :: FL.drop pi) := fss_ins HFSS.out (by omega) pi ⟨[110], DT, (DT.length : Int)⟩ ⟨by simp, hDb⟩ ⟨HBY.out.1, HDK.out.1⟩
      obtain ⟨hvC, hfC, hmC⟩ := HC.cs (d := DT) HPI.out
      have hF16 := Fv.new r15
      have gA16 := World.grownBy_alloc w15 (Obj.cells #[v15] 25) none
      have HL16 := hide ((HL14.out.keep g15).keep gA16)
      have HB16 := hide ((HB14.out.keep g15).keep gA16)
      have y16 := hF16.x.c
      have HRn := hide (implRename _ _ _ _ [110] [110, 50] a0 a1 a2 _ hF16.r hFC hvC HL16.out.n HSL.out.1 HBY.out.1 (by decide) HL16.out.m HSL.out.2 HBY.out.2 (by decide) (by rw [hfC]; simp) hmC (HERR.out.keep HL16.out.g))
      obtain ⟨a15, c15, hv15, _, _⟩ := r15.sl
      generalize (FL.take pi ++ (⟨[110], DT, (DT.length : Int)⟩ : Fl) :: FL.drop pi).length = l15 at hv15
      subst hv15
      clear HSy HL14 HB14 HA14 r15 g15 gA16 hF16 y14 hFC hvC hfC hmC
      go_wp2_with fail
      generalize w15.alloc (Obj.cells #[.slice a15 l15 c15] 25) = w16 at *
      refine HRn.out.mono ?_
      rintro e w17 ⟨v17, F17, rfl, ⟨j17, k17, hj17, hn17, hp17, rfl⟩, r17, g17⟩
      obtain ⟨hp18, e18⟩ := HC.ren HPI.out hj17 hn17 hp17
      rw [e18] at r17
      have hFD : Fss (FL.take k17 ++ (⟨[110, 50], DT, (DT.length : Int)⟩ : Fl) :: FL.drop k17) := fss_ins HFSS.out (by omega) k17 ⟨[110, 50], DT, (DT.length : Int)⟩ ⟨by simp, hDb⟩ ⟨HBY.out.2, HDK.out.1⟩
      obtain ⟨d1, d2, d3, d4, d5, d6⟩ := HC.readD (d := DT) hp18
      have hcD := (craF_ok (keep := (KN : Int)) HC.k0 (HC.dd (d := DT) hp18).1).1
      have hFE : Fss (craF (FL.take k17 ++ (⟨[110, 50], DT, (DT.length : Int)⟩ : Fl) :: FL.drop k17) (KN : Int)) := by rw [hcD]; exact fss_crash hFD _
      have HEE := hide (And.intro (And.intro d2 d3) (And.intro (And.intro d4 d5) d6))
      have HP18 := hide hp18
      have HFE := hide hFE
      have hF18 := Fv.new r17
      have gA18 := World.grownBy_alloc w17 (Obj.cells #[v17] 25) none
      have HL18 := hide ((HL16.out.keep g17).keep gA18)
      have HB18 := hide ((HB16.out.keep g17).keep gA18)
      have y18 := hF18.x.c
      have HC2 := hide (implCrash_any _ _ (KN : Int) a0 a1 a2 _ hF18.r hFD (by omega) (HERR.out.keep HL18.out.g))
      rw [d1] at HC2
      obtain ⟨a17, c17, hv17, _, _⟩ := r17.sl
      generalize (FL.take k17 ++ (⟨[110, 50], DT, (DT.length : Int)⟩ : Fl) :: FL.drop k17).length = l17 at hv17
      subst hv17
      clear HRn HL16 HB16 r17 g17 gA18 hF18 y16 hFD d1 d2 d3 d4 d5 d6 hcD hFE hp17 e18 hp18
      go_wp2_with fail
      generalize w17.alloc (Obj.cells #[.slice a17 l17 c17] 25) = w18 at *
      refine HC2.out.mono ?_
      rintro e w19 ⟨v19, rfl, o19, g19⟩
      have hF20 := Fv.new o19.rd
      have gA20 := World.grownBy_alloc w19 (Obj.cells #[v19] 25) none
      have HL20 := hide ((HL18.out.keep g19).keep gA20)
      have HB20 := hide ((HB18.out.keep g19).keep gA20)
      have HF20 := hide hF20
      have y20 := hF20.x.c
      have HR3 := hide (implRead_any _ _ _ [110, 50] a0 a1 a2 _ hF20.r HFE.out HL20.out.m HSL.out.2 HBY.out.2 (HERR.out.keep HL20.out.g))
      rw [HEE.out.2.1.1] at HR3
      obtain ⟨a19, c19, hv19, _, _⟩ := o19.rd.sl
      generalize (craF (FL.take k17 ++ (⟨[110, 50], DT, (DT.length : Int)⟩ : Fl) :: FL.drop k17) (KN : Int)).length = l19 at hv19
      subst hv19
      clear HC2 HL18 HB18 o19 g19 gA20 hF20 y18
      go_wp2_with fail
      generalize w19.alloc (Obj.cells #[.slice a19 l19 c19] 25) = w20 at *
      refine HR3.out.mono ?_
      rintro e w21 ⟨v21, rfl, o21, g21⟩
      have HL21 := hide (HL20.out.keep g21)
      have HB21 := hide (HB20.out.keep g21)
      have HF21 := hide (HF20.out.keep g21)
      have y21 := HF21.out.x.c
      have o21' := o21.rd
      rw [HEE.out.2.1.2] at o21'
      have HY21 := hide o21'
      have HR4 := hide (implRead_any _ _ _ [110] a0 a1 a2 w21 HF21.out.r HFE.out HL21.out.n HSL.out.1 HBY.out.1 (HERR.out.keep HL21.out.g))
      rw [HEE.out.2.2] at HR4
      obtain ⟨a21, c21, hv21, _, _⟩ := o21.sl
      generalize (readL (craF (FL.take k17 ++ (⟨[110, 50], DT, (DT.length : Int)⟩ : Fl) :: FL.drop k17) (KN : Int)) [110, 50]).length = l21 at hv21
      subst hv21
      clear HR3 HL20 HB20 HF20 o21 o21' g21 y20
      go_wp2_with fail
      refine HR4.out.mono ?_
      rintro e w22 ⟨v22, rfl, o22, g22⟩
      have HL22 := hide (HL21.out.keep g22)
      have HB22 := hide (HB21.out.keep g22)
      have HF22 := hide (HF21.out.keep g22)
      have y22 := HF22.out.x.c
      have HS2 := hide (sameB_same _ _ _ w22 ((HY21.out.keep g22).wideF g22.size) HL22.out.d (by omega))
      obtain ⟨a22, c22, hv22, _, _⟩ := o22.sl
      generalize (readL (craF (FL.take k17 ++ (⟨[110, 50], DT, (DT.length : Int)⟩ : Fl) :: FL.drop k17) (KN : Int)) [110]).length = l22 at hv22
      subst hv22
      clear HR4 HL21 HB21 HF21 o22 g22 y21 HY21
      go_wp2_with fail
      refine HS2.out.mono ?_
      rintro e w23 ⟨rfl, g23⟩
      have HL23 := hide (HL22.out.keep g23)
      have HB23 := hide (HB22.out.keep g23)
      have HF23 := hide (HF22.out.keep g23)
      have y23 := HF23.out.x.c
      have HM1 := hide (implRemove _ _ _ [110, 50] a0 a1 a2 w23 HF23.out.r HFE.out HEE.out.1.1 HL23.out.m HSL.out.2 HBY.out.2 (by decide) HEE.out.1.2 (HERR.out.keep HL23.out.g))
      clear HS2 HL22 HB22 HF22 g23 y22
      go_wp2_with fail
      refine HM1.out.mono ?_
      rintro e w24 ⟨v24, F24, rfl, ⟨j24, hj24, hn24, rfl⟩, r24, g24⟩
      rw [HC.rem HP18.out hj24 hn24] at r24
      have hF25 := Fv.new r24
      have gA25 := World.grownBy_alloc w24 (Obj.cells #[v24] 25) none
      have HL25 := hide ((HL23.out.keep g24).keep gA25)
      have HB25 := hide ((HB23.out.keep g24).keep gA25)
      have HF25 := hide hF25
      have y25 := hF25.x.c
      have hvF := crash_valid (keep := (KN : Int)) HC.k0 HC.v
      have hFF := fss_crash HFSS.out (KN : Int)
      have HFF := hide hFF
      have HM2 := hide (implRemove_none _ _ _ [110, 50] a0 a1 a2 _ hF25.r hFF hvF HL25.out.m HSL.out.2 HBY.out.2 (by decide) (crash_none HC.m0) (HERR.out.keep HL25.out.g))
      obtain ⟨a24, c24, hv24, _, _⟩ := r24.sl
      generalize (crashF (KN : Int) FL).length = l24 at hv24
      subst hv24
      clear HM1 HL23 HB23 HF23 r24 g24 gA25 hF25 y23 hvF hFF
      go_wp2_with fail
      generalize w24.alloc (Obj.cells #[.slice a24 l24 c24] 25) = w25 at *
      refine HM2.out.mono ?_
      rintro e w26 ⟨v26, F26, rfl, rfl, r26, g26⟩
      have gA27 := World.grownBy_alloc w26 (Obj.cells #[v26] 25) none
      have HL26 := hide ((HL25.out.keep g26).keep gA27)
      have hB26 := (HB25.out.keep g26).keep gA27
      have hF26 := (HF25.out.keep g26).keep gA27
      have y26 := hF26.x.c
      have z26 := hB26.x.c
      have HS3 := hide (sameFs_same _ _ _ _ hF26.r hB26.r HFF.out)
      obtain ⟨a26, c26, hv26, _, _⟩ := r26.sl
      generalize (crashF (KN : Int) FL).length = l26 at hv26
      subst hv26
      clear HM2 HL25 HB25 HF25 r26 g26 hB26 hF26 y25 gA27
      go_wp2_with fail
      refine HS3.out.mono ?_
      rintro e w27 ⟨rfl, g27⟩
      have HG := hide (HL26.out.keep g27).g
      clear HS3 HL26 g27
      go_wp2
      go_ret
      exact ⟨rfl, HG.out⟩
end Go.Proofs.YtakkdniikhgpdaaGreatDoor

