import Derived.Test.YtakkdniikhgpdaaGreatDoorMAJ
namespace Go.Proofs.YtakkdniikhgpdaaGreatDoor
open Go.RowKit
attribute [-go_sem] Builtin.append_

theorem Fss.take {fs : List Fl} (h : Fss fs) (k : Nat) : Fss (fs.take k) :=
  ⟨by have := h.len; simp; omega, fun p hp => h.tlen p (List.mem_of_mem_take hp), fun p hp => h.byt p (List.mem_of_mem_take hp)⟩
theorem Fss.without {fs : List Fl} (h : Fss fs) (n : List Int) : Fss (withoutF fs n) :=
  ⟨by have := h.len; have := without_len fs n; omega, fun p hp => h.tlen p (without_mem hp), fun p hp => h.byt p (without_mem hp)⟩

theorem cellNew (W : World) (x0 x1 x2 : Value) (t : TypeId) : (W.alloc (Obj.cells #[x0, x1, x2] t)).cell? ⟨W.heap.size, 0, none⟩ = some x0 ∧ (W.alloc (Obj.cells #[x0, x1, x2] t)).cell? ⟨W.heap.size, 1, none⟩ = some x1 ∧ (W.alloc (Obj.cells #[x0, x1, x2] t)).cell? ⟨W.heap.size, 2, none⟩ = some x2 := by
  simp [go_sem]

/-- One more file put on, whose texts read below T. -/
theorem RoF.push {T B : Nat} {w : World} {v : Value} {fs : List Fl} (h : RoF T B w v fs) (b : Nat) (p : Fl) (x : Value × Value) (h0 : w.cell? ⟨b, 0, none⟩ = some x.1) (h1 : w.cell? ⟨b, 1, none⟩ = some x.2) (h2 : w.cell? ⟨b, 2, none⟩ = some (.int .i64 p.s))
    (hV : FlV T w p x) (hTB : T ≤ B) (hB : B ≤ w.heap.size) (hn : fs.length ≤ 100000000) :
    ∃ v' w', (Builtin.append_ #[23, 23] 23 #[v, .slice (some ⟨b, 0, none⟩) 1 1]).run Tryz.prog w = .ok v' w' ∧ RoF T B w' v' (fs ++ [p]) ∧ w.grownBy w' v.ownBlock ∧ (∀ j, v.ownBlock = some j → B ≤ j) ∧ ∃ a cap, v' = .slice a (fs.length + 1) cap := by
  obtain ⟨xs, hl, ho, hx⟩ := h
  obtain ⟨v', w', hrun, ho', g', _, hv'⟩ := append_fl B w v fs xs b p x hl ho h0 h1 h2 hV.sn hV.sd hB hn
  have hlt : ∀ j, v.ownBlock = some j → B ≤ j := fun j e => (World.ownsRow.lt ho j e).1
  refine ⟨v', w', hrun, ⟨xs ++ [x], by simp [hl], ho', fun j q y h1 h2 => ?_⟩, g', hlt, hv'⟩
  by_cases hj : j < fs.length
  · rw [List.getElem?_append_left hj] at h1
    rw [List.getElem?_append_left (by omega)] at h2
    obtain ⟨r1, r2, r3, r4⟩ := hx j q y h1 h2
    exact ⟨r1.beside g' (fun k e => by have := hlt k e; omega), r2, r3.beside g' (fun k e => by have := hlt k e; omega), r4⟩
  · have hj2 : j = fs.length := by
      have := (List.getElem?_eq_some_iff.1 h1).1
      simp at this; omega
    subst hj2
    simp at h1
    rw [← hl] at h2
    simp at h2
    subst h1 h2
    exact ⟨hV.rn.beside g' (fun k e => by have := hlt k e; omega), hV.sn, hV.rd.beside g' (fun k e => by have := hlt k e; omega), hV.sd⟩

set_option maxHeartbeats 8000000 in
set_option maxRecDepth 100000 in
theorem l7without_any (v nv : Value) (fs : List Fl) (n : List Int) (w : World) (hv : RdF w.heap.size w v fs) (hnv : RdB w.heap.size w nv n) (hd : Fss fs) (hb : Byt n) :
    Calls Tryz.prog 64 #[.agg #[v], nv] w fun e w' => ∃ v', e = .returned (.agg #[v']) ∧ OwF w.heap.size w' v' (withoutF fs n) ∧ w.grownBy w' none := by
  obtain ⟨a, cap, hv0, hcap, hmax, _⟩ := id hv
  obtain ⟨na, ncap, hn0, _⟩ := id hnv
  have hlen := hd.len
  have HV : Hid (RdF w.heap.size w v fs) := hv
  have HN : Hid (RdB w.heap.size w nv n) := hnv
  have HD : Hid (Fss fs) := hd
  subst hv0 hn0
  clear hv hd hnv
  go_enter Tryz.func64, Tryz.ntmps64
  go_wp2
  go_loopw [6] (fun i wr => ∃ (k : Nat) (ov : Value), k ≤ fs.length ∧ i = .int .i64 k ∧ Below (w.heap.size + 2) (((w.alloc (Obj.cells #[Value.slice a fs.length cap] 25)).alloc (Obj.cells #[Value.slice none 0 0] 25))) wr ∧ w.heap.size + 3 ≤ wr.heap.size ∧
      wr.cell? ⟨w.heap.size + 1 + 1, 0, none⟩ = some ov ∧ wr.frozen? ⟨w.heap.size + 1 + 1, 0, none⟩ = false ∧ RoF w.heap.size (w.heap.size + 3) wr ov (withoutF (fs.take k) n)) (fun i _ => fs.length - (intOf i).toNat)
  case atStart =>
    refine ⟨0, .slice none 0 0, Nat.zero_le _, rfl, ?_, by simp, by simp [go_sem], by simp [go_sem], by simpa [withoutF] using RoF.nil _ _ _⟩
    exact (Below.refl _ _).alloc (by simp) _
  case round =>
    obtain ⟨k, ov, hk, rfl, hbel, hsz, hoc, hof, hown⟩ := hrel
    have hbw : Below w.heap.size w wr := (((Below.refl w.heap.size w).alloc (Nat.le_refl _) _).alloc (by simp) _).trans (hbel.mono (by omega))
    have hgw := grown_of_below hbw
    have hfc : wr.cell? ⟨w.heap.size, 0, none⟩ = some (.slice a fs.length cap) := by rw [hbel.cell (by simp)]; simp [go_sem]
    have hrc : wr.cell? ⟨w.heap.size + 1, 0, none⟩ = some (.slice none 0 0) := by rw [hbel.cell (by simp)]; simp [go_sem]
    have hrf : wr.frozen? ⟨w.heap.size + 1, 0, none⟩ = false := by rw [hbel.frozen (by simp)]; simp [go_sem]
    by_cases hlt : k < fs.length
    · obtain ⟨b, off, cap', x, hva, hb2, hp⟩ := (HV.out.belowB hbw).at k hlt
      cases hva
      obtain ⟨fv, dv⟩ := x
      have z0 := hp.n; have z1 := hp.d; have z2 := hp.s
      have k1 := fun m => conv_str (hp.rn.keep (grown_drewN (World.grownBy.refl wr none) m))
      have k2 := fun m => conv_str (HN.out.keep (grown_drewN hgw m))
      have HE := eqStr (HD.out.byt _ (List.getElem_mem hlt)).1 hb
      have hwt := without_take fs n k hlt
      have hV : FlV w.heap.size wr fs[k] (fv, dv) := ⟨hp.rn, hp.sn, hp.rd, hp.sd⟩
      obtain ⟨fa, fcap, hfv, _, _⟩ := hp.sn
      obtain ⟨da, dcap, hdv, _, _⟩ := hp.sd
      simp only at hfv hdv z0 z1 z2
      by_cases heq : fs[k].n = n
      · rw [decide_eq_true heq] at HE
        rw [if_pos heq] at hwt
        have HW : Hid (withoutF (fs.take (k + 1)) n = withoutF (fs.take k) n) := hwt
        have HO : Hid (RoF w.heap.size (w.heap.size + 3) wr ov (withoutF (fs.take k) n)) := hown
        have HB : Hid (Below (w.heap.size + 2) (((w.alloc (Obj.cells #[Value.slice (some ⟨b, off, none⟩) fs.length cap] 25)).alloc (Obj.cells #[Value.slice none 0 0] 25))) wr) := hbel
        subst hfv hdv
        clear hp heq hV hwt hown hbel hbw hgw
        generalize fs[k] = p at *
        go_wp2
        go_quiet (fail)
        go_wp2
        go_roundw
        case rel => exact ⟨k + 1, ov, by omega, by go_num, HB.out.grown (grown_drewN (World.grownBy.refl _ none) _) (by omega) (fun _ e => by cases e), hsz, hoc, hof, by rw [HW.out]; exact HO.out.later (grown_drewN (World.grownBy.refl _ none) _)⟩
        case measure => simp [intOf]; omega
      · rw [decide_eq_false heq] at HE
        rw [if_neg heq] at hwt
        have hwl : (withoutF (fs.take k) n).length ≤ 1048576 := by have := without_len (fs.take k) n; simp at this; omega
        have HAll : ∀ m : Nat, ∃ (W3 : World) (v3 : Value) (w4 : World), W3 = (wr.drewN (m + 1)).alloc (Obj.cells #[fv, dv, .int .i64 fs[k].s] 45) ∧
            (Builtin.append_ #[23, 23] 23 #[ov, .slice (some ⟨wr.heap.size, 0, none⟩) 1 1]).run Tryz.prog W3 = .ok v3 w4 ∧ RoF w.heap.size (w.heap.size + 3) w4 v3 (withoutF (fs.take (k + 1)) n) ∧ Below (w.heap.size + 3) wr w4 ∧ (∃ a3 l3 c3, v3 = .slice a3 l3 c3) ∧ W3.grownBy w4 ov.ownBlock ∧ (∀ j, ov.ownBlock = some j → w.heap.size + 3 ≤ j) := by
          intro m
          have gd : wr.grownBy (wr.drewN (m + 1)) none := ⟨rfl, rfl, rfl, Nat.le_refl _, fun _ _ _ => rfl⟩
          have ga := grown_trans gd (World.grownBy_alloc (wr.drewN (m + 1)) (Obj.cells #[fv, dv, .int .i64 fs[k].s] 45) none)
          obtain ⟨v3, w4, hrun, ho4, g4, hlt4, a3, c3, hv3⟩ := (hown.later ga).push wr.heap.size fs[k] (fv, dv) (cellNew (wr.drewN (m + 1)) _ _ _ _).1 (cellNew (wr.drewN (m + 1)) _ _ _ _).2.1 (cellNew (wr.drewN (m + 1)) _ _ _ _).2.2 (hV.keep ga) (by omega) (by have := ga.size; omega) (by omega)
          refine ⟨_, v3, w4, rfl, hrun, by rw [hwt]; exact ho4, ((Below.refl _ wr).grown ga hsz (fun _ e => by cases e)).grown g4 (by have := ga.size; omega) hlt4, ⟨a3, _, c3, hv3⟩, g4, hlt4⟩
        obtain ⟨oa, ocap, hov, _⟩ := (hown.rd (by omega))
        have HO : Hid (∀ m : Nat, _) := HAll
        have HB : Hid (Below (w.heap.size + 2) (((w.alloc (Obj.cells #[Value.slice (some ⟨b, off, none⟩) fs.length cap] 25)).alloc (Obj.cells #[Value.slice none 0 0] 25))) wr) := hbel
        subst hfv hdv
        clear hp heq hV hwt hown hbel hbw hgw HAll
        generalize fs[k] = p at *
        generalize (withoutF (fs.take k) n).length = wl at *
        subst hov
        go_wp2
        go_quiet (fail)
        go_wp2
        obtain ⟨W3, v3, w4, hW3, run3, hro, hb4, ⟨a3, l3, c3, hv3⟩, g4, hlt4⟩ := HO.out nq
        subst hv3
        obtain ⟨I, hI⟩ : ∃ I : World → Prop, I = (fun W : World => W.cell? ⟨w.heap.size + 1 + 1, 0, none⟩ = some (.slice oa wl ocap) ∧ W.cell? ⟨w.heap.size, 0, none⟩ = some (.slice (some ⟨b, off, none⟩) fs.length cap) ∧ W.cell? ⟨b, off + k * 3, none⟩ = some (.slice fa p.n.length fcap) ∧ W.cell? ⟨b, off + k * 3 + 1, none⟩ = some (.slice da p.d.length dcap) ∧ W.cell? ⟨b, off + k * 3 + 2, none⟩ = some (.int .i64 p.s)) := ⟨_, rfl⟩
        have HI0 : I (wr.drewN (nq + 1)) := by rw [hI]; exact ⟨hoc, hfc, z0, z1, z2⟩
        have HI3 : I W3 := by
          have g := World.grownBy_alloc (wr.drewN (nq + 1)) (Obj.cells #[.slice fa p.n.length fcap, .slice da p.d.length dcap, .int .i64 p.s] 45) none
          rw [hI] at HI0 ⊢; rw [hW3]; exact ⟨g.cell HI0.1 (by simp), g.cell HI0.2.1 (by simp), g.cell HI0.2.2.1 (by simp), g.cell HI0.2.2.2.1 (by simp), g.cell HI0.2.2.2.2 (by simp)⟩
        have HI4 : I w4 := by
          rw [hI] at HI3 ⊢
          have hn : ∀ i, i < w.heap.size + 3 → some i ≠ (Value.slice oa wl ocap).ownBlock := fun i hi e => by have := hlt4 i e.symm; omega
          exact ⟨g4.cell HI3.1 (hn _ (by simp)), g4.cell HI3.2.1 (hn _ (by simp <;> omega)), g4.cell HI3.2.2.1 (hn _ (by simp <;> omega)), g4.cell HI3.2.2.2.1 (hn _ (by simp <;> omega)), g4.cell HI3.2.2.2.2 (hn _ (by simp <;> omega))⟩
        have oc4 : w4.cell? ⟨w.heap.size + 1 + 1, 0, none⟩ = some (.slice oa wl ocap) := by rw [hI] at HI4; exact HI4.1
        have of4 : w4.frozen? ⟨w.heap.size + 1 + 1, 0, none⟩ = false := by rw [hb4.frozen (by simp)]; exact hof
        have HEND : Hid (Below (w.heap.size + 2) (((w.alloc (Obj.cells #[Value.slice (some ⟨b, off, none⟩) fs.length cap] 25)).alloc (Obj.cells #[Value.slice none 0 0] 25))) (w4.setCell ⟨w.heap.size + 1 + 1, 0, none⟩ (.slice a3 l3 c3)) ∧ w.heap.size + 3 ≤ (w4.setCell ⟨w.heap.size + 1 + 1, 0, none⟩ (.slice a3 l3 c3)).heap.size ∧ RoF w.heap.size (w.heap.size + 3) (w4.setCell ⟨w.heap.size + 1 + 1, 0, none⟩ (.slice a3 l3 c3)) (.slice a3 l3 c3) (withoutF (fs.take (k + 1)) n)) := by
          refine ⟨(HB.out.trans (hb4.mono (by omega))).setCell (by simp) _, ?_, hro.setMid _ _ (by simp; omega) (by simp)⟩
          have := hb4.size; simp; omega
        rw [hW3] at run3 HI3
        clear g4 hlt4 hro hb4 HO HB hW3
        refine region_anyI I (fun i => i == 10) (by kernel_rfl) ?_
        show anyI _ _ _ _ _ _ 11 (Array.replicate 11 false) _ _
        refine anyI_take (i := 0) (.pointer (some ⟨w.heap.size + 1 + 1, 0, none⟩)) rfl (by kernel_rfl) (by kernel_rfl) (by kernel_rfl) (by kernel_rfl) (fun _ _ _ h => h) HI0 (yldI rfl (fun W hW => by go_simp)) ?_
        refine anyI_take (i := 1) (.slice oa wl ocap) rfl (by kernel_rfl) (by kernel_rfl) (by kernel_rfl) (by kernel_rfl) (fun _ _ _ h => h) HI0 (yldI rfl (fun W hW => by rw [hI] at hW; obtain ⟨h1, h2, h3, h4, h5⟩ := hW; go_simp)) ?_
        refine anyI_take (i := 2) (.pointer (some ⟨w.heap.size, 0, none⟩)) rfl (by kernel_rfl) (by kernel_rfl) (by kernel_rfl) (by kernel_rfl) (fun _ _ _ h => h) HI0 (yldI rfl (fun W hW => by go_simp)) ?_
        refine anyI_take (i := 3) (.slice (some ⟨b, off, none⟩) fs.length cap) rfl (by kernel_rfl) (by kernel_rfl) (by kernel_rfl) (by kernel_rfl) (fun _ _ _ h => h) HI0 (yldI rfl (fun W hW => by rw [hI] at hW; obtain ⟨h1, h2, h3, h4, h5⟩ := hW; go_simp)) ?_
        refine anyI_take (i := 4) (.int .i64 k) rfl (by kernel_rfl) (by kernel_rfl) (by kernel_rfl) (by kernel_rfl) (fun _ _ _ h => h) HI0 (yldI rfl (fun W hW => by go_simp)) ?_
        refine anyI_take (i := 5) (.pointer (some ⟨b, off + k * 3, none⟩)) rfl (by kernel_rfl) (by kernel_rfl) (by kernel_rfl) (by kernel_rfl) (fun _ _ _ h => h) HI0 (yldI rfl (fun W hW => by go_simp)) ?_
        refine anyI_take (i := 6) (.agg #[.slice fa p.n.length fcap, .slice da p.d.length dcap, .int .i64 p.s]) rfl (by kernel_rfl) (by kernel_rfl) (by kernel_rfl) (by kernel_rfl) (fun _ _ _ h => h) HI0 (yldI rfl (fun W hW => by rw [hI] at hW; obtain ⟨h1, h2, h3, h4, h5⟩ := hW; go_simp)) ?_
        refine anyI_one (i := 7) (by kernel_rfl) (wpOp_val (v := .slice (some ⟨wr.heap.size, 0, none⟩) 1 1) rfl rfl (by go_simp) ⟨.inr HI3, ?_⟩)
        refine anyI_one (i := 8) (by kernel_rfl) (wpOp_val (v := .slice a3 l3 c3) rfl rfl (by go_simp) ⟨.inr HI4, ?_⟩)
        refine anyI_one (i := 9) (by kernel_rfl) (wpOp_val (v := .pointer (some ⟨w.heap.size + 1 + 1, 0, none⟩)) rfl rfl (by go_simp) ⟨.inr HI4, ?_⟩)
        refine anyI_one (i := 10) (by kernel_rfl) (wpOp_skip (w' := w4.setCell ⟨w.heap.size + 1 + 1, 0, none⟩ (.slice a3 l3 c3)) rfl rfl (by go_simp) ⟨.inl rfl, ?_⟩)
        refine anyI_done (by kernel_rfl) ?_ _
        go_wp2
        go_roundw
        case rel => exact ⟨k + 1, _, by omega, by go_num, HEND.out.1, HEND.out.2.1, by simp [go_sem, oc4], by simp [go_sem, of4], HEND.out.2.2⟩
        case measure => simp [intOf]; omega
    · have hkn : k = fs.length := by omega
      subst hkn
      rw [List.take_length] at hown
      have HCp : Hid (Calls Tryz.prog 43 #[.agg #[ov]] wr fun e w' => ∃ v', e = .returned (.agg #[v']) ∧ OwF wr.heap.size w' v' (withoutF fs n) ∧ wr.grownBy w' none) := l7copy_any ov (withoutF fs n) wr (hown.rd (by omega)) (HD.out.without n).len (HD.out.without n).tlen
      obtain ⟨oa, ocap, hov, _⟩ := (hown.rd (by omega))
      subst hov
      go_wp2_with fail
      refine HCp.out.mono ?_
      rintro e w5 ⟨v5, rfl, o5, g5⟩
      have rc5 := g5.cell hrc (by simp)
      have rf5 := (grown_bothF g5 hrc hrf).2
      obtain ⟨a5, c5, hv5, _⟩ := o5.rd
      have HO5 : Hid (OwF wr.heap.size w5 v5 (withoutF fs n)) := o5
      have HB5 : Hid (Below w.heap.size w w5) := hbw.grown g5 (by omega) (fun _ e => by cases e)
      subst hv5
      clear o5 g5 hown hbel hbw hgw
      go_wp2
      refine bodyPost_ret (v := .agg #[.slice a5 (withoutF fs n).length c5]) (by simp [results, Tryz.results64, go_sem, rc5]) rfl ?_
      refine ⟨_, rfl, ?_, ?_⟩
      · exact (HO5.out.setLow _ _ (by simp; omega)).base (by omega)
      · exact grown_of_below (HB5.out.setCell (by simp) _)

end Go.Proofs.YtakkdniikhgpdaaGreatDoor

