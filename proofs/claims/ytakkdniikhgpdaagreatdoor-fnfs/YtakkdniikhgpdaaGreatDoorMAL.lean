import Derived.Test.YtakkdniikhgpdaaGreatDoorMAK
namespace Go.Proofs.YtakkdniikhgpdaaGreatDoor
open Go.RowKit
attribute [-go_sem] Builtin.append_

/-- What the loop has laid: k of the others, f among them or not. -/
def WInv (f : Fl) (rest : List Fl) (k : Nat) (d : Bool) (L : List Fl) : Prop :=
  if d then L ++ rest.drop k = insF f rest else L = rest.take k ∧ ∀ j (_ : j < k) (hl : j < rest.length), (ltB rest[j].n f.n || decide (rest[j].n = f.n)) = true
theorem WInv.start (f : Fl) (rest : List Fl) : WInv f rest 0 false [] := ⟨by simp, fun j h => by omega⟩
theorem WInv.pass {f : Fl} {rest L : List Fl} {k : Nat} (h : WInv f rest k false L) (hk : k < rest.length) (hp : (ltB rest[k].n f.n || decide (rest[k].n = f.n)) = true) : WInv f rest (k + 1) false (L ++ [rest[k]]) := by
  obtain ⟨h1, h2⟩ := h
  refine ⟨by rw [h1, List.take_add_one, List.getElem?_eq_getElem hk]; rfl, fun j hj hl => ?_⟩
  by_cases hjk : j = k
  · subst hjk; exact hp
  · exact h2 j (by omega) hl
theorem WInv.more {f : Fl} {rest L : List Fl} {k : Nat} (h : WInv f rest k true L) (hk : k < rest.length) : WInv f rest (k + 1) true (L ++ [rest[k]]) := by
  have h1 : L ++ rest.drop k = insF f rest := h
  show (L ++ [rest[k]]) ++ rest.drop (k + 1) = insF f rest
  rw [← h1, List.append_assoc, List.drop_eq_getElem_cons hk]; rfl
theorem WInv.put {f : Fl} {rest L : List Fl} {k : Nat} (h : WInv f rest k false L) (hk : k < rest.length) (hp : (ltB rest[k].n f.n || decide (rest[k].n = f.n)) = false) : WInv f rest (k + 1) true ((L ++ [f]) ++ [rest[k]]) := by
  obtain ⟨h1, h2⟩ := h
  show ((L ++ [f]) ++ [rest[k]]) ++ rest.drop (k + 1) = insF f rest
  rw [ins_pass f rest k (by omega) h2, h1, List.drop_eq_getElem_cons hk, insF, if_neg (by rw [hp]; simp)]
  simp
theorem WInv.end_true {f : Fl} {rest L : List Fl} {k : Nat} (h : WInv f rest k true L) (hk : k = rest.length) : L = insF f rest := by
  have h1 : L ++ rest.drop k = insF f rest := h
  rw [hk] at h1; simpa using h1
theorem WInv.end_false {f : Fl} {rest L : List Fl} {k : Nat} (h : WInv f rest k false L) (hk : k = rest.length) : L ++ [f] = insF f rest := by
  obtain ⟨h1, h2⟩ := h
  rw [ins_pass f rest k (by omega) h2, h1, hk]; simp [insF]
theorem WInv.len {f : Fl} {rest L : List Fl} {k : Nat} {d : Bool} (h : WInv f rest k d L) (hk : k ≤ rest.length) : L.length ≤ rest.length + 1 := by
  cases d with
  | true =>
    have h1 : L ++ rest.drop k = insF f rest := h
    have := congrArg List.length h1
    rw [insF_length] at this; simp at this; omega
  | false => obtain ⟨h1, _⟩ := h; rw [h1]; simp; omega

theorem insF_all {p : Fl → Prop} {f : Fl} {rest : List Fl} (hf : p f) (h : ∀ q ∈ rest, p q) : ∀ q ∈ insF f rest, p q := fun q hq => (insF_mem f rest q hq).elim (fun e => e ▸ hf) (h q)

theorem FlV.belowB {B : Nat} {w w' : World} {p : Fl} {x : Value × Value} (h : FlV B w p x) (hb : Below B w w') : FlV B w' p x := by
  have hrd : ∀ (v : Value) (zs : List Int), RdB B w v zs → RdB B w' v zs := fun v zs hv => by
    obtain ⟨a, cap, e, hr⟩ := hv
    refine ⟨a, cap, e, fun h0 => ?_⟩
    obtain ⟨b, off, ha, hb2, hc⟩ := hr h0
    exact ⟨b, off, ha, hb2, fun j hj => (hb.cell hb2).trans (hc j hj)⟩
  exact ⟨hrd _ _ h.rn, h.sn, hrd _ _ h.rd, h.sd⟩

/-- One more file, and the cell that holds the row. -/
theorem pushF {T B oB : Nat} {W : World} {ov : Value} {L : List Fl} (p : Fl) (x1 x2 : Value) (h : RoF T B W ov L) (hV : FlV T W p (x1, x2)) (hT : T ≤ oB) (hO : oB < B) (hB : B ≤ W.heap.size) (hn : L.length ≤ 100000000) :
    ∃ a3 l3 c3 w4, (Builtin.append_ #[23, 23] 23 #[ov, .slice (some ⟨W.heap.size, 0, none⟩) 1 1]).run Tryz.prog (W.alloc (Obj.cells #[x1, x2, .int .i64 p.s] 45)) = .ok (.slice a3 l3 c3) w4 ∧ Below B W w4 ∧ RoF T B (w4.setCell ⟨oB, 0, none⟩ (.slice a3 l3 c3)) (.slice a3 l3 c3) (L ++ [p]) := by
  have ga := World.grownBy_alloc W (Obj.cells #[x1, x2, .int .i64 p.s] 45) none
  obtain ⟨v3, w4, hrun, ho4, g4, hlt4, a3, c3, hv3⟩ := (h.later ga).push W.heap.size p (x1, x2) (cellNew W _ _ _ _).1 (cellNew W _ _ _ _).2.1 (cellNew W _ _ _ _).2.2 (hV.keep ga) (by omega) (by have := ga.size; omega) hn
  subst hv3
  exact ⟨a3, _, c3, w4, hrun, ((Below.refl _ W).grown ga hB (fun _ e => by cases e)).grown g4 (by have := ga.size; omega) hlt4, ho4.setMid _ _ hT hO⟩

set_option maxHeartbeats 16000000 in
set_option maxRecDepth 100000 in
theorem l7with_any (v : Value) (x : Value × Value) (fs : List Fl) (f : Fl) (w : World) (hv : RdF w.heap.size w v fs) (hx : FlV w.heap.size w f x) (hd : Fss fs) (hf : f.n.length ≤ 1048576 ∧ f.d.length ≤ 1048576) (hb : Byt f.n ∧ Byt f.d) (hl : fs.length ≤ 1048575) :
    Calls Tryz.prog 56 #[.agg #[v], .agg #[x.1, x.2, .int .i64 f.s]] w fun e w' => ∃ v', e = .returned (.agg #[v']) ∧ OwF w.heap.size w' v' (withF fs f) ∧ w.grownBy w' none := by
  obtain ⟨x1, x2⟩ := x
  obtain ⟨a, cap, hv0, hcap, hmax, _⟩ := id hv
  obtain ⟨na, ncap, hn0, _, _⟩ := hx.sn
  obtain ⟨da, dcap, hd0, _, _⟩ := hx.sd
  simp only at hn0 hd0
  have HW : Hid (∀ w', w.grownBy w' none → Calls Tryz.prog 64 #[.agg #[v], x1] w' fun e w'' => ∃ v', e = .returned (.agg #[v']) ∧ OwF w'.heap.size w'' v' (withoutF fs f.n) ∧ w'.grownBy w'' none) := fun w' g => l7without_any v x1 fs f.n w' (hv.now g) ((hx.rn.keep g).now) hd hb.1
  have hR := hd.without f.n
  have hrl := without_len fs f.n
  have HWD : Hid (withF fs f = insF f (withoutF fs f.n)) := rfl
  subst hv0 hn0 hd0
  have HX : Hid (FlV w.heap.size w f (.slice na f.n.length ncap, .slice da f.d.length dcap)) := hx
  clear hv hx
  generalize withoutF fs f.n = rest at *
  have HR : Hid (Fss rest) := hR
  clear hR
  go_enter Tryz.func56, Tryz.ntmps56
  go_wp2_with fail
  refine (HW.out _ ?_).mono ?_
  · exact grown_trans (grown_trans (World.grownBy_alloc _ _ _) (World.grownBy_alloc _ _ _)) (World.grownBy_alloc _ _ _)
  rintro e w1 ⟨rv, rfl, o1, g1⟩
  obtain ⟨ra, rcap, hrv, _⟩ := o1.rd
  have hgw1 : w.grownBy w1 none := grown_trans (grown_trans (grown_trans (World.grownBy_alloc _ _ _) (World.grownBy_alloc _ _ _)) (World.grownBy_alloc _ _ _)) g1
  have hs1 : w.heap.size + 3 ≤ w1.heap.size := by have := g1.size; simp at this; omega
  have p0 : w1.cell? ⟨w.heap.size + 1, 0, none⟩ = some (.slice na f.n.length ncap) := g1.cell (by simp [go_sem]) (by simp)
  have p1 : w1.cell? ⟨w.heap.size + 1, 1, none⟩ = some (.slice da f.d.length dcap) := g1.cell (by simp [go_sem]) (by simp)
  have p2 : w1.cell? ⟨w.heap.size + 1, 2, none⟩ = some (.int .i64 f.s) := g1.cell (by simp [go_sem]) (by simp)
  obtain ⟨p3, p4⟩ := grown_bothF (a := ⟨w.heap.size + 1 + 1, 0, none⟩) (v := .slice none 0 0) g1 (by simp [go_sem]) (by simp [go_sem])
  have HRd : Hid (RdF w1.heap.size w1 rv rest) := o1.rd
  have HXV : Hid (FlV w1.heap.size w1 f (.slice na f.n.length ncap, .slice da f.d.length dcap)) := (HX.out.keep hgw1).wide hgw1.size
  have HG1 : Hid (w.grownBy w1 none) := hgw1
  subst hrv
  clear o1 g1 HW HX hgw1
  go_wp2
  go_loopw [7, 8] (fun dn i wr => ∃ (d : Bool) (k : Nat) (ov : Value) (L : List Fl), dn = .bool d ∧ k ≤ rest.length ∧ i = .int .i64 k ∧ Hid (WInv f rest k d L) ∧ Below (w1.heap.size + 1) (w1.alloc (Obj.cells #[Value.slice ra rest.length rcap] 25)) wr ∧ w1.heap.size + 2 ≤ wr.heap.size ∧
      wr.cell? ⟨w1.heap.size + 1, 0, none⟩ = some ov ∧ wr.frozen? ⟨w1.heap.size + 1, 0, none⟩ = false ∧ RoF w1.heap.size (w1.heap.size + 2) wr ov L) (fun _ i _ => rest.length - (intOf i).toNat)
  case atStart =>
    refine ⟨false, 0, .slice none 0 0, [], rfl, Nat.zero_le _, rfl, WInv.start f rest, ?_, by simp, by simp [go_sem], by simp [go_sem], RoF.nil _ _ _⟩
    exact (Below.refl _ _).alloc (by simp) _
  case round =>
    obtain ⟨d, k, ov, L, rfl, hk, rfl, HIv, hbel, hsz, hoc, hof, hown⟩ := hrel
    have hbw1 : Below w1.heap.size w1 wr := ((Below.refl w1.heap.size w1).alloc (Nat.le_refl _) _).trans (hbel.mono (by omega))
    have hfc : wr.cell? ⟨w1.heap.size, 0, none⟩ = some (.slice ra rest.length rcap) := by rw [hbel.cell (by simp)]; simp [go_sem]
    have q0 := (hbw1.cell (p := ⟨w.heap.size + 1, 0, none⟩) (by simp; omega)).trans p0
    have q1 := (hbw1.cell (p := ⟨w.heap.size + 1, 1, none⟩) (by simp; omega)).trans p1
    have q2 := (hbw1.cell (p := ⟨w.heap.size + 1, 2, none⟩) (by simp; omega)).trans p2
    have q3 := (hbw1.cell (p := ⟨w.heap.size + 1 + 1, 0, none⟩) (by simp; omega)).trans p3
    have q4 := (hbw1.frozen (p := ⟨w.heap.size + 1 + 1, 0, none⟩) (by simp; omega)).trans p4
    have hfV : FlV w1.heap.size wr f (.slice na f.n.length ncap, .slice da f.d.length dcap) := HXV.out.belowB hbw1
    have hLl := HIv.out.len hk
    obtain ⟨oa, ocap, hov, _⟩ := hown.rd (by omega)
    have hrll := HR.out.len
    by_cases hlt : k < rest.length
    · obtain ⟨b, off, cap', y, hva, hb2, hp⟩ := (HRd.out.belowB hbw1).at k hlt
      cases hva
      obtain ⟨ev, gv⟩ := y
      have z0 := hp.n; have z1 := hp.d; have z2 := hp.s
      have k1 := fun m => conv_str (hp.rn.keep (grown_drewN (World.grownBy.refl wr none) m))
      have k2 := fun m => conv_str (hfV.rn.keep (grown_drewN (World.grownBy.refl wr none) m))
      have hbr := (HR.out.byt _ (List.getElem_mem hlt)).1
      have HE := eqStr hbr hb.1
      have HL := lessStr hbr hb.1
      have heV : FlV w1.heap.size wr rest[k] (ev, gv) := ⟨hp.rn, hp.sn, hp.rd, hp.sd⟩
      obtain ⟨ea, ecap, hev, _, _⟩ := hp.sn
      obtain ⟨ga, gcap, hgv, _, _⟩ := hp.sd
      simp only at hev hgv z0 z1 z2
      subst hev hgv hov
      by_cases hgo : (d = true ∨ (ltB rest[k].n f.n || decide (rest[k].n = f.n)) = true)
      · -- the file at k alone
        have hnext : WInv f rest (k + 1) d (L ++ [rest[k]]) := by
          cases d with
          | true => exact HIv.out.more hlt
          | false => exact HIv.out.pass hlt (hgo.resolve_left (by simp))
        have HAll : Hid (∀ m : Nat, ∃ a3 l3 c3 w4, (Builtin.append_ #[23, 23] 23 #[.slice oa L.length ocap, .slice (some ⟨wr.heap.size, 0, none⟩) 1 1]).run Tryz.prog ((wr.drewN m).alloc (Obj.cells #[.slice ea rest[k].n.length ecap, .slice ga rest[k].d.length gcap, .int .i64 rest[k].s] 45)) = .ok (.slice a3 l3 c3) w4 ∧ Below (w1.heap.size + 2) (wr.drewN m) w4 ∧ RoF w1.heap.size (w1.heap.size + 2) (w4.setCell ⟨w1.heap.size + 1, 0, none⟩ (.slice a3 l3 c3)) (.slice a3 l3 c3) (L ++ [rest[k]])) := fun m =>
          pushF rest[k] _ _ (hown.later (grown_drewN (World.grownBy.refl wr none) m)) (heV.keep (grown_drewN (World.grownBy.refl wr none) m)) (by omega) (by omega) hsz (by omega)
        have HN : Hid (WInv f rest (k + 1) d (L ++ [rest[k]])) := hnext
        have HB : Hid (Below (w1.heap.size + 1) (w1.alloc (Obj.cells #[Value.slice (some ⟨b, off, none⟩) rest.length rcap] 25)) wr) := hbel
        have hcnd : (ltB rest[k].n f.n || decide (rest[k].n = f.n)) = true ∨ d = true := hgo.symm
        clear hp heV hfV hown hbel hbw1 hnext hgo hbr HIv
        have HWk : Hid (L ++ [rest[k]] = L ++ [rest[k]]) := rfl
        generalize rest[k] = p at *
        generalize hLL : L.length = ll at *
        cases d with
        | true =>
          have hnt : (!true) = false := rfl
          clear hcnd
          go_wp2
          go_quiet (fail)
          go_wp2
          obtain ⟨a3, l3, c3, w4, run3, hb4, hro⟩ := HAll.out (nq + 1)
          have hBW : w1.heap.size + 2 ≤ (wr.drewN (nq + 1)).heap.size := hsz
          have of4 : w4.frozen? ⟨w1.heap.size + 1, 0, none⟩ = false := by rw [hb4.frozen (by simp)]; exact hof
          have HEND : Hid (Below (w1.heap.size + 1) (w1.alloc (Obj.cells #[Value.slice (some ⟨b, off, none⟩) rest.length rcap] 25)) (w4.setCell ⟨w1.heap.size + 1, 0, none⟩ (.slice a3 l3 c3)) ∧ w1.heap.size + 2 ≤ (w4.setCell ⟨w1.heap.size + 1, 0, none⟩ (.slice a3 l3 c3)).heap.size) := by
            refine ⟨(((HB.out.grown (grown_drewN (World.grownBy.refl _ none) (nq + 1)) (by omega) (fun _ e => by cases e)).trans (hb4.mono (by omega))).setCell (by simp) _), ?_⟩
            have := hb4.size; simp at this ⊢; omega
          have HRO := hide hro
          clear hro HAll HB
          obtain ⟨I, hI⟩ : ∃ I : World → Prop, I = (fun W : World => W.cell? ⟨w1.heap.size + 1, 0, none⟩ = some (.slice oa ll ocap) ∧ W.cell? ⟨w1.heap.size, 0, none⟩ = some (.slice (some ⟨b, off, none⟩) rest.length rcap) ∧ W.cell? ⟨b, off + k * 3, none⟩ = some (.slice ea p.n.length ecap) ∧ W.cell? ⟨b, off + k * 3 + 1, none⟩ = some (.slice ga p.d.length gcap) ∧ W.cell? ⟨b, off + k * 3 + 2, none⟩ = some (.int .i64 p.s)) := ⟨_, rfl⟩
          have HI0 : I (wr.drewN (nq + 1)) := by rw [hI]; exact ⟨hoc, hfc, z0, z1, z2⟩
          have hIb : ∀ W', Below (w1.heap.size + 2) (wr.drewN (nq + 1)) W' → I W' := fun W' h => by rw [hI] at HI0 ⊢; exact ⟨(h.cell (by simp)).trans HI0.1, (h.cell (by simp)).trans HI0.2.1, (h.cell (by simp; omega)).trans HI0.2.2.1, (h.cell (by simp; omega)).trans HI0.2.2.2.1, (h.cell (by simp; omega)).trans HI0.2.2.2.2⟩
          have HI3 := hIb _ ((Below.refl _ (wr.drewN (nq + 1))).alloc hBW (Obj.cells #[.slice ea p.n.length ecap, .slice ga p.d.length gcap, .int .i64 p.s] 45))
          have HI4 := hIb _ hb4
          have oc4 : w4.cell? ⟨w1.heap.size + 1, 0, none⟩ = some (.slice oa ll ocap) := by rw [hI] at HI4; exact HI4.1
          clear hIb
          refine region_anyI I (fun i => i == 10) (by kernel_rfl) ?_
          show anyI _ _ _ _ _ _ 11 (Array.replicate 11 false) _ _
          refine anyI_take (i := 0) (.pointer (some ⟨w1.heap.size + 1, 0, none⟩)) rfl (by kernel_rfl) (by kernel_rfl) (by kernel_rfl) (by kernel_rfl) (fun _ _ _ h => h) HI0 (yldI rfl (fun W hW => by go_simp)) ?_
          refine anyI_take (i := 1) (.slice oa ll ocap) rfl (by kernel_rfl) (by kernel_rfl) (by kernel_rfl) (by kernel_rfl) (fun _ _ _ h => h) HI0 (yldI rfl (fun W hW => by rw [hI] at hW; obtain ⟨h1, h2, h3, h4, h5⟩ := hW; go_simp)) ?_
          refine anyI_take (i := 2) (.pointer (some ⟨w1.heap.size, 0, none⟩)) rfl (by kernel_rfl) (by kernel_rfl) (by kernel_rfl) (by kernel_rfl) (fun _ _ _ h => h) HI0 (yldI rfl (fun W hW => by go_simp)) ?_
          refine anyI_take (i := 3) (.slice (some ⟨b, off, none⟩) rest.length rcap) rfl (by kernel_rfl) (by kernel_rfl) (by kernel_rfl) (by kernel_rfl) (fun _ _ _ h => h) HI0 (yldI rfl (fun W hW => by rw [hI] at hW; obtain ⟨h1, h2, h3, h4, h5⟩ := hW; go_simp)) ?_
          refine anyI_take (i := 4) (.int .i64 k) rfl (by kernel_rfl) (by kernel_rfl) (by kernel_rfl) (by kernel_rfl) (fun _ _ _ h => h) HI0 (yldI rfl (fun W hW => by go_simp)) ?_
          refine anyI_take (i := 5) (.pointer (some ⟨b, off + k * 3, none⟩)) rfl (by kernel_rfl) (by kernel_rfl) (by kernel_rfl) (by kernel_rfl) (fun _ _ _ h => h) HI0 (yldI rfl (fun W hW => by go_simp)) ?_
          refine anyI_take (i := 6) (.agg #[.slice ea p.n.length ecap, .slice ga p.d.length gcap, .int .i64 p.s]) rfl (by kernel_rfl) (by kernel_rfl) (by kernel_rfl) (by kernel_rfl) (fun _ _ _ h => h) HI0 (yldI rfl (fun W hW => by rw [hI] at hW; obtain ⟨h1, h2, h3, h4, h5⟩ := hW; go_simp)) ?_
          refine anyI_one (i := 7) (by kernel_rfl) (wpOp_val (v := .slice (some ⟨wr.heap.size, 0, none⟩) 1 1) rfl rfl (by go_simp) ⟨.inr HI3, ?_⟩)
          refine anyI_one (i := 8) (by kernel_rfl) (wpOp_val (v := .slice a3 l3 c3) rfl rfl (by go_simp) ⟨.inr HI4, ?_⟩)
          refine anyI_one (i := 9) (by kernel_rfl) (wpOp_val (v := .pointer (some ⟨w1.heap.size + 1, 0, none⟩)) rfl rfl (by go_simp) ⟨.inr HI4, ?_⟩)
          refine anyI_one (i := 10) (by kernel_rfl) (wpOp_skip (w' := w4.setCell ⟨w1.heap.size + 1, 0, none⟩ (.slice a3 l3 c3)) rfl rfl (by go_simp) ⟨.inl rfl, ?_⟩)
          refine anyI_done (by kernel_rfl) ?_ _
          go_wp2
          go_roundw
          case rel => exact ⟨_, k + 1, _, _, rfl, by omega, by go_num, HN, HEND.out.1, HEND.out.2, by simp [go_sem, oc4], by simp [go_sem, of4], HRO.out⟩
          case measure => simp [intOf]; omega
        | false =>
          have hc2 := hcnd.resolve_right (by simp)
          by_cases hlb : ltB p.n f.n = true
          · rw [hlb] at HL
            clear hcnd hc2 hlb
            go_wp2
            go_quiet (fail)
            go_wp2
            obtain ⟨a3, l3, c3, w4, run3, hb4, hro⟩ := HAll.out (nq + 1)
            have hBW : w1.heap.size + 2 ≤ (wr.drewN (nq + 1)).heap.size := hsz
            have of4 : w4.frozen? ⟨w1.heap.size + 1, 0, none⟩ = false := by rw [hb4.frozen (by simp)]; exact hof
            have HEND : Hid (Below (w1.heap.size + 1) (w1.alloc (Obj.cells #[Value.slice (some ⟨b, off, none⟩) rest.length rcap] 25)) (w4.setCell ⟨w1.heap.size + 1, 0, none⟩ (.slice a3 l3 c3)) ∧ w1.heap.size + 2 ≤ (w4.setCell ⟨w1.heap.size + 1, 0, none⟩ (.slice a3 l3 c3)).heap.size) := by
              refine ⟨(((HB.out.grown (grown_drewN (World.grownBy.refl _ none) (nq + 1)) (by omega) (fun _ e => by cases e)).trans (hb4.mono (by omega))).setCell (by simp) _), ?_⟩
              have := hb4.size; simp at this ⊢; omega
            have HRO := hide hro
            clear hro HAll HB
            obtain ⟨I, hI⟩ : ∃ I : World → Prop, I = (fun W : World => W.cell? ⟨w1.heap.size + 1, 0, none⟩ = some (.slice oa ll ocap) ∧ W.cell? ⟨w1.heap.size, 0, none⟩ = some (.slice (some ⟨b, off, none⟩) rest.length rcap) ∧ W.cell? ⟨b, off + k * 3, none⟩ = some (.slice ea p.n.length ecap) ∧ W.cell? ⟨b, off + k * 3 + 1, none⟩ = some (.slice ga p.d.length gcap) ∧ W.cell? ⟨b, off + k * 3 + 2, none⟩ = some (.int .i64 p.s)) := ⟨_, rfl⟩
            have HI0 : I (wr.drewN (nq + 1)) := by rw [hI]; exact ⟨hoc, hfc, z0, z1, z2⟩
            have hIb : ∀ W', Below (w1.heap.size + 2) (wr.drewN (nq + 1)) W' → I W' := fun W' h => by rw [hI] at HI0 ⊢; exact ⟨(h.cell (by simp)).trans HI0.1, (h.cell (by simp)).trans HI0.2.1, (h.cell (by simp; omega)).trans HI0.2.2.1, (h.cell (by simp; omega)).trans HI0.2.2.2.1, (h.cell (by simp; omega)).trans HI0.2.2.2.2⟩
            have HI3 := hIb _ ((Below.refl _ (wr.drewN (nq + 1))).alloc hBW (Obj.cells #[.slice ea p.n.length ecap, .slice ga p.d.length gcap, .int .i64 p.s] 45))
            have HI4 := hIb _ hb4
            have oc4 : w4.cell? ⟨w1.heap.size + 1, 0, none⟩ = some (.slice oa ll ocap) := by rw [hI] at HI4; exact HI4.1
            clear hIb
            refine region_anyI I (fun i => i == 10) (by kernel_rfl) ?_
            show anyI _ _ _ _ _ _ 11 (Array.replicate 11 false) _ _
            refine anyI_take (i := 0) (.pointer (some ⟨w1.heap.size + 1, 0, none⟩)) rfl (by kernel_rfl) (by kernel_rfl) (by kernel_rfl) (by kernel_rfl) (fun _ _ _ h => h) HI0 (yldI rfl (fun W hW => by go_simp)) ?_
            refine anyI_take (i := 1) (.slice oa ll ocap) rfl (by kernel_rfl) (by kernel_rfl) (by kernel_rfl) (by kernel_rfl) (fun _ _ _ h => h) HI0 (yldI rfl (fun W hW => by rw [hI] at hW; obtain ⟨h1, h2, h3, h4, h5⟩ := hW; go_simp)) ?_
            refine anyI_take (i := 2) (.pointer (some ⟨w1.heap.size, 0, none⟩)) rfl (by kernel_rfl) (by kernel_rfl) (by kernel_rfl) (by kernel_rfl) (fun _ _ _ h => h) HI0 (yldI rfl (fun W hW => by go_simp)) ?_
            refine anyI_take (i := 3) (.slice (some ⟨b, off, none⟩) rest.length rcap) rfl (by kernel_rfl) (by kernel_rfl) (by kernel_rfl) (by kernel_rfl) (fun _ _ _ h => h) HI0 (yldI rfl (fun W hW => by rw [hI] at hW; obtain ⟨h1, h2, h3, h4, h5⟩ := hW; go_simp)) ?_
            refine anyI_take (i := 4) (.int .i64 k) rfl (by kernel_rfl) (by kernel_rfl) (by kernel_rfl) (by kernel_rfl) (fun _ _ _ h => h) HI0 (yldI rfl (fun W hW => by go_simp)) ?_
            refine anyI_take (i := 5) (.pointer (some ⟨b, off + k * 3, none⟩)) rfl (by kernel_rfl) (by kernel_rfl) (by kernel_rfl) (by kernel_rfl) (fun _ _ _ h => h) HI0 (yldI rfl (fun W hW => by go_simp)) ?_
            refine anyI_take (i := 6) (.agg #[.slice ea p.n.length ecap, .slice ga p.d.length gcap, .int .i64 p.s]) rfl (by kernel_rfl) (by kernel_rfl) (by kernel_rfl) (by kernel_rfl) (fun _ _ _ h => h) HI0 (yldI rfl (fun W hW => by rw [hI] at hW; obtain ⟨h1, h2, h3, h4, h5⟩ := hW; go_simp)) ?_
            refine anyI_one (i := 7) (by kernel_rfl) (wpOp_val (v := .slice (some ⟨wr.heap.size, 0, none⟩) 1 1) rfl rfl (by go_simp) ⟨.inr HI3, ?_⟩)
            refine anyI_one (i := 8) (by kernel_rfl) (wpOp_val (v := .slice a3 l3 c3) rfl rfl (by go_simp) ⟨.inr HI4, ?_⟩)
            refine anyI_one (i := 9) (by kernel_rfl) (wpOp_val (v := .pointer (some ⟨w1.heap.size + 1, 0, none⟩)) rfl rfl (by go_simp) ⟨.inr HI4, ?_⟩)
            refine anyI_one (i := 10) (by kernel_rfl) (wpOp_skip (w' := w4.setCell ⟨w1.heap.size + 1, 0, none⟩ (.slice a3 l3 c3)) rfl rfl (by go_simp) ⟨.inl rfl, ?_⟩)
            refine anyI_done (by kernel_rfl) ?_ _
            go_wp2
            go_roundw
            case rel => exact ⟨_, k + 1, _, _, rfl, by omega, by go_num, HN, HEND.out.1, HEND.out.2, by simp [go_sem, oc4], by simp [go_sem, of4], HRO.out⟩
            case measure => simp [intOf]; omega
          · have hlb2 : ltB p.n f.n = false := by simpa using hlb
            have heb : p.n = f.n := by rw [hlb2] at hc2; simpa using hc2
            rw [hlb2] at HL
            rw [decide_eq_true heb] at HE
            clear hcnd hc2 hlb hlb2 heb
            go_wp2
            go_quiet (fail)
            go_wp2
            obtain ⟨a3, l3, c3, w4, run3, hb4, hro⟩ := HAll.out (nq + 1)
            have hBW : w1.heap.size + 2 ≤ (wr.drewN (nq + 1)).heap.size := hsz
            have of4 : w4.frozen? ⟨w1.heap.size + 1, 0, none⟩ = false := by rw [hb4.frozen (by simp)]; exact hof
            have HEND : Hid (Below (w1.heap.size + 1) (w1.alloc (Obj.cells #[Value.slice (some ⟨b, off, none⟩) rest.length rcap] 25)) (w4.setCell ⟨w1.heap.size + 1, 0, none⟩ (.slice a3 l3 c3)) ∧ w1.heap.size + 2 ≤ (w4.setCell ⟨w1.heap.size + 1, 0, none⟩ (.slice a3 l3 c3)).heap.size) := by
              refine ⟨(((HB.out.grown (grown_drewN (World.grownBy.refl _ none) (nq + 1)) (by omega) (fun _ e => by cases e)).trans (hb4.mono (by omega))).setCell (by simp) _), ?_⟩
              have := hb4.size; simp at this ⊢; omega
            have HRO := hide hro
            clear hro HAll HB
            obtain ⟨I, hI⟩ : ∃ I : World → Prop, I = (fun W : World => W.cell? ⟨w1.heap.size + 1, 0, none⟩ = some (.slice oa ll ocap) ∧ W.cell? ⟨w1.heap.size, 0, none⟩ = some (.slice (some ⟨b, off, none⟩) rest.length rcap) ∧ W.cell? ⟨b, off + k * 3, none⟩ = some (.slice ea p.n.length ecap) ∧ W.cell? ⟨b, off + k * 3 + 1, none⟩ = some (.slice ga p.d.length gcap) ∧ W.cell? ⟨b, off + k * 3 + 2, none⟩ = some (.int .i64 p.s)) := ⟨_, rfl⟩
            have HI0 : I (wr.drewN (nq + 1)) := by rw [hI]; exact ⟨hoc, hfc, z0, z1, z2⟩
            have hIb : ∀ W', Below (w1.heap.size + 2) (wr.drewN (nq + 1)) W' → I W' := fun W' h => by rw [hI] at HI0 ⊢; exact ⟨(h.cell (by simp)).trans HI0.1, (h.cell (by simp)).trans HI0.2.1, (h.cell (by simp; omega)).trans HI0.2.2.1, (h.cell (by simp; omega)).trans HI0.2.2.2.1, (h.cell (by simp; omega)).trans HI0.2.2.2.2⟩
            have HI3 := hIb _ ((Below.refl _ (wr.drewN (nq + 1))).alloc hBW (Obj.cells #[.slice ea p.n.length ecap, .slice ga p.d.length gcap, .int .i64 p.s] 45))
            have HI4 := hIb _ hb4
            have oc4 : w4.cell? ⟨w1.heap.size + 1, 0, none⟩ = some (.slice oa ll ocap) := by rw [hI] at HI4; exact HI4.1
            clear hIb
            refine region_anyI I (fun i => i == 10) (by kernel_rfl) ?_
            show anyI _ _ _ _ _ _ 11 (Array.replicate 11 false) _ _
            refine anyI_take (i := 0) (.pointer (some ⟨w1.heap.size + 1, 0, none⟩)) rfl (by kernel_rfl) (by kernel_rfl) (by kernel_rfl) (by kernel_rfl) (fun _ _ _ h => h) HI0 (yldI rfl (fun W hW => by go_simp)) ?_
            refine anyI_take (i := 1) (.slice oa ll ocap) rfl (by kernel_rfl) (by kernel_rfl) (by kernel_rfl) (by kernel_rfl) (fun _ _ _ h => h) HI0 (yldI rfl (fun W hW => by rw [hI] at hW; obtain ⟨h1, h2, h3, h4, h5⟩ := hW; go_simp)) ?_
            refine anyI_take (i := 2) (.pointer (some ⟨w1.heap.size, 0, none⟩)) rfl (by kernel_rfl) (by kernel_rfl) (by kernel_rfl) (by kernel_rfl) (fun _ _ _ h => h) HI0 (yldI rfl (fun W hW => by go_simp)) ?_
            refine anyI_take (i := 3) (.slice (some ⟨b, off, none⟩) rest.length rcap) rfl (by kernel_rfl) (by kernel_rfl) (by kernel_rfl) (by kernel_rfl) (fun _ _ _ h => h) HI0 (yldI rfl (fun W hW => by rw [hI] at hW; obtain ⟨h1, h2, h3, h4, h5⟩ := hW; go_simp)) ?_
            refine anyI_take (i := 4) (.int .i64 k) rfl (by kernel_rfl) (by kernel_rfl) (by kernel_rfl) (by kernel_rfl) (fun _ _ _ h => h) HI0 (yldI rfl (fun W hW => by go_simp)) ?_
            refine anyI_take (i := 5) (.pointer (some ⟨b, off + k * 3, none⟩)) rfl (by kernel_rfl) (by kernel_rfl) (by kernel_rfl) (by kernel_rfl) (fun _ _ _ h => h) HI0 (yldI rfl (fun W hW => by go_simp)) ?_
            refine anyI_take (i := 6) (.agg #[.slice ea p.n.length ecap, .slice ga p.d.length gcap, .int .i64 p.s]) rfl (by kernel_rfl) (by kernel_rfl) (by kernel_rfl) (by kernel_rfl) (fun _ _ _ h => h) HI0 (yldI rfl (fun W hW => by rw [hI] at hW; obtain ⟨h1, h2, h3, h4, h5⟩ := hW; go_simp)) ?_
            refine anyI_one (i := 7) (by kernel_rfl) (wpOp_val (v := .slice (some ⟨wr.heap.size, 0, none⟩) 1 1) rfl rfl (by go_simp) ⟨.inr HI3, ?_⟩)
            refine anyI_one (i := 8) (by kernel_rfl) (wpOp_val (v := .slice a3 l3 c3) rfl rfl (by go_simp) ⟨.inr HI4, ?_⟩)
            refine anyI_one (i := 9) (by kernel_rfl) (wpOp_val (v := .pointer (some ⟨w1.heap.size + 1, 0, none⟩)) rfl rfl (by go_simp) ⟨.inr HI4, ?_⟩)
            refine anyI_one (i := 10) (by kernel_rfl) (wpOp_skip (w' := w4.setCell ⟨w1.heap.size + 1, 0, none⟩ (.slice a3 l3 c3)) rfl rfl (by go_simp) ⟨.inl rfl, ?_⟩)
            refine anyI_done (by kernel_rfl) ?_ _
            go_wp2
            go_roundw
            case rel => exact ⟨_, k + 1, _, _, rfl, by omega, by go_num, HN, HEND.out.1, HEND.out.2, by simp [go_sem, oc4], by simp [go_sem, of4], HRO.out⟩
            case measure => simp [intOf]; omega
      · -- f, and the file at k behind it
        obtain ⟨hd0, hnp⟩ := not_or.1 hgo
        have hdf : d = false := by simpa using hd0
        subst hdf
        have hnp2 : (ltB rest[k].n f.n || decide (rest[k].n = f.n)) = false := by simpa using hnp
        obtain ⟨hl1, hl2⟩ := Bool.or_eq_false_iff.1 hnp2
        rw [hl1] at HL
        rw [hl2] at HE
        have HAll : Hid (∀ m : Nat, ∃ a2 l2 c2 w2, (Builtin.append_ #[23, 23] 23 #[.slice oa L.length ocap, .slice (some ⟨wr.heap.size, 0, none⟩) 1 1]).run Tryz.prog ((wr.drewN m).alloc (Obj.cells #[.slice na f.n.length ncap, .slice da f.d.length dcap, .int .i64 f.s] 45)) = .ok (.slice a2 l2 c2) w2 ∧ Below (w1.heap.size + 2) (wr.drewN m) w2 ∧ w1.heap.size + 2 ≤ w2.heap.size ∧
            ∃ a3 l3 c3 w4, (Builtin.append_ #[23, 23] 23 #[.slice a2 l2 c2, .slice (some ⟨w2.heap.size, 0, none⟩) 1 1]).run Tryz.prog ((w2.setCell ⟨w1.heap.size + 1, 0, none⟩ (.slice a2 l2 c2)).drew.alloc (Obj.cells #[.slice ea rest[k].n.length ecap, .slice ga rest[k].d.length gcap, .int .i64 rest[k].s] 45)) = .ok (.slice a3 l3 c3) w4 ∧ Below (w1.heap.size + 2) (w2.setCell ⟨w1.heap.size + 1, 0, none⟩ (.slice a2 l2 c2)).drew w4 ∧ RoF w1.heap.size (w1.heap.size + 2) (w4.setCell ⟨w1.heap.size + 1, 0, none⟩ (.slice a3 l3 c3)) (.slice a3 l3 c3) ((L ++ [f]) ++ [rest[k]])) := by
          intro m
          have gd : wr.grownBy (wr.drewN m) none := grown_drewN (World.grownBy.refl wr none) m
          obtain ⟨a2, l2, c2, w2, r2, hb2', hro2⟩ := pushF (oB := w1.heap.size + 1) f _ _ (hown.later gd) (hfV.keep gd) (by omega) (by omega) hsz (by omega)
          have hsz2 : w1.heap.size + 2 ≤ w2.heap.size := by have := hb2'.size; simp at this; omega
          have hbx : Below w1.heap.size wr ((w2.setCell ⟨w1.heap.size + 1, 0, none⟩ (.slice a2 l2 c2)).drew) := ((((Below.refl _ wr).grown gd (by omega) (fun _ e => by cases e)).trans (hb2'.mono (by omega))).setCell (by simp) _).drew
          have gd2 : (w2.setCell ⟨w1.heap.size + 1, 0, none⟩ (.slice a2 l2 c2)).grownBy (w2.setCell ⟨w1.heap.size + 1, 0, none⟩ (.slice a2 l2 c2)).drew none := ⟨rfl, rfl, rfl, Nat.le_refl _, fun _ _ _ => rfl⟩
          obtain ⟨a3, l3, c3, w4, r3, hb3, hro3⟩ := pushF (oB := w1.heap.size + 1) rest[k] _ _ (hro2.later gd2) (heV.belowB hbx) (by omega) (by omega) (by simpa using hsz2) (by simp; omega)
          refine ⟨a2, l2, c2, w2, r2, hb2', hsz2, a3, l3, c3, w4, ?_, hb3, hro3⟩
          simpa using r3
        have HN : Hid (WInv f rest (k + 1) true ((L ++ [f]) ++ [rest[k]])) := HIv.out.put hlt hnp2
        have HB : Hid (Below (w1.heap.size + 1) (w1.alloc (Obj.cells #[Value.slice (some ⟨b, off, none⟩) rest.length rcap] 25)) wr) := hbel
        clear hp heV hfV hown hbel hbw1 hgo hbr HIv hd0 hnp hnp2 hl1 hl2
        generalize rest[k] = p at *
        generalize hLL : L.length = ll at *
        go_wp2
        go_quiet (fail)
        obtain ⟨a2, l2, c2, w2, run2, hbB, hszB, a3, l3, c3, w4, run3, hb4, hro⟩ := HAll.out nq
        have HRO := hide hro
        have oc2 : w2.cell? ⟨w1.heap.size + 1, 0, none⟩ = some (.slice oa ll ocap) := by rw [hbB.cell (by simp)]; exact hoc
        have of2 : w2.frozen? ⟨w1.heap.size + 1, 0, none⟩ = false := by rw [hbB.frozen (by simp)]; exact hof
        rw [World.alloc_drew] at run3
        clear hro HAll
        go_wp2
        have hBW : w1.heap.size + 2 ≤ ((w2.setCell ⟨w1.heap.size + 1, 0, none⟩ (.slice a2 l2 c2)).drew).heap.size := by simpa using hszB
        have hbx : Below (w1.heap.size + 1) wr ((w2.setCell ⟨w1.heap.size + 1, 0, none⟩ (.slice a2 l2 c2)).drew) := ((((Below.refl _ wr).grown (grown_drewN (World.grownBy.refl wr none) nq) (by omega) (fun _ e => by cases e)).trans (hbB.mono (by omega))).setCell (by simp) _).drew
        have y0 : ((w2.setCell ⟨w1.heap.size + 1, 0, none⟩ (.slice a2 l2 c2)).drew).cell? ⟨w1.heap.size + 1, 0, none⟩ = some (.slice a2 l2 c2) := by simp [go_sem, oc2]
        have y1 := (hbx.cell (p := ⟨w1.heap.size, 0, none⟩) (by simp)).trans hfc
        have e0 := (hbx.cell (p := ⟨b, off + k * 3, none⟩) (by simp; omega)).trans z0
        have e1 := (hbx.cell (p := ⟨b, off + k * 3 + 1, none⟩) (by simp; omega)).trans z1
        have e2 := (hbx.cell (p := ⟨b, off + k * 3 + 2, none⟩) (by simp; omega)).trans z2
        have of4 : w4.frozen? ⟨w1.heap.size + 1, 0, none⟩ = false := by rw [hb4.frozen (by simp)]; simp [go_sem, of2]
        have HEND : Hid (Below (w1.heap.size + 1) (w1.alloc (Obj.cells #[Value.slice (some ⟨b, off, none⟩) rest.length rcap] 25)) (w4.setCell ⟨w1.heap.size + 1, 0, none⟩ (.slice a3 l3 c3)) ∧ w1.heap.size + 2 ≤ (w4.setCell ⟨w1.heap.size + 1, 0, none⟩ (.slice a3 l3 c3)).heap.size) := by
          refine ⟨((HB.out.trans hbx).trans (hb4.mono (by omega))).setCell (by simp) _, ?_⟩
          have := hb4.size; simp at this ⊢; omega
        clear hbx HB
        obtain ⟨I, hI⟩ : ∃ I : World → Prop, I = (fun W : World => W.cell? ⟨w1.heap.size + 1, 0, none⟩ = some (.slice a2 l2 c2) ∧ W.cell? ⟨w1.heap.size, 0, none⟩ = some (.slice (some ⟨b, off, none⟩) rest.length rcap) ∧ W.cell? ⟨b, off + k * 3, none⟩ = some (.slice ea p.n.length ecap) ∧ W.cell? ⟨b, off + k * 3 + 1, none⟩ = some (.slice ga p.d.length gcap) ∧ W.cell? ⟨b, off + k * 3 + 2, none⟩ = some (.int .i64 p.s)) := ⟨_, rfl⟩
        have HI0 : I ((w2.setCell ⟨w1.heap.size + 1, 0, none⟩ (.slice a2 l2 c2)).drew) := by rw [hI]; exact ⟨y0, y1, e0, e1, e2⟩
        have hIb : ∀ W', Below (w1.heap.size + 2) ((w2.setCell ⟨w1.heap.size + 1, 0, none⟩ (.slice a2 l2 c2)).drew) W' → I W' := fun W' h => by rw [hI] at HI0 ⊢; exact ⟨(h.cell (by simp)).trans HI0.1, (h.cell (by simp)).trans HI0.2.1, (h.cell (by simp; omega)).trans HI0.2.2.1, (h.cell (by simp; omega)).trans HI0.2.2.2.1, (h.cell (by simp; omega)).trans HI0.2.2.2.2⟩
        have HI3 := hIb _ ((Below.refl _ ((w2.setCell ⟨w1.heap.size + 1, 0, none⟩ (.slice a2 l2 c2)).drew)).alloc hBW (Obj.cells #[.slice ea p.n.length ecap, .slice ga p.d.length gcap, .int .i64 p.s] 45))
        have HI4 := hIb _ hb4
        have oc4 : w4.cell? ⟨w1.heap.size + 1, 0, none⟩ = some (.slice a2 l2 c2) := by rw [hI] at HI4; exact HI4.1
        clear hIb
        refine region_anyI I (fun i => i == 10) (by kernel_rfl) ?_
        show anyI _ _ _ _ _ _ 11 (Array.replicate 11 false) _ _
        refine anyI_take (i := 0) (.pointer (some ⟨w1.heap.size + 1, 0, none⟩)) rfl (by kernel_rfl) (by kernel_rfl) (by kernel_rfl) (by kernel_rfl) (fun _ _ _ h => h) HI0 (yldI rfl (fun W hW => by go_simp)) ?_
        refine anyI_take (i := 1) (.slice a2 l2 c2) rfl (by kernel_rfl) (by kernel_rfl) (by kernel_rfl) (by kernel_rfl) (fun _ _ _ h => h) HI0 (yldI rfl (fun W hW => by rw [hI] at hW; obtain ⟨h1, h2, h3, h4, h5⟩ := hW; go_simp)) ?_
        refine anyI_take (i := 2) (.pointer (some ⟨w1.heap.size, 0, none⟩)) rfl (by kernel_rfl) (by kernel_rfl) (by kernel_rfl) (by kernel_rfl) (fun _ _ _ h => h) HI0 (yldI rfl (fun W hW => by go_simp)) ?_
        refine anyI_take (i := 3) (.slice (some ⟨b, off, none⟩) rest.length rcap) rfl (by kernel_rfl) (by kernel_rfl) (by kernel_rfl) (by kernel_rfl) (fun _ _ _ h => h) HI0 (yldI rfl (fun W hW => by rw [hI] at hW; obtain ⟨h1, h2, h3, h4, h5⟩ := hW; go_simp)) ?_
        refine anyI_take (i := 4) (.int .i64 k) rfl (by kernel_rfl) (by kernel_rfl) (by kernel_rfl) (by kernel_rfl) (fun _ _ _ h => h) HI0 (yldI rfl (fun W hW => by go_simp)) ?_
        refine anyI_take (i := 5) (.pointer (some ⟨b, off + k * 3, none⟩)) rfl (by kernel_rfl) (by kernel_rfl) (by kernel_rfl) (by kernel_rfl) (fun _ _ _ h => h) HI0 (yldI rfl (fun W hW => by go_simp)) ?_
        refine anyI_take (i := 6) (.agg #[.slice ea p.n.length ecap, .slice ga p.d.length gcap, .int .i64 p.s]) rfl (by kernel_rfl) (by kernel_rfl) (by kernel_rfl) (by kernel_rfl) (fun _ _ _ h => h) HI0 (yldI rfl (fun W hW => by rw [hI] at hW; obtain ⟨h1, h2, h3, h4, h5⟩ := hW; go_simp)) ?_
        refine anyI_one (i := 7) (by kernel_rfl) (wpOp_val (v := .slice (some ⟨w2.heap.size, 0, none⟩) 1 1) rfl rfl (by go_simp) ⟨.inr HI3, ?_⟩)
        refine anyI_one (i := 8) (by kernel_rfl) (wpOp_val (v := .slice a3 l3 c3) rfl rfl (by go_simp) ⟨.inr HI4, ?_⟩)
        refine anyI_one (i := 9) (by kernel_rfl) (wpOp_val (v := .pointer (some ⟨w1.heap.size + 1, 0, none⟩)) rfl rfl (by go_simp) ⟨.inr HI4, ?_⟩)
        refine anyI_one (i := 10) (by kernel_rfl) (wpOp_skip (w' := w4.setCell ⟨w1.heap.size + 1, 0, none⟩ (.slice a3 l3 c3)) rfl rfl (by go_simp) ⟨.inl rfl, ?_⟩)
        refine anyI_done (by kernel_rfl) ?_ _
        go_wp2
        go_roundw
        case rel => exact ⟨_, k + 1, _, _, rfl, by omega, by go_num, HN, HEND.out.1, HEND.out.2, by simp [go_sem, oc4], by simp [go_sem, of4], HRO.out⟩
        case measure => simp [intOf]; omega
    · have hkn : k = rest.length := by omega
      subst hov
      cases d with
      | true =>
        have hL : L = insF f rest := HIv.out.end_true hkn
        have HCp : Hid (Calls Tryz.prog 43 #[.agg #[.slice oa L.length ocap]] wr fun e w' => ∃ v', e = .returned (.agg #[v']) ∧ OwF wr.heap.size w' v' (withF fs f) ∧ wr.grownBy w' none) := by
          rw [HWD.out, ← hL]
          exact l7copy_any _ L wr (hown.rd (by omega)) (by omega) (by rw [hL]; exact insF_all hf HR.out.tlen)
        have HBW : Hid (Below w.heap.size w wr) := (below_of_grown HG1.out).trans (hbw1.mono (by omega))
        clear hL hown hbel hbw1 hfV HIv
        generalize L.length = ll at *
        go_wp2_with fail
        refine HCp.out.mono ?_
        rintro e w5 ⟨v5, rfl, o5, g5⟩
        have rc5 := g5.cell q3 (by simp)
        have rf5 := (grown_bothF g5 q3 q4).2
        obtain ⟨a5, c5, hv5, _⟩ := o5.rd
        have HO5 : Hid (OwF wr.heap.size w5 v5 (withF fs f)) := o5
        have HB5 : Hid (Below w.heap.size w w5) := HBW.out.grown g5 (by omega) (fun _ e => by cases e)
        subst hv5
        clear o5 g5
        go_wp2
        refine bodyPost_ret (v := .agg #[.slice a5 (withF fs f).length c5]) (by simp [results, Tryz.results56, go_sem, rc5]) rfl ?_
        refine ⟨_, rfl, ?_, ?_⟩
        · exact (HO5.out.setLow _ _ (by simp; omega)).base (by omega)
        · exact grown_of_below (HB5.out.setCell (by simp; omega) _)
      | false =>
        have hL : L ++ [f] = insF f rest := HIv.out.end_false hkn
        obtain ⟨a2, l2, c2, w2, run2, hbB, hro⟩ := pushF (oB := w1.heap.size + 1) f _ _ hown hfV (by omega) (by omega) hsz (by omega)
        have hszB : w1.heap.size + 2 ≤ w2.heap.size := by have := hbB.size; omega
        have HCp : Hid (Calls Tryz.prog 43 #[.agg #[.slice a2 l2 c2]] (w2.setCell ⟨w1.heap.size + 1, 0, none⟩ (.slice a2 l2 c2)) fun e w' => ∃ v', e = .returned (.agg #[v']) ∧ OwF (w2.setCell ⟨w1.heap.size + 1, 0, none⟩ (.slice a2 l2 c2)).heap.size w' v' (withF fs f) ∧ (w2.setCell ⟨w1.heap.size + 1, 0, none⟩ (.slice a2 l2 c2)).grownBy w' none) := by
          rw [HWD.out, ← hL]
          exact l7copy_any _ (L ++ [f]) _ (hro.rd (by simp; omega)) (by have : (L ++ [f]).length = rest.length + 1 := (by rw [hL, insF_length]); omega) (by rw [hL]; exact insF_all hf HR.out.tlen)
        have HBW : Hid (Below w.heap.size w (w2.setCell ⟨w1.heap.size + 1, 0, none⟩ (.slice a2 l2 c2))) := (((below_of_grown HG1.out).trans (hbw1.mono (by omega))).trans (hbB.mono (by omega))).setCell (by simp; omega) _
        have oc2 : w2.cell? ⟨w1.heap.size + 1, 0, none⟩ = some (.slice oa L.length ocap) := by rw [hbB.cell (by simp)]; exact hoc
        have of2 : w2.frozen? ⟨w1.heap.size + 1, 0, none⟩ = false := by rw [hbB.frozen (by simp)]; exact hof
        have u3 : (w2.setCell ⟨w1.heap.size + 1, 0, none⟩ (.slice a2 l2 c2)).cell? ⟨w.heap.size + 1 + 1, 0, none⟩ = some (.slice none 0 0) := ((Below.refl (w1.heap.size) w2).setCell (p := ⟨w1.heap.size + 1, 0, none⟩) (by simp) (.slice a2 l2 c2)).cell (p := ⟨w.heap.size + 1 + 1, 0, none⟩) (by simp; omega) |>.trans ((hbB.cell (p := ⟨w.heap.size + 1 + 1, 0, none⟩) (by simp; omega)).trans q3)
        have u4 : (w2.setCell ⟨w1.heap.size + 1, 0, none⟩ (.slice a2 l2 c2)).frozen? ⟨w.heap.size + 1 + 1, 0, none⟩ = false := ((Below.refl (w1.heap.size) w2).setCell (p := ⟨w1.heap.size + 1, 0, none⟩) (by simp) (.slice a2 l2 c2)).frozen (p := ⟨w.heap.size + 1 + 1, 0, none⟩) (by simp; omega) |>.trans ((hbB.frozen (p := ⟨w.heap.size + 1 + 1, 0, none⟩) (by simp; omega)).trans q4)
        have U3 := hide u3
        have U4 := hide u4
        clear hL hown hbel hbw1 hfV HIv hro hbB u3 u4
        generalize L.length = ll at *
        go_wp2_with fail
        refine HCp.out.mono ?_
        rintro e w5 ⟨v5, rfl, o5, g5⟩
        have rc5 := g5.cell U3.out (by simp)
        have rf5 := (grown_bothF g5 U3.out U4.out).2
        obtain ⟨a5, c5, hv5, _⟩ := o5.rd
        have HO5 : Hid (OwF (w2.setCell ⟨w1.heap.size + 1, 0, none⟩ (.slice a2 l2 c2)).heap.size w5 v5 (withF fs f)) := o5
        have HB5 : Hid (Below w.heap.size w w5) := HBW.out.grown g5 (by simp; omega) (fun _ e => by cases e)
        subst hv5
        clear o5 g5
        go_wp2
        refine bodyPost_ret (v := .agg #[.slice a5 (withF fs f).length c5]) (by simp [results, Tryz.results56, go_sem, rc5]) rfl ?_
        refine ⟨_, rfl, ?_, ?_⟩
        · exact (HO5.out.setLow _ _ (by simp; omega)).base (by simp; omega)
        · exact grown_of_below (HB5.out.setCell (by simp; omega) _)
end Go.Proofs.YtakkdniikhgpdaaGreatDoor

