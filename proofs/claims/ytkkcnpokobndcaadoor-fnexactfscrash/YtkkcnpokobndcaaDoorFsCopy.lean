import Derived.Test.YtkkcnpokobndcaaDoorFsApp
import Derived.Test.YtkkcnpokobndcaaDoorFsValid
import Derived.Test.YtkkcnpokobndcaaDoorOrdI
namespace Go.Proofs.YtkkcnpokobndcaaDoor
open Go.RowKit
attribute [-go_sem] Builtin.append_

theorem grown_in {a b c : World} {B : Nat} {r : Option Nat} (h : Below B a b) (k : b.grownBy c r) (hB : B ≤ b.heap.size) (hr : ∀ j, r = some j → B ≤ j) : Below B a c := h.grown k hB hr

set_option maxHeartbeats 8000000 in
set_option maxRecDepth 100000 in
theorem l7copy_any (v : Value) (fs : List Fl) (w : World) (hv : RdF w.heap.size w v fs) (hn : fs.length ≤ 1048576) (ht : ∀ p ∈ fs, p.n.length ≤ 1048576 ∧ p.d.length ≤ 1048576) :
    Calls Tryd.prog 44 #[.agg #[v]] w fun e w' => ∃ v', e = .returned (.agg #[v']) ∧ OwF w.heap.size w' v' fs ∧ w.grownBy w' none := by
  obtain ⟨a, cap, hv0, hcap, hmax, _⟩ := id hv
  have HV : Hid (RdF w.heap.size w v fs) := hv
  have HT : Hid (∀ p ∈ fs, p.n.length ≤ 1048576 ∧ p.d.length ≤ 1048576) := ht
  subst hv0
  clear hv ht
  go_enter Tryd.func44, Tryd.ntmps44
  go_wp2
  -- the argument's cell, the answer's, the local's: three blocks; what is laid lies behind them
  go_loopw [4] (fun i wr => ∃ (k : Nat) (ov : Value), k ≤ fs.length ∧ i = .int .i64 k ∧ Below (w.heap.size + 2) (((w.alloc (Obj.cells #[Value.slice a fs.length cap] 31)).alloc (Obj.cells #[Value.slice none 0 0] 31))) wr ∧ w.heap.size + 3 ≤ wr.heap.size ∧
      wr.cell? ⟨w.heap.size + 1 + 1, 0, none⟩ = some ov ∧ wr.frozen? ⟨w.heap.size + 1 + 1, 0, none⟩ = false ∧ OwF (w.heap.size + 3) wr ov (fs.take k)) (fun i _ => fs.length - (intOf i).toNat)
  case atStart =>
    refine ⟨0, .slice none 0 0, Nat.zero_le _, rfl, ?_, by simp, by simp [go_sem], by simp [go_sem], by simpa using OwF.nil _ _⟩
    exact (Below.refl _ _).alloc (by simp) _
  case round =>
    obtain ⟨k, ov, hk, rfl, hbel, hsz, hoc, hof, hown⟩ := hrel
    have hbw : Below w.heap.size w wr := (((Below.refl w.heap.size w).alloc (Nat.le_refl _) _).alloc (by simp) _).trans (hbel.mono (by omega))
    have hfc : wr.cell? ⟨w.heap.size, 0, none⟩ = some (.slice a fs.length cap) := by rw [hbel.cell (by simp)]; simp [go_sem]
    have hrc : wr.cell? ⟨w.heap.size + 1, 0, none⟩ = some (.slice none 0 0) := by rw [hbel.cell (by simp)]; simp [go_sem]
    have hrf : wr.frozen? ⟨w.heap.size + 1, 0, none⟩ = false := by rw [hbel.frozen (by simp)]; simp [go_sem]
    by_cases hlt : k < fs.length
    · obtain ⟨b, off, cap', x, hva, hb, hp⟩ := (HV.out.belowB hbw).at k hlt
      cases hva
      obtain ⟨nv, dv⟩ := x
      have z0 := hp.n; have z1 := hp.d; have z2 := hp.s
      have hpt := HT.out _ (List.getElem_mem hlt)
      have htk : fs.take (k + 1) = fs.take k ++ [fs[k]] := by rw [List.take_add_one]; simp [hlt]
      have hlk : (fs.take k).length = k := by simp; omega
      obtain ⟨O, hO⟩ : ∃ O, O = Obj.cells #[nv, dv, .int .i64 fs[k].s] 49 := ⟨_, rfl⟩
      obtain ⟨W0, hW0⟩ : ∃ W0, W0 = (wr.alloc O).drew := ⟨_, rfl⟩
      have g0 : wr.grownBy W0 none := by rw [hW0]; exact ⟨rfl, rfl, rfl, by simp, fun i hi _ => Below.heap_alloc wr O i hi⟩
      have hs0 : W0.heap.size = wr.heap.size + 1 := by rw [hW0]; simp
      obtain ⟨v1, w1, run1, o1, g1, _⟩ := append_bytes W0.heap.size W0.heap.size W0 (.slice none 0 0) nv [] fs[k].n ⟨by simp, .inl ⟨rfl, rfl⟩⟩ ((hp.rn.keep g0).now) (Nat.le_refl _) (by simp; omega)
      simp only [List.nil_append] at o1
      obtain ⟨v2, w2, run2, o2, g2, _⟩ := append_bytes w1.heap.size w1.heap.size w1 (.slice none 0 0) dv [] fs[k].d ⟨by simp, .inl ⟨rfl, rfl⟩⟩ ((hp.rd.keep (grown_trans g0 g1)).now) (Nat.le_refl _) (by simp; omega)
      simp only [List.nil_append] at o2
      have g1' : W0.grownBy w1 none := g1
      have g2' : w1.grownBy w2 none := g2
      have g02 := grown_trans g1' g2'
      obtain ⟨xs, hrow, htx⟩ := hown
      have hap : Apt v1 v2 := fun g e1 e2 => by have := World.ownsRow.lt o1 _ e1; have := World.ownsRow.lt o2 _ e2; omega
      have htx2 : TxF (w.heap.size + 3) w2 ov.ownBlock (fs.take k ++ [fs[k]]) (xs ++ [(v1, v2)]) :=
        (htx.keep g0).snoc (p := fs[k]) (x := (v1, v2)) (by omega) (fun j e => by have := (World.ownsRow.lt hrow j e).2; omega) g02 (o1.later g2') (row_base g1'.size o2) hap
      have hrow2 : w2.ownsRow (w.heap.size + 3) 49 3 ov (fs.take k).length (cellsF (fs.take k) xs) := World.ownsRow.kept hrow (grown_trans g0 g02) (by cases ov.ownBlock <;> simp)
      obtain ⟨W3, hW3⟩ : ∃ W3, W3 = w2.alloc (Obj.cells #[v1, v2, .int .i64 fs[k].s] 49) := ⟨_, rfl⟩
      have g3 : w2.grownBy W3 none := by rw [hW3]; exact World.grownBy_alloc _ _ _
      have hs3 : W3.heap.size = w2.heap.size + 1 := by rw [hW3]; simp
      have hs02 := g02.size
      obtain ⟨v3, w4, run3, hrow4, g4, hat, a3, c3, hv3⟩ := append_fl (w.heap.size + 3) W3 ov (fs.take k) xs w2.heap.size fs[k] (v1, v2) htx.len (World.ownsRow.kept hrow2 g3 (by cases ov.ownBlock <;> simp)) (by rw [hW3]; simp [go_sem]) (by rw [hW3]; simp [go_sem]) (by rw [hW3]; simp [go_sem]) o1.sl o2.sl (by omega) (by omega)
      have htx4 := (htx2.keep g3).row g4 (g' := v3.ownBlock) (fun j e => by
        rcases hat with h | h
        · exact .inl (by rw [← h]; exact e)
        · rw [h] at e; cases e; exact .inr (Nat.le_refl _))
      have hown4 : OwF (w.heap.size + 3) w4 v3 (fs.take (k + 1)) := by rw [htk]; exact ⟨_, hrow4, htx4⟩
      have hbl4 : Below (w.heap.size + 3) wr w4 := ((((Below.refl _ wr).grown (grown_trans g0 g02) hsz (fun _ e => by cases e)).grown g3 (by omega) (fun _ e => by cases e)).grown g4 (by omega) (fun j e => (World.ownsRow.lt hrow2 j e).1))
      have HEND : Hid (Below (w.heap.size + 2) (((w.alloc (Obj.cells #[Value.slice (some ⟨b, off, none⟩) fs.length cap] 31)).alloc (Obj.cells #[Value.slice none 0 0] 31))) (w4.setCell ⟨w.heap.size + 1 + 1, 0, none⟩ v3) ∧ w.heap.size + 3 ≤ (w4.setCell ⟨w.heap.size + 1 + 1, 0, none⟩ v3).heap.size ∧ OwF (w.heap.size + 3) (w4.setCell ⟨w.heap.size + 1 + 1, 0, none⟩ v3) v3 (fs.take (k + 1))) := by
        refine ⟨(hbel.trans (hbl4.mono (by omega))).setCell (by simp) _, ?_, hown4.setLow _ _ (by simp)⟩
        have := hbl4.size; simp; omega
      have oc4 : w4.cell? ⟨w.heap.size + 1 + 1, 0, none⟩ = some ov := by rw [hbl4.cell (by simp)]; exact hoc
      have of4 : w4.frozen? ⟨w.heap.size + 1 + 1, 0, none⟩ = false := by rw [hbl4.frozen (by simp)]; exact hof
      have oc0 := g0.cell hoc (by simp)
      have oc1 := g1'.cell oc0 (by simp)
      have oc2 := g2'.cell oc1 (by simp)
      have oc3 := g3.cell oc2 (by simp)
      have f0 : W0.cell? ⟨wr.heap.size, 0, none⟩ = some nv := by rw [hW0, hO]; simp [go_sem]
      have f1 : W0.cell? ⟨wr.heap.size, 1, none⟩ = some dv := by rw [hW0, hO]; simp [go_sem]
      have f2 : W0.cell? ⟨wr.heap.size, 2, none⟩ = some (.int .i64 fs[k].s) := by rw [hW0, hO]; simp [go_sem]
      have f1a := g1'.cell f1 (by simp)
      have f2a := g1'.cell f2 (by simp)
      have f2b := g2'.cell f2a (by simp)
      obtain ⟨na, ncap, hnv, _, _⟩ := hp.sn
      obtain ⟨da, dcap, hdv, _, _⟩ := hp.sd
      obtain ⟨oa, ocap, hov, _⟩ := (row_rd htx.len hrow (Nat.le_refl _) (fun j p x h1 h2 => by obtain ⟨q1, q2, _⟩ := htx.own j p x h1 h2; exact ⟨q1.rd, q1.sl, q2.rd, q2.sl⟩))
      obtain ⟨a1, cap1, hv1, _⟩ := o1.rd
      obtain ⟨a2, cap2, hv2, _⟩ := o2.rd
      have hvv : ov = .slice oa k ocap := by rw [hov, hlk]
      rw [hlk] at hv3
      simp only at hnv hdv z0 z1 z2
      subst hW3 hW0 hO hnv hdv
      subst hv1 hv2 hvv hv3
      have C1 := hide (l1copy_exact _ _ _ _ _ _ run1)
      have C2 := hide (l1copy_exact _ _ _ _ _ _ run2)
      obtain ⟨I, hI⟩ : ∃ I : World → Prop, I = (fun W : World => W.cell? ⟨w.heap.size + 1 + 1, 0, none⟩ = some (.slice oa k ocap) ∧ W.cell? ⟨wr.heap.size, 0, none⟩ = some (.slice na fs[k].n.length ncap) ∧ W.cell? ⟨wr.heap.size, 1, none⟩ = some (.slice da fs[k].d.length dcap) ∧ W.cell? ⟨wr.heap.size, 2, none⟩ = some (.int .i64 fs[k].s)) := ⟨_, rfl⟩
      have hIg : ∀ {W W' : World} {r : Option Nat}, I W → W.grownBy W' r → (∀ j, r = some j → j ≠ w.heap.size + 1 + 1 ∧ j ≠ wr.heap.size) → I W' := by
        intro W W' r h g hr
        rw [hI] at h ⊢
        have n1 : some (w.heap.size + 1 + 1) ≠ r := fun e => (hr _ e.symm).1 rfl
        have n2 : some wr.heap.size ≠ r := fun e => (hr _ e.symm).2 rfl
        exact ⟨g.cell h.1 n1, g.cell h.2.1 n2, g.cell h.2.2.1 n2, g.cell h.2.2.2 n2⟩
      have HI0 : I (wr.alloc (Obj.cells #[.slice na fs[k].n.length ncap, .slice da fs[k].d.length dcap, .int .i64 fs[k].s] 49)).drew := by rw [hI]; exact ⟨oc0, f0, f1, f2⟩
      have HI1 := hIg HI0 g1' (fun _ e => by cases e)
      have HI2 := hIg HI1 g2' (fun _ e => by cases e)
      have HI3 := hIg HI2 g3 (fun _ e => by cases e)
      have HI4 := hIg HI3 g4 (fun j e => by have := World.ownsRow.lt hrow j e; omega)
      clear hIg
      clear htx4 htx2 htx hown4 hbl4 hrow hrow2 hrow4 o1 o2 g0 g1 g1' g2 g2' g3 g4 g02 hat hap hp hpt htk hlk hov HT HV run1 run2 hbel hbw hs0 hs3 hs02
      generalize fs[k] = p at *
      go_wp2
      refine region_anyI I (fun i => i == 14) (by kernel_rfl) ?_
      show anyI _ _ _ _ _ _ 15 (Array.replicate 15 false) _ _
      refine anyI_take (i := 0) (.pointer (some ⟨w.heap.size + 1 + 1, 0, none⟩)) rfl (by kernel_rfl) (by kernel_rfl) (by kernel_rfl) (by kernel_rfl) (fun _ _ _ h => h) HI0 (yldI rfl (fun W hW => by go_simp)) ?_
      refine anyI_take (i := 1) (.slice oa k ocap) rfl (by kernel_rfl) (by kernel_rfl) (by kernel_rfl) (by kernel_rfl) (fun _ _ _ h => h) HI0 (yldI rfl (fun W hW => by rw [hI] at hW; obtain ⟨h1, h2, h3, h4⟩ := hW; go_simp)) ?_
      refine anyI_take (i := 2) (.pointer (some ⟨wr.heap.size, 0, none⟩)) rfl (by kernel_rfl) (by kernel_rfl) (by kernel_rfl) (by kernel_rfl) (fun _ _ _ h => h) HI0 (yldI rfl (fun W hW => by go_simp)) ?_
      refine anyI_take (i := 3) (.slice na p.n.length ncap) rfl (by kernel_rfl) (by kernel_rfl) (by kernel_rfl) (by kernel_rfl) (fun _ _ _ h => h) HI0 (yldI rfl (fun W hW => by rw [hI] at hW; obtain ⟨h1, h2, h3, h4⟩ := hW; go_simp)) ?_
      refine anyI_take (i := 5) (.pointer (some ⟨wr.heap.size, 1, none⟩)) rfl (by kernel_rfl) (by kernel_rfl) (by kernel_rfl) (by kernel_rfl) (fun _ _ _ h => h) HI0 (yldI rfl (fun W hW => by go_simp)) ?_
      refine anyI_take (i := 6) (.slice da p.d.length dcap) rfl (by kernel_rfl) (by kernel_rfl) (by kernel_rfl) (by kernel_rfl) (fun _ _ _ h => h) HI0 (yldI rfl (fun W hW => by rw [hI] at hW; obtain ⟨h1, h2, h3, h4⟩ := hW; go_simp)) ?_
      refine anyI_take (i := 8) (.pointer (some ⟨wr.heap.size, 2, none⟩)) rfl (by kernel_rfl) (by kernel_rfl) (by kernel_rfl) (by kernel_rfl) (fun _ _ _ h => h) HI0 (yldI rfl (fun W hW => by go_simp)) ?_
      refine anyI_take (i := 9) (.int .i64 p.s) rfl (by kernel_rfl) (by kernel_rfl) (by kernel_rfl) (by kernel_rfl) (fun _ _ _ h => h) HI0 (yldI rfl (fun W hW => by rw [hI] at hW; obtain ⟨h1, h2, h3, h4⟩ := hW; go_simp)) ?_
      refine anyI_one (i := 4) (by kernel_rfl) (wpOp_call rfl rfl (by go_simp) C1.out ?_)
      rintro e w5 ⟨rfl, rfl⟩
      refine ⟨_, rfl, .inr HI1, ?_⟩
      refine anyI_one (i := 7) (by kernel_rfl) (wpOp_call rfl rfl (by go_simp) C2.out ?_)
      rintro e w5 ⟨rfl, rfl⟩
      refine ⟨_, rfl, .inr HI2, ?_⟩
      refine anyI_one (i := 10) (by kernel_rfl) (wpOp_val (v := .agg #[.slice a1 p.n.length cap1, .slice a2 p.d.length cap2, .int .i64 p.s]) rfl rfl (by go_simp) ⟨.inr HI2, ?_⟩)
      refine anyI_one (i := 11) (by kernel_rfl) (wpOp_val (v := .slice (some ⟨w2.heap.size, 0, none⟩) 1 1) rfl rfl (by go_simp) ⟨.inr HI3, ?_⟩)
      refine anyI_one (i := 12) (by kernel_rfl) (wpOp_val (v := .slice a3 (k + 1) c3) rfl rfl (by go_simp) ⟨.inr HI4, ?_⟩)
      refine anyI_one (i := 13) (by kernel_rfl) (wpOp_val (v := .pointer (some ⟨w.heap.size + 1 + 1, 0, none⟩)) rfl rfl (by go_simp) ⟨.inr HI4, ?_⟩)
      refine anyI_one (i := 14) (by kernel_rfl) (wpOp_skip (w' := w4.setCell ⟨w.heap.size + 1 + 1, 0, none⟩ (.slice a3 (k + 1) c3)) rfl rfl (by go_simp) ⟨.inl rfl, ?_⟩)
      refine anyI_done (by kernel_rfl) ?_ _
      go_wp2
      go_roundw
      case rel => exact ⟨k + 1, _, by omega, by go_num, HEND.out.1, HEND.out.2.1, by simp [go_sem, oc4], by simp [go_sem, of4], HEND.out.2.2⟩
      case measure => simp [intOf]; omega
    · have hkn : k = fs.length := by omega
      subst hkn
      rw [List.take_length] at hown
      obtain ⟨oa, ocap, hov, _⟩ := hown.rd
      subst hov
      go_wp2
      refine bodyPost_ret (v := .agg #[.slice oa fs.length ocap]) (by simp [results, Tryd.results44, go_sem, hrc]) rfl ?_
      refine ⟨_, rfl, ?_, ?_⟩
      · exact (hown.setLow _ _ (by simp)).base (by omega)
      · exact grown_of_below (hbw.setCell (by simp) _)

end Go.Proofs.YtkkcnpokobndcaaDoor
