import Derived.Lib.AppendStr
import Derived.Lib.SlBytesConst
import Derived.Test.YtakkdniikhgpdaaGreatDoorMAA
import Derived.Test.YtakkdniikhgpdaaGreatDoorMAV
namespace Go.Proofs.YtakkdniikhgpdaaGreatDoor
open Go.RowKit
attribute [-go_sem] Builtin.append_

theorem PiR.at {B : Nat} {w : World} {r : Option Nat} {v : Value} {ps : List Pc} (h : PiR B w r v ps) (j : Nat) (hj : j < ps.length) :
    ∃ b off cap, v = .slice (some ⟨b, off, none⟩) ps.length cap ∧ Zo B w r b ∧ PcR B w r b (off + j * 3) ps[j] := by
  obtain ⟨a, cap, hv, h1, h2, hh⟩ := h
  obtain ⟨b, off, ha, hz, hc⟩ := hh (fun e => by rw [e] at hj; simp at hj)
  exact ⟨b, off, cap, by rw [hv, ha], hz, hc j ps[j] (by simp [hj])⟩
theorem PoR.sl {B : Nat} {w : World} {v : Value} {ps : List Pc} (h : PoR B w v ps) : Sl v ps.length := h.pi.sl
theorem PoR.lt {B : Nat} {w : World} {v : Value} {ps : List Pc} (h : PoR B w v ps) : ∀ k, v.ownBlock = some k → B ≤ k ∧ k < w.heap.size := by
  obtain ⟨xs, ho, _⟩ := h
  exact fun k e => World.ownsRow.lt ho k e
/-- One more element, laid in a block of its own. -/
theorem PoR.push {B : Nat} {w : World} {v : Value} {ps : List Pc} (k n : Int) (tv : Value) (t : List Int) (hv : PoR B w v ps) (hB : B ≤ w.heap.size) (ht : TxR B w v.ownBlock tv t) (hn : ps.length ≤ 100000000000) :
    ∃ v' w', (Builtin.append_ #[138, 138] 138 #[v, .slice (some ⟨w.heap.size, 0, none⟩) 1 1]).run Tryz.prog (w.alloc (Obj.cells #[.int .i64 k, tv, .int .i64 n] 156)) = .ok v' w' ∧ PoR B w' v' (ps ++ [⟨k, t, n⟩]) ∧ w.grownBy w' v.ownBlock ∧ (∃ a cap, v' = .slice a (ps.length + 1) cap) ∧ ∀ x, v'.ownBlock = some x → v.ownBlock = some x ∨ w.heap.size ≤ x := by
  have g := World.grownBy_alloc w (Obj.cells #[.int .i64 k, tv, .int .i64 n] 156) none
  have g' := World.grownBy_alloc w (Obj.cells #[.int .i64 k, tv, .int .i64 n] 156) v.ownBlock
  obtain ⟨v', w', h1, h2, h3, h4⟩ := append_pcs B (w.alloc (Obj.cells #[.int .i64 k, tv, .int .i64 n] 156)) v (.slice (some ⟨w.heap.size, 0, none⟩) 1 1) ps [⟨k, t, n⟩] (hv.keep g)
    ⟨_, 1, rfl, Nat.le_refl _, by unfold maxLen; omega, fun _ => ⟨w.heap.size, 0, rfl, ⟨hB, by simp, fun e => by have := hv.lt _ e.symm; omega⟩, fun j p hp => by
      match j, hp with
      | 0, hp => simp at hp; subst hp; exact ⟨tv, by simp [go_sem], by simp [go_sem], by simp [go_sem], ht.keep g⟩
      | j + 1, hp => simp at hp⟩⟩ (by simp; omega) (by simp; omega)
  refine ⟨v', w', h1, h2, grown_trans g' h3, ?_⟩
  obtain ⟨a, cap, e, _⟩ := h2.sl
  refine ⟨⟨a, cap, by simpa using e⟩, fun x hx => ?_⟩
  rcases h4 with h | h
  · exact .inl (by rw [← h]; exact hx)
  · rw [h] at hx; cases hx; right; simp

set_option maxHeartbeats 4000000 in
set_option maxRecDepth 100000 in
theorem l2copy_any (v : Value) (ps : List Pc) (B : Nat) (w : World) (hv : PiR B w none v ps) (hn : mes ps ≤ 4194304) :
    Calls Tryz.prog 104 #[v] w fun e w' => ∃ v', e = .returned v' ∧ PoR w.heap.size w' v' ps ∧ w.grownBy w' none := by
  have HV := hide hv
  obtain ⟨a, cap, hv0, _⟩ := id hv
  subst hv0
  have hl := mes_len ps
  clear hv
  go_enter Tryz.func104, Tryz.ntmps104
  go_wp2
  go_loopw [3, 4] (fun o i W => ∃ (k : Nat), k ≤ ps.length ∧ i = .int .i64 k ∧ PoR w.heap.size W o (ps.take k) ∧ w.grownBy W none)
    (fun _ i _ => ps.length - (intOf i).toNat)
  case atStart => exact ⟨0, Nat.zero_le _, rfl, PoR.nil _ _, World.grownBy.refl _ _⟩
  case round =>
    obtain ⟨k, hk, rfl, ho, hg⟩ := hrel
    by_cases hlt : k < ps.length
    · obtain ⟨b, off, cap', hva, hz, tv, c0, c1, c2, hT⟩ := (HV.out.keep hg).at k hlt
      cases hva
      have hzb : b < w.heap.size := by have := ((HV.out).at k hlt); obtain ⟨b', off', cap', e, hz', _⟩ := this; cases e; exact hz'.2.1
      have hm := mes_mem ps ps[k] (List.getElem_mem hlt)
      have gd : wr.grownBy wr.drew none := ⟨rfl, rfl, rfl, Nat.le_refl _, fun _ _ _ => rfl⟩
      have HC := hide (l1copy_any tv ps[k].t wr.drew (hT.keep gd).rd (by omega))
      have HP := hide (show ps.take (k + 1) = ps.take k ++ [ps[k]] by rw [List.take_add_one]; simp [hlt])
      obtain ⟨ta, tcap, htv, _, _⟩ := hT.sl
      subst htv
      obtain ⟨oa, oc, hov, _, _⟩ := ho.sl
      have HO := hide ho
      have hlk : (ps.take k).length = k := by simp; omega
      rw [hlk] at hov
      subst hov
      clear hT ho
      generalize ps[k] = p at *
      obtain ⟨I, hI⟩ : ∃ I : World → Prop, I = (fun W : World => W.cell? ⟨b, off + k * 3, none⟩ = some (.int .i64 p.k) ∧ W.cell? ⟨b, off + k * 3 + 1, none⟩ = some (.slice ta p.t.length tcap) ∧ W.cell? ⟨b, off + k * 3 + 2, none⟩ = some (.int .i64 p.n)) := ⟨_, rfl⟩
      have HI0 : I wr.drew := by rw [hI]; exact ⟨c0, c1, c2⟩
      go_wp2
      refine region_anyI I (fun _ => false) (by kernel_rfl) ?_
      show anyI _ _ _ _ _ _ 21 (Array.replicate 21 false) _ _
      refine anyI_take (i := 0) (.slice oa k oc) rfl (by kernel_rfl) (by kernel_rfl) (by kernel_rfl) (by kernel_rfl) (fun _ _ _ h => h) HI0 (yldI rfl (fun W hW => by go_simp)) ?_
      refine anyI_take (i := 1) (.slice (some ⟨b, off, none⟩) ps.length cap) rfl (by kernel_rfl) (by kernel_rfl) (by kernel_rfl) (by kernel_rfl) (fun _ _ _ h => h) HI0 (yldI rfl (fun W hW => by go_simp)) ?_
      refine anyI_take (i := 2) (.int .i64 k) rfl (by kernel_rfl) (by kernel_rfl) (by kernel_rfl) (by kernel_rfl) (fun _ _ _ h => h) HI0 (yldI rfl (fun W hW => by go_simp)) ?_
      refine anyI_take (i := 3) (.pointer (some ⟨b, off + k * 3, none⟩)) rfl (by kernel_rfl) (by kernel_rfl) (by kernel_rfl) (by kernel_rfl) (fun _ _ _ h => h) HI0 (yldI rfl (fun W hW => by go_simp)) ?_
      refine anyI_take (i := 4) (.pointer (some ⟨b, off + k * 3, none⟩)) rfl (by kernel_rfl) (by kernel_rfl) (by kernel_rfl) (by kernel_rfl) (fun _ _ _ h => h) HI0 (yldI rfl (fun W hW => by go_simp)) ?_
      refine anyI_take (i := 5) (.int .i64 p.k) rfl (by kernel_rfl) (by kernel_rfl) (by kernel_rfl) (by kernel_rfl) (fun _ _ _ h => h) HI0 (yldI rfl (fun W hW => by rw [hI] at hW; obtain ⟨h1, h2, h3⟩ := hW; go_simp)) ?_
      refine anyI_take (i := 6) (.slice (some ⟨b, off, none⟩) ps.length cap) rfl (by kernel_rfl) (by kernel_rfl) (by kernel_rfl) (by kernel_rfl) (fun _ _ _ h => h) HI0 (yldI rfl (fun W hW => by go_simp)) ?_
      refine anyI_take (i := 7) (.int .i64 k) rfl (by kernel_rfl) (by kernel_rfl) (by kernel_rfl) (by kernel_rfl) (fun _ _ _ h => h) HI0 (yldI rfl (fun W hW => by go_simp)) ?_
      refine anyI_take (i := 8) (.pointer (some ⟨b, off + k * 3, none⟩)) rfl (by kernel_rfl) (by kernel_rfl) (by kernel_rfl) (by kernel_rfl) (fun _ _ _ h => h) HI0 (yldI rfl (fun W hW => by go_simp)) ?_
      refine anyI_take (i := 9) (.pointer (some ⟨b, off + k * 3 + 1, none⟩)) rfl (by kernel_rfl) (by kernel_rfl) (by kernel_rfl) (by kernel_rfl) (fun _ _ _ h => h) HI0 (yldI rfl (fun W hW => by go_simp)) ?_
      refine anyI_take (i := 10) (.slice ta p.t.length tcap) rfl (by kernel_rfl) (by kernel_rfl) (by kernel_rfl) (by kernel_rfl) (fun _ _ _ h => h) HI0 (yldI rfl (fun W hW => by rw [hI] at hW; obtain ⟨h1, h2, h3⟩ := hW; go_simp)) ?_
      refine anyI_take (i := 12) (.slice (some ⟨b, off, none⟩) ps.length cap) rfl (by kernel_rfl) (by kernel_rfl) (by kernel_rfl) (by kernel_rfl) (fun _ _ _ h => h) HI0 (yldI rfl (fun W hW => by go_simp)) ?_
      refine anyI_take (i := 13) (.int .i64 k) rfl (by kernel_rfl) (by kernel_rfl) (by kernel_rfl) (by kernel_rfl) (fun _ _ _ h => h) HI0 (yldI rfl (fun W hW => by go_simp)) ?_
      refine anyI_take (i := 14) (.pointer (some ⟨b, off + k * 3, none⟩)) rfl (by kernel_rfl) (by kernel_rfl) (by kernel_rfl) (by kernel_rfl) (fun _ _ _ h => h) HI0 (yldI rfl (fun W hW => by go_simp)) ?_
      refine anyI_take (i := 15) (.pointer (some ⟨b, off + k * 3 + 2, none⟩)) rfl (by kernel_rfl) (by kernel_rfl) (by kernel_rfl) (by kernel_rfl) (fun _ _ _ h => h) HI0 (yldI rfl (fun W hW => by go_simp)) ?_
      refine anyI_take (i := 16) (.int .i64 p.n) rfl (by kernel_rfl) (by kernel_rfl) (by kernel_rfl) (by kernel_rfl) (fun _ _ _ h => h) HI0 (yldI rfl (fun W hW => by rw [hI] at hW; obtain ⟨h1, h2, h3⟩ := hW; go_simp)) ?_
      generalize hG : Act.put _ _ _ = A0
      simp [Act.put] at hG
      subst hG
      refine anyI_one (i := 11) (by kernel_rfl) (wpOp_call rfl rfl (by go_simp) HC.out ?_)
      rintro e w1 ⟨v1, rfl, o1, g1⟩
      have HI1 : I w1 := by rw [hI]; exact ⟨(grown_trans gd g1).cell c0 (by simp), (grown_trans gd g1).cell c1 (by simp), (grown_trans gd g1).cell c2 (by simp)⟩
      refine ⟨_, rfl, .inr HI1, ?_⟩
      replace g1 := grown_trans gd g1
      have hs := g1.size
      have hw := hg.size
      have hlt1 : ∀ b, v1.ownBlock = some b → wr.heap.size ≤ b := fun b e => (World.ownsRow.lt o1 b e).1
      have hT1 : TxR w.heap.size w1 (Value.slice oa k oc).ownBlock v1 p.t := txR_of (row_base hw o1) (fun b e h => by have := (HO.out.lt b h.symm).2; have := hlt1 b e; omega)
      obtain ⟨v2, w2, hrun, ho2, g2, ⟨a2, c2', hv2⟩, _⟩ := (HO.out.keep g1).push p.k p.n v1 p.t (by omega) hT1 (by omega)
      rw [hlk] at hv2
      obtain ⟨a1, c1', hv1, _, _⟩ := o1.sl
      have HP2 : Hid (PoR w.heap.size w2 v2 (ps.take (k + 1))) := by unfold Hid; rw [HP.out]; exact ho2
      have HG : Hid (w.grownBy w2 none) := grown_new (grown_trans hg g1) g2 (fun j e => (HO.out.lt j e).1)
      have hbs : ∀ x, (Value.slice oa k oc).ownBlock = some x → some b ≠ some x := fun x e h => by cases h; have := (HO.out.lt b e).1; have := hzb; omega
      have HI2 : I (w1.alloc (Obj.cells #[.int .i64 p.k, v1, .int .i64 p.n] 156)) := by
        have g := World.grownBy_alloc w1 (Obj.cells #[.int .i64 p.k, v1, .int .i64 p.n] 156) none
        rw [hI] at HI1 ⊢; exact ⟨g.cell HI1.1 (by simp), g.cell HI1.2.1 (by simp), g.cell HI1.2.2 (by simp)⟩
      have HI3 : I w2 := by
        have hne : some b ≠ (Value.slice oa k oc).ownBlock := fun e => hbs b e.symm rfl
        rw [hI] at HI1 ⊢; exact ⟨g2.cell HI1.1 hne, g2.cell HI1.2.1 hne, g2.cell HI1.2.2 hne⟩
      subst hv1 hv2
      clear HC hT1 ho2 g2 o1 hlt1 HP c0 c1 c2 hbs
      refine anyI_one (i := 17) (by kernel_rfl) (wpOp_val (w' := w1) (v := .agg #[.int .i64 p.k, .slice a1 p.t.length c1', .int .i64 p.n]) rfl rfl (by go_simp) ⟨.inr HI1, ?_⟩)
      refine anyI_one (i := 18) (by kernel_rfl) (wpOp_val (w' := w1.alloc (Obj.cells #[.int .i64 p.k, .slice a1 p.t.length c1', .int .i64 p.n] 156)) (v := .slice (some ⟨w1.heap.size, 0, none⟩) 1 1) rfl rfl (by go_simp) ⟨.inr HI2, ?_⟩)
      refine anyI_one (i := 19) (by kernel_rfl) (wpOp_val (w' := w2) (v := .slice a2 (k + 1) c2') rfl rfl (by go_simp) ⟨.inr HI3, ?_⟩)
      refine anyI_one (i := 20) (by kernel_rfl) (wpOp_val (w' := w2) (v := .slice a2 (k + 1) c2') rfl rfl (by go_simp) ⟨.inr HI3, ?_⟩)
      refine anyI_done (by kernel_rfl) ?_ _
      subst hI
      go_wp2
      go_roundw
      case rel => exact ⟨k + 1, by omega, by go_num, HP2.out, HG.out⟩
      case measure => simp [intOf]; omega
    · have hkn : k = ps.length := by omega
      subst hkn
      rw [List.take_length] at ho
      go_wp2
      go_ret
      exact ⟨_, rfl, ho, hg⟩
end Go.Proofs.YtakkdniikhgpdaaGreatDoor

namespace Go.Proofs.YtakkdniikhgpdaaGreatDoor
open Go.RowKit
attribute [-go_sem] Builtin.append_

set_option maxHeartbeats 2000000 in
set_option maxRecDepth 100000 in
theorem l2un_any (kd n : Int) (v : Value) (ps : List Pc) (B : Nat) (w : World) (hv : PiR B w none v ps) (hn : mes ps ≤ 4194304) :
    Calls Tryz.prog 97 #[.int .i64 kd, v, .int .i64 n] w fun e w' => ∃ v', e = .returned v' ∧ PoR w.heap.size w' v' (ps ++ [⟨kd, [], n⟩]) ∧ w.grownBy w' none := by
  have HC := hide (l2copy_any v ps B w hv hn)
  have hl := mes_len ps
  obtain ⟨a, cap, hv0, _⟩ := id hv
  subst hv0
  clear hv
  go_enter Tryz.func97, Tryz.ntmps97
  go_wp2_with fail
  refine HC.out.mono ?_
  rintro e w1 ⟨v1, rfl, o1, g1⟩
  have hs := g1.size
  obtain ⟨v2, w2, hrun, ho2, g2, ⟨a2, c2, hv2⟩, _⟩ := o1.push kd n (.slice none 0 0) [] hs (TxR.nil _ _ _) (by omega)
  obtain ⟨a1, c1, hv1, _, _⟩ := o1.sl
  have HG : Hid (w.grownBy w2 none) := grown_new g1 g2 (fun j e => (o1.lt j e).1)
  have HO := hide ho2
  subst hv1 hv2
  clear HC o1 ho2 g2
  go_wp2
  go_ret
  exact ⟨_, rfl, HO.out, HG.out⟩

set_option maxHeartbeats 4000000 in
set_option maxRecDepth 100000 in
theorem l6row_any (v : Value) (dss : List (List Pc)) (B : Nat) (w : World) (hv : DiR B w none v dss) (hB : B ≤ w.heap.size) (hn : mess dss ≤ 4194304) :
    Calls Tryz.prog 98 #[v] w fun e w' => ∃ v', e = .returned v' ∧ PoR B w' v' (rowP dss) ∧ w.grownBy w' none := by
  have HV := hide hv
  obtain ⟨a, cap, hv0, hc1, hc2, hh⟩ := id hv
  subst hv0
  clear hv
  have hml := mess_len dss
  rcases dss with _ | ⟨ds, dss⟩
  · have HL := hide (l2leaf_any 0 w)
    simp only [List.length_nil]
    go_enter Tryz.func98, Tryz.ntmps98
    go_wp2_with fail
    refine HL.out.mono ?_
    rintro e w1 ⟨v1, rfl, o1, g1⟩
    have HO := hide (o1.base hB)
    obtain ⟨a1, c1, hv1, _, _⟩ := o1.sl
    subst hv1
    clear HL o1
    go_wp2
    go_ret
    exact ⟨_, rfl, HO.out, g1⟩
  · obtain ⟨b, off, rfl, hz, hc⟩ := hh (by simp)
    obtain ⟨u0, hu0, hd0⟩ := hc 0 ds rfl
    have HCC := hide hc
    have hmd : mes ds ≤ 4194304 := by have := mess_mem (ds :: dss) ds (by simp); omega
    have HC := hide (fun W (g : w.grownBy W none) => l2copy_any u0 ds B W (hd0.keep g) hmd)
    obtain ⟨ua, uc, hu, _, _⟩ := hd0.sl
    subst hu
    have hbs := hz.2.1
    clear hh hc hz hd0
    have hll : (ds :: dss).length = dss.length + 1 := rfl
    rw [hll] at *
    rw [Nat.add_zero] at hu0
    go_enter Tryz.func98, Tryz.ntmps98
    go_wp2_with fail
    refine (HC.out _ (World.grownBy.refl _ _)).mono ?_
    rintro e w1 ⟨v1, rfl, o1, g1⟩
    obtain ⟨a1, c1, hv1, _, _⟩ := o1.sl
    have HO := hide (o1.base hB)
    have HL1 := hide (fun x e => (o1.lt x e).1)
    subst hv1
    clear HC o1
    have HM := hide hn
    have hdl : dss.length ≤ 4194304 := by have h := mess_len dss; simp only [mess] at hn; omega
    clear hn hml
    go_wp2
    go_loopw [3, 4] (fun o i W => ∃ (k : Nat), k ≤ dss.length ∧ i = .int .i64 ((k : Int) + 1) ∧ PoR B W o (ds ++ rowT (dss.take k)) ∧ w.grownBy W none ∧ (∀ x, o.ownBlock = some x → w.heap.size ≤ x))
      (fun _ i _ => dss.length + 1 - (intOf i).toNat)
    case atStart => exact ⟨0, Nat.zero_le _, rfl, by simpa [rowT] using HO.out, g1, HL1.out⟩
    case round =>
      obtain ⟨k, hk, rfl, ho, hg, hx⟩ := hrel
      by_cases hlt : k < dss.length
      · obtain ⟨u, hu, hd⟩ := HCC.out (k + 1) dss[k] (by simp [hlt])
        have hu' := hg.cell hu (by simp)
        have hmk : mes dss[k] ≤ 4194304 := by have := mess_mem (ds :: dss) dss[k] (by simp); have := HM.out; omega
        have hlk := mes_len dss[k]
        have hto : (ds ++ rowT (dss.take k)).length ≤ 4194304 := by
          have h1 := mes_len (ds ++ rowT (dss.take k))
          rw [mes_app, mes_rowT] at h1
          have h2 := HM.out
          have h3 := mess_app (dss.take k) (dss.drop k)
          rw [List.take_append_drop] at h3
          simp only [mess] at h2
          omega
        obtain ⟨oa, oc, hov, _, _⟩ := ho.sl
        subst hov
        have hds := (hd.turn (Zo.on (Value.slice oa (ds ++ rowT (dss.take k)).length oc).ownBlock (Nat.le_refl _) (fun x e => .inr (hx x e)))).keep hg
        have hwz := hg.size
        obtain ⟨v2, w2, run2, ho2, g2, h2⟩ := append_pcs B wr _ u _ _ ho hds (by omega) (by omega)
        obtain ⟨a2, c2, hv2, _, _⟩ := ho2.sl
        have hg2 := grown_new hg g2 hx
        have hx2 : ∀ x, v2.ownBlock = some x → w.heap.size ≤ x := fun x e => by
          rcases h2 with h | h
          · exact hx x (by rw [← h]; exact e)
          · rw [h] at e; cases e; exact hwz
        have hwz2 := hg2.size
        obtain ⟨v3, w3, run3, ho3, g3, ⟨a3, c3, hv3⟩, h3⟩ := ho2.push 6 0 (.slice none 0 0) [] (by omega) (TxR.nil _ _ _) (by simp only [List.length_append] at hto ⊢; omega)
        have HO3 : Hid (PoR B w3 v3 (ds ++ rowT (dss.take (k + 1)))) := by
          have e : dss.take (k + 1) = dss.take k ++ [dss[k]] := by rw [List.take_add_one]; simp [hlt]
          unfold Hid
          rw [e, rowT_snoc]
          simpa [catP, List.append_assoc] using ho3
        have HG3 := hide (grown_new hg2 g3 hx2)
        have HX3 : Hid (∀ x, v3.ownBlock = some x → w.heap.size ≤ x) := fun x e => by
          rcases h3 x e with h | h
          · exact hx2 x h
          · omega
        obtain ⟨ua', uc', hu2, _, _⟩ := hds.sl
        subst hv2 hv3 hu2
        clear ho ho2 ho3 hds hd g2 g3 hx hx2 h2 h3 hu HCC HO HL1 hmk
        generalize (ds ++ rowT (List.take k dss) ++ dss[k]).length = L2 at *
        generalize (ds ++ rowT (List.take k dss)).length = L1 at *
        go_wp2
        go_roundw
        case rel => exact ⟨k + 1, by omega, by go_num, HO3.out, HG3.out, HX3.out⟩
        case measure => simp [intOf]; omega
      · have hkn : k = dss.length := by omega
        subst hkn
        rw [List.take_length] at ho
        obtain ⟨oa, oc, hov, _, _⟩ := ho.sl
        subst hov
        have HO1 := hide ho
        clear ho
        go_wp2
        go_ret
        exact ⟨_, rfl, HO1.out, hg⟩
end Go.Proofs.YtakkdniikhgpdaaGreatDoor

namespace Go.Proofs.YtakkdniikhgpdaaGreatDoor
open Go.RowKit

/-- Bytes in a row of one's own, or in a full row. -/
def Bw (B : Nat) (w : World) (v : Value) (zs : List Int) : Prop :=
  OwB B w v zs ∨ ∃ g, v = .slice (some ⟨g, 0, none⟩) zs.length zs.length ∧ B ≤ g ∧ g < w.heap.size ∧ zs.length ≤ 1000 ∧ ∀ j, j < zs.length → w.cell? ⟨g, j, none⟩ = some (.int .u8 (zs[j]?.getD 0))
theorem Bw.lt {B : Nat} {w : World} {v : Value} {zs : List Int} (h : Bw B w v zs) : ∀ k, v.ownBlock = some k → B ≤ k ∧ k < w.heap.size := by
  rcases h with h | ⟨g, rfl, h1, h2, _⟩
  · exact fun k e => World.ownsRow.lt h k e
  · intro k e; cases e; exact ⟨h1, h2⟩
theorem Bw.keep {B : Nat} {w w' : World} {v : Value} {zs : List Int} (h : Bw B w v zs) (g : w.grownBy w' none) : Bw B w' v zs := by
  rcases h with h | ⟨x, rfl, h1, h2, h3, h4⟩
  · exact .inl (h.later g)
  · exact .inr ⟨x, rfl, h1, Nat.lt_of_lt_of_le h2 g.size, h3, fun j hj => g.cell (h4 j hj) (by simp)⟩
theorem Bw.rd {B : Nat} {w : World} {v : Value} {zs : List Int} (h : Bw B w v zs) : RdB w.heap.size w v zs := by
  rcases h with h | ⟨g, rfl, h1, h2, h3, h4⟩
  · exact h.rd
  · exact ⟨_, _, rfl, fun _ => ⟨g, 0, rfl, h2, fun j hj => by rw [Nat.zero_add]; exact h4 j hj⟩⟩
theorem Bw.sl {B : Nat} {w : World} {v : Value} {zs : List Int} (h : Bw B w v zs) : Sl v zs.length := by
  rcases h with h | ⟨g, rfl, h1, h2, h3, h4⟩
  · exact h.sl
  · exact ⟨_, _, rfl, Nat.le_refl _, by unfold maxLen; omega⟩
theorem Bw.base {B B' : Nat} {w : World} {v : Value} {zs : List Int} (h : Bw B w v zs) (hB : B' ≤ B) : Bw B' w v zs := by
  rcases h with h | ⟨g, rfl, h1, h2, h3, h4⟩
  · exact .inl (row_base hB h)
  · exact .inr ⟨g, rfl, by omega, h2, h3, h4⟩
theorem Bw.nil (B : Nat) (w : World) : Bw B w (.slice none 0 0) [] := .inl ⟨by simp, .inl ⟨rfl, rfl⟩⟩

/-- 'append(v, t...)'. -/
theorem bw_app (B : Nat) (w : World) (v tv : Value) (ys t : List Int) (hown : Bw B w v ys) (hrd : RdB w.heap.size w tv t) (hB : B ≤ w.heap.size) (hn : ys.length + t.length ≤ 100000000000) :
    ∃ v' w', (Builtin.append_ #[22, 22] 22 #[v, tv]).run Tryz.prog w = .ok v' w' ∧ Bw B w' v' (ys ++ t) ∧ w.grownBy w' v.ownBlock ∧ (v'.ownBlock = v.ownBlock ∨ v'.ownBlock = some w.heap.size) := by
  rcases hown with hown | ⟨g, rfl, h1, h2, h3, h4⟩
  · obtain ⟨v', w', hr, ho, hg, hb⟩ := append_bytes B w.heap.size w v tv ys t hown hrd hB hn
    exact ⟨v', w', hr, .inl ho, hg, hb⟩
  · obtain ⟨i0, hi, hz0, hz1, hz2⟩ := info_parts info5
    obtain ⟨a, cap, htv, hr⟩ := hrd
    subst htv
    have ht := Tryz.underlying22
    by_cases h0 : t = []
    · subst h0
      refine ⟨_, w, ?_, by rw [List.append_nil]; exact .inr ⟨g, rfl, h1, h2, h3, h4⟩, World.grownBy.refl _ _, .inl rfl⟩
      cases a with
      | none => simp [Builtin.append_, run_underlying ht, sizeOf, typeInfo, hi, Builtin.lenOf, Builtin.firstCells, storeCells]
      | some ad => simp [Builtin.append_, run_underlying ht, sizeOf, typeInfo, hi, Builtin.lenOf, Builtin.firstCells, loadCells, loadCellsFrom, storeCells]
    · obtain ⟨b, off, rfl, hb, hc⟩ := hr h0
      have hlp : 0 < t.length := List.length_pos_iff.2 h0
      have hold : ∀ j u, (ys.map (Value.int .u8))[j]? = some u → w.cell? ((⟨g, 0, none⟩ : Addr).add j) = some u := by
        intro j u hj
        have hjl : j < ys.length := by have := (List.getElem?_eq_some_iff.1 hj).1; simpa using this
        rw [Addr.add_lit, Nat.zero_add, h4 j hjl]
        simpa [hjl] using hj
      have hnew : ∀ j u, (t.map (Value.int .u8))[j]? = some u → w.cell? ((⟨b, off, none⟩ : Addr).add j) = some u := by
        intro j u hj
        have hjl : j < t.length := by have := (List.getElem?_eq_some_iff.1 hj).1; simpa using this
        rw [Addr.add_lit, hc j hjl]
        simpa [hjl] using hj
      have hrun := run_append_grow (P := Tryz.prog) w 22 22 5 i0 (.int .u8 0) ht hi hz0 ⟨g, 0, none⟩ ys.length ys.length (ys.map (Value.int .u8)) (by rw [hz1]; simp) hold ⟨b, off, none⟩ t.length cap (t.map (Value.int .u8)) (by rw [hz1]; simp) hnew (by omega) (by omega) (growslice_fits (by omega) (by rw [hz2]; omega))
      refine ⟨_, _, hrun, .inl ?_, ?_, .inr rfl⟩
      · have hge := grownCap_ge w (ys.length + t.length) ys.length 5
        have hcm := grownCap_le_maxLen w (ys.length + t.length) ys.length 5 (by unfold maxLen; omega)
        refine ⟨by simp, .inr ⟨w.heap.size, _, _, by rw [List.length_append], hB, heap_alloc_new w.drew _, by simpa using hge, hcm, ?_, ?_⟩⟩
        · simp only [Array.size_append, List.size_toArray, size_zeroCells, List.length_map, Value.cells]
          simp
          omega
        · simp only [Array.toList_append, List.append_assoc]
          rw [← List.append_assoc, ← List.map_append]
          exact List.take_left' (by simp)
      · have gd : w.grownBy w.drew (Value.slice (some ⟨g, 0, none⟩) ys.length ys.length).ownBlock := ⟨rfl, rfl, rfl, Nat.le_refl _, fun _ _ _ => rfl⟩
        exact grown_trans gd (World.grownBy_alloc _ _ _)

/-- 'append(v, s...)' of a string's bytes. -/
theorem bw_str (B : Nat) (w : World) (v : Value) (ys wl : List Int) (hown : Bw B w v ys) (hwl : Bys wl) (hw0 : 0 < wl.length) (hB : B ≤ w.heap.size) (hn : ys.length + wl.length ≤ 100000000000) :
    ∃ v' w', (Builtin.append_ #[22, 9] 22 #[v, .string (strOfNums wl)]).run Tryz.prog w = .ok v' w' ∧ Bw B w' v' (ys ++ wl) ∧ w.grownBy w' v.ownBlock := by
  have hst : Lib.strCells (strOfNums wl) = wl.map (Value.int .u8) := by
    unfold Lib.strCells
    rw [strOfNums_data, List.map_map]
    refine List.map_congr_left fun z hz => ?_
    have := hwl z hz
    simp only [Function.comp, Value.int.injEq, true_and, UInt8.toNat_ofNat']
    omega
  have hsz := strOfNums_size wl
  obtain ⟨i0, hi, hz0, hz1, hz2⟩ := info_parts info5
  have ht := Tryz.underlying22
  have hu := Tryz.underlying9
  rcases hown with hown | ⟨g, rfl, h1, h2, h3, h4⟩
  · obtain ⟨v', w', hr, ho, hg, _⟩ := Lib.run_append_own_string (P := Tryz.prog) w B 22 9 22 5 i0 ht hu hi hz0 hz1 hz2 v ys.length _ hown (strOfNums wl) (by rw [hsz]; unfold maxLen; omega) (by rw [hsz]; omega) hB
    exact ⟨v', w', hr, .inl (by unfold OwB Ow; rw [hst, hsz] at ho; simpa using ho), hg⟩
  · have hold : ∀ j u, (ys.map (Value.int .u8))[j]? = some u → w.cell? ((⟨g, 0, none⟩ : Addr).add j) = some u := by
      intro j u hj
      have hjl : j < ys.length := by have := (List.getElem?_eq_some_iff.1 hj).1; simpa using this
      rw [Addr.add_lit, Nat.zero_add, h4 j hjl]
      simpa [hjl] using hj
    have hrun := Lib.run_append_grow_string (P := Tryz.prog) w 22 9 22 5 i0 (.int .u8 0) ht hu hi hz0 ⟨g, 0, none⟩ ys.length ys.length (ys.map (Value.int .u8)) (by rw [hz1]; simp) hold (strOfNums wl) (by rw [hsz]; omega) (by rw [hsz]; omega) (growslice_fits (by rw [hsz]; omega) (by rw [hz2, hsz]; omega))
    rw [hst, hsz] at hrun
    refine ⟨_, _, hrun, .inl ?_, ?_⟩
    · have hge := grownCap_ge w (ys.length + wl.length) ys.length 5
      have hcm := grownCap_le_maxLen w (ys.length + wl.length) ys.length 5 (by unfold maxLen; omega)
      refine ⟨by simp, .inr ⟨w.heap.size, _, _, by rw [List.length_append], hB, heap_alloc_new w.drew _, by simpa using hge, hcm, ?_, ?_⟩⟩
      · simp only [Array.size_append, List.size_toArray, size_zeroCells, List.length_map, Value.cells]
        simp
        omega
      · simp only [Array.toList_append, List.append_assoc]
        rw [← List.append_assoc, ← List.map_append]
        exact List.take_left' (by simp)
    · have gd : w.grownBy w.drew (Value.slice (some ⟨g, 0, none⟩) ys.length ys.length).ownBlock := ⟨rfl, rfl, rfl, Nat.le_refl _, fun _ _ _ => rfl⟩
      exact grown_trans gd (World.grownBy_alloc _ _ _)

/-- The row of a constant, just laid. -/
theorem bw_lit2 (w : World) (x y : Int) : Bw w.heap.size (w.alloc (Obj.cells #[.int .u8 x, .int .u8 y] 5 (2, 3))) (.slice (some ⟨w.heap.size, 0, none⟩) 2 2) [x, y] := by
  refine .inr ⟨w.heap.size, rfl, Nat.le_refl _, by simp, by simp, fun j hj => ?_⟩
  have := World.cell?_alloc_mark w #[.int .u8 x, .int .u8 y] 5 (2, 3) j
  rw [this]
  match j, hj with
  | 0, _ => rfl
  | 1, _ => rfl
end Go.Proofs.YtakkdniikhgpdaaGreatDoor

namespace Go.Proofs.YtakkdniikhgpdaaGreatDoor
open Go.RowKit
attribute [-go_sem] Builtin.append_

theorem raw_flat (x : List Int) : ∀ (L : List (List Int)), rawR (L ++ [x]) = (L.flatMap fun l => [textP l, leafP 5]) ++ [textP x]
  | [] => rfl
  | [l] => rfl
  | l :: m :: L => by
    have := raw_flat x (m :: L)
    simp only [List.cons_append] at this ⊢
    simp only [rawR, this]
    simp

set_option maxHeartbeats 4000000 in
set_option maxRecDepth 100000 in
theorem l6comment_line (t : List Int) (tv : Value) (w : World) (hv : RdB w.heap.size w tv t) (hs : Sl tv t.length) (hn : t.length ≤ 1048576) :
    Calls Tryz.prog 103 #[.agg #[.bool false, tv]] w fun e w' => ∃ v', e = .returned v' ∧ PoR w.heap.size w' v' (textP (47 :: 47 :: t)) ∧ w.grownBy w' none := by
  obtain ⟨a, cap, htv, hc1, hc2⟩ := hs
  subst htv
  obtain ⟨W, hW⟩ : ∃ W, W = w.alloc (Obj.cells #[.bool false, .slice a t.length cap] 127) := ⟨_, rfl⟩
  have gW : w.grownBy W none := by rw [hW]; exact World.grownBy_alloc _ _ _
  have sW : W.heap.size = w.heap.size + 1 := by rw [hW]; simp
  have kc := Lib.run_convert_bytes_const (P := Tryz.prog) W 22 5 #[.int .u8 47, .int .u8 47] 2 2 Tryz.underlying22 Tryz.underlying5
  obtain ⟨W2, hW2⟩ : ∃ W2, W2 = W.alloc (Obj.cells #[.int .u8 47, .int .u8 47] 5 (2, 3)) := ⟨_, rfl⟩
  have gW2 : W.grownBy W2 none := by rw [hW2]; exact World.grownBy_alloc _ _ _
  have hb2 : Bw W.heap.size W2 (.slice (some ⟨W.heap.size, 0, none⟩) 2 2) [47, 47] := by rw [hW2]; exact bw_lit2 W 47 47
  obtain ⟨v3, w3, run3, h3, g3, _⟩ := bw_app W.heap.size W2 _ (.slice a t.length cap) [47, 47] t hb2 (((hv.keep gW).keep gW2).wideC (Nat.le_trans gW.size gW2.size)) gW2.size (by simp; omega)
  have HC := hide (l6text_any v3 _ w3 h3.rd (by simp; omega))
  have HG : Hid (w.grownBy w3 none) := grown_trans gW (grown_new gW2 g3 (fun j e => by cases e; exact Nat.le_refl _))
  obtain ⟨a3, c3, hv3, _, _⟩ := h3.sl
  rw [sW] at kc run3
  subst hv3
  have c1 : W.cell? ⟨w.heap.size, 0, none⟩ = some (.bool false) := by rw [hW]; simp [go_sem]
  have c2 : W2.cell? ⟨w.heap.size, 1, none⟩ = some (.slice a t.length cap) := gW2.cell (by rw [hW]; simp [go_sem]) (by simp)
  subst hW2 hW
  clear hb2 h3 gW gW2 hv
  go_enter Tryz.func103, Tryz.ntmps103
  go_wp2_with fail
  refine HC.out.mono ?_
  rintro e w4 ⟨v4, rfl, o4, g4⟩
  have HO := hide (o4.base HG.out.size)
  obtain ⟨a4, c4, hv4, _, _⟩ := o4.sl
  subst hv4
  clear o4 HC run3 kc
  go_wp2
  go_ret
  exact ⟨_, rfl, HO.out, grown_trans HG.out g4⟩
end Go.Proofs.YtakkdniikhgpdaaGreatDoor

