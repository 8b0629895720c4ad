import Derived.Test.YthcjmmpkgljjhaaGreatDoorMAG
import Derived.Test.YthcjmmpkgljjhaaGreatDoorMBH
import Derived.Test.YthcjmmpkgljjhaaGreatDoorMBL
namespace Go.Proofs.YthcjmmpkgljjhaaGreatDoor
open Go.RowKit
attribute [-go_sem] Builtin.append_

/-- 'append(v, c)' of one comment, whose two cells lie in a block of their own. -/
theorem append_cm (B : Nat) (w : World) (v : Value) (n : Nat) (xs : List Value) (b : Nat) (x : Bool) (a : Option Addr) (l c : Nat) (hown : w.ownsRow B 64 2 v n xs)
    (h0 : w.cell? ⟨b, 0, none⟩ = some (.bool x)) (h1 : w.cell? ⟨b, 1, none⟩ = some (.slice a l c)) (hB : B ≤ w.heap.size) (hn : n ≤ 100000000) :
    ∃ v' w', (Builtin.append_ #[28, 28] 28 #[v, .slice (some ⟨b, 0, none⟩) 1 1]).run Tryz.prog w = .ok v' w' ∧ w'.ownsRow B 64 2 v' (n + 1) (xs ++ [.bool x, .slice a l c]) ∧ w.grownBy w' v.ownBlock ∧ ∃ a cap, v' = .slice a (n + 1) cap := by
  obtain ⟨i0, hi, hz0, hz1, hz2⟩ := info_parts infoCm
  have hnews : ∀ j u, ([.bool x, .slice a l c] : List Value)[j]? = some u → w.cell? ((⟨b, 0, none⟩ : Addr).add j) = some u := by
    intro j u hj
    rw [Addr.add_lit, Nat.zero_add]
    match j, hj with
    | 0, hj => simp at hj; subst hj; exact h0
    | 1, hj => simp at hj; subst hj; exact h1
    | j + 2, hj => simp at hj
  obtain ⟨v', w', hrun, h3, h4, _, h5⟩ := run_append_own_at (P := Tryz.prog) w B 28 28 64 i0 (.agg #[.bool false, .slice none 0 0]) 2 32 Tryz.underlying28 hi hz0 hz1 hz2 rfl (by decide) v n xs hown ⟨b, 0, none⟩ 1 1 [.bool x, .slice a l c] rfl hnews
      (by intro u hu; simp at hu; rcases hu with rfl | rfl <;> rfl) (by unfold maxLen; omega) (by omega) hB
  refine ⟨v', w', hrun, h3, h4, ?_⟩
  rcases h3.2 with ⟨hv, hn⟩ | ⟨g, cap, cur, hv, _⟩
  · omega
  · exact ⟨_, cap, hv⟩

theorem row_slice {B : Nat} {w : World} {e : TypeId} {size n : Nat} {v : Value} {xs : List Value} (h : w.ownsRow B e size v n xs) : ∃ a cap, v = .slice a n cap := by
  rcases h.2 with ⟨hv, hn⟩ | ⟨g, cap, cur, hv, _⟩
  · exact ⟨none, 0, by rw [hv, hn]⟩
  · exact ⟨_, cap, hv⟩

set_option maxHeartbeats 8000000 in
set_option maxRecDepth 100000 in
theorem l5join_any (v : Value) (cs : List Cm) (w : World) (hv : RdC w.heap.size w v cs) (hn : cs.length ≤ 1048576) (ht : ∀ c ∈ cs, c.t.length ≤ 1048576) :
    Calls Tryz.prog 33 #[v, .slice none 0 0] w fun e w' => (∃ a n c, e = .returned (.slice a n c)) ∧ w.grownBy w' none := by
  obtain ⟨a, cap, hv0, _⟩ := id hv
  have HV := hide hv
  have HT := hide ht
  subst hv0
  clear hv ht
  go_enter Tryz.func33, Tryz.ntmps33
  go_wp2
  go_loopw [5, 6] (fun o i W => ∃ (k : Nat) (xs : List Value), k ≤ cs.length ∧ i = .int .i64 k ∧ W.ownsRow w.heap.size 64 2 o k xs ∧ w.grownBy W none) (fun _ i _ => cs.length - (intOf i).toNat)
  case atStart => exact ⟨0, [], Nat.zero_le _, rfl, ⟨by simp, .inl ⟨rfl, rfl⟩⟩, World.grownBy.refl _ _⟩
  case round =>
    obtain ⟨k, xs, hk, rfl, hrow, hgr⟩ := hrel
    obtain ⟨oa, oc, rfl⟩ := row_slice hrow
    by_cases hlt : k < cs.length
    · obtain ⟨b, off, cap', tv, hva, hb, hp⟩ := (HV.out.keep hgr).at k hlt
      cases hva
      have z0 := hp.k; have z1 := hp.t
      have hpt := HT.out _ (List.getElem_mem hlt)
      obtain ⟨ta, tc, htv, _, _⟩ := id hp.sl
      subst htv
      have g0 : wr.grownBy wr.drew none := ⟨rfl, rfl, rfl, Nat.le_refl _, fun _ _ _ => rfl⟩
      obtain ⟨v1, w1, run1, o1, g1, _⟩ := append_bytes wr.drew.heap.size wr.drew.heap.size wr.drew (.slice none 0 0) _ [] cs[k].t ⟨by simp, .inl ⟨rfl, rfl⟩⟩ ((hp.rd.keep g0).now) (Nat.le_refl _) (by simp; omega)
      have g1' : wr.drew.grownBy w1 none := g1
      simp only [List.nil_append] at o1
      obtain ⟨a1, c1, hv1, _⟩ := o1.rd
      subst hv1
      obtain ⟨W3, hW3⟩ : ∃ W3, W3 = w1.alloc (Obj.cells #[.bool cs[k].b, .slice a1 cs[k].t.length c1] 64) := ⟨_, rfl⟩
      have g3 : w1.grownBy W3 none := by rw [hW3]; exact World.grownBy_alloc _ _ _
      have g03 := grown_trans (grown_trans g0 g1') g3
      obtain ⟨v3, w4, run3, hrow4, g4, a3, c3, hv3⟩ := append_cm w.heap.size W3 (.slice oa k oc) k xs w1.heap.size cs[k].b a1 cs[k].t.length c1 (World.ownsRow.kept hrow g03 (by cases (Value.slice oa k oc).ownBlock <;> simp)) (by rw [hW3]; simp [go_sem]) (by rw [hW3]; simp [go_sem]) (by have := hgr.size; have := g03.size; omega) (by omega)
      subst hv3
      have HEND : Hid (w4.ownsRow w.heap.size 64 2 (.slice a3 (k + 1) c3) (k + 1) (xs ++ [.bool cs[k].b, .slice a1 cs[k].t.length c1]) ∧ w.grownBy w4 none) := ⟨hrow4, grown_new (grown_trans hgr g03) g4 (fun j e => (World.ownsRow.lt hrow j e).1)⟩
      have C1 := hide (l1copy_exact _ _ _ _ _ _ run1)
      obtain ⟨I, hI⟩ : ∃ I : World → Prop, I = (fun W : World => W.cell? ⟨b, off + k * 2, none⟩ = some (.bool cs[k].b) ∧ W.cell? ⟨b, off + k * 2 + 1, none⟩ = some (.slice ta cs[k].t.length tc)) := ⟨_, rfl⟩
      have HI0 : I wr.drew := by rw [hI]; exact ⟨g0.cell z0 (by simp), g0.cell z1 (by simp)⟩
      have hIg : ∀ {W W' : World} {r : Option Nat}, I W → W.grownBy W' r → r ≠ some b → I W' := by
        intro W W' r h g hr
        rw [hI] at h ⊢
        exact ⟨g.cell h.1 (Ne.symm hr), g.cell h.2 (Ne.symm hr)⟩
      have HI1 := hIg HI0 g1' (by simp)
      have HI3 := hIg HI1 g3 (by simp)
      have HI4 := hIg HI3 g4 (fun e => by have := (World.ownsRow.lt hrow b e).1; omega)
      clear hIg
      subst hW3
      clear hrow4 hrow o1 g0 g1 g1' g3 g4 g03 run1 hp hpt HT HV hgr
      generalize cs[k] = p at *
      have hkl : (k : Int) < cs.length := by omega
      go_wp2
      refine region_anyI I (fun _ => false) (by kernel_rfl) ?_
      show anyI _ _ _ _ _ _ 16 (Array.replicate 16 false) _ _
      refine anyI_take (i := 0) (.slice oa k oc) rfl (by kernel_rfl) (by kernel_rfl) (by kernel_rfl) (by kernel_rfl) (fun _ _ _ h => h) HI0 (yldI rfl (fun W hW => by go_simp)) ?_
      refine anyI_take (i := 1) (.slice (some ⟨b, off, none⟩) cs.length cap) rfl (by kernel_rfl) (by kernel_rfl) (by kernel_rfl) (by kernel_rfl) (fun _ _ _ h => h) HI0 (yldI rfl (fun W hW => by go_simp)) ?_
      refine anyI_take (i := 2) (.int .i64 k) rfl (by kernel_rfl) (by kernel_rfl) (by kernel_rfl) (by kernel_rfl) (fun _ _ _ h => h) HI0 (yldI rfl (fun W hW => by go_simp)) ?_
      refine anyI_take (i := 3) (.pointer (some ⟨b, off + k * 2, none⟩)) rfl (by kernel_rfl) (by kernel_rfl) (by kernel_rfl) (by kernel_rfl) (fun _ _ _ h => h) HI0 (yldI rfl (fun W hW => by go_simp)) ?_
      refine anyI_take (i := 4) (.pointer (some ⟨b, off + k * 2, none⟩)) rfl (by kernel_rfl) (by kernel_rfl) (by kernel_rfl) (by kernel_rfl) (fun _ _ _ h => h) HI0 (yldI rfl (fun W hW => by go_simp)) ?_
      refine anyI_take (i := 5) (.bool p.b) rfl (by kernel_rfl) (by kernel_rfl) (by kernel_rfl) (by kernel_rfl) (fun _ _ _ h => h) HI0 (yldI rfl (fun W hW => by rw [hI] at hW; obtain ⟨h1, h2⟩ := hW; go_simp)) ?_
      refine anyI_take (i := 6) (.slice (some ⟨b, off, none⟩) cs.length cap) rfl (by kernel_rfl) (by kernel_rfl) (by kernel_rfl) (by kernel_rfl) (fun _ _ _ h => h) HI0 (yldI rfl (fun W hW => by go_simp)) ?_
      refine anyI_take (i := 7) (.int .i64 k) rfl (by kernel_rfl) (by kernel_rfl) (by kernel_rfl) (by kernel_rfl) (fun _ _ _ h => h) HI0 (yldI rfl (fun W hW => by go_simp)) ?_
      refine anyI_take (i := 8) (.pointer (some ⟨b, off + k * 2, none⟩)) rfl (by kernel_rfl) (by kernel_rfl) (by kernel_rfl) (by kernel_rfl) (fun _ _ _ h => h) HI0 (yldI rfl (fun W hW => by go_simp)) ?_
      refine anyI_take (i := 9) (.pointer (some ⟨b, off + k * 2 + 1, none⟩)) rfl (by kernel_rfl) (by kernel_rfl) (by kernel_rfl) (by kernel_rfl) (fun _ _ _ h => h) HI0 (yldI rfl (fun W hW => by go_simp)) ?_
      refine anyI_take (i := 10) (.slice ta p.t.length tc) rfl (by kernel_rfl) (by kernel_rfl) (by kernel_rfl) (by kernel_rfl) (fun _ _ _ h => h) HI0 (yldI rfl (fun W hW => by rw [hI] at hW; obtain ⟨h1, h2⟩ := hW; go_simp)) ?_
      generalize hG : Act.put _ _ _ = A0
      simp [Act.put] at hG
      subst hG
      refine anyI_one (i := 11) (by kernel_rfl) (wpOp_call rfl rfl (by go_simp) C1.out ?_)
      rintro e w5 ⟨rfl, rfl⟩
      refine ⟨_, rfl, .inr HI1, ?_⟩
      refine anyI_one (i := 12) (by kernel_rfl) (wpOp_val (v := .agg #[.bool p.b, .slice a1 p.t.length c1]) rfl rfl (by go_simp) ⟨.inr HI1, ?_⟩)
      refine anyI_one (i := 13) (by kernel_rfl) (wpOp_val (v := .slice (some ⟨w1.heap.size, 0, none⟩) 1 1) rfl rfl (by go_simp) ⟨.inr HI3, ?_⟩)
      refine anyI_one (i := 14) (by kernel_rfl) (wpOp_val (v := .slice a3 (k + 1) c3) rfl rfl (by go_simp) ⟨.inr HI4, ?_⟩)
      refine anyI_one (i := 15) (by kernel_rfl) (wpOp_val (v := .slice a3 (k + 1) c3) rfl rfl (by go_simp) ⟨.inr HI4, ?_⟩)
      refine anyI_done (by kernel_rfl) ?_ _
      clear HI0 HI1 HI3 HI4 C1 run3
      subst hI
      go_wp2
      go_roundw
      case rel => exact ⟨k + 1, _, by omega, by go_num, HEND.out.1, HEND.out.2⟩
      case measure => simp [intOf]; omega
    · have HG := hide hgr
      clear HT HV hgr hrow
      go_wp2
      refine wp_loop_rounds 1 ?_
      rw [rounds_succ]
      go_wp2
      go_ret
      exact ⟨⟨_, _, _, rfl⟩, HG.out⟩
end Go.Proofs.YthcjmmpkgljjhaaGreatDoor

