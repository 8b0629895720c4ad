import Derived.Deep.AppendSrc
import Derived.Laws.IdiomCopy
import Derived.Laws.OwnMore
import Derived.Lib.Overlaps
import Derived.Test.YtakkdniikhgpdaaGreatDoorNAU
import Derived.Test.YtakkdniikhgpdaaGreatDoorNBB
import Derived.Test.YtakkdniikhgpdaaGreatDoorNBD
namespace Go.Proofs.YtakkdniikhgpdaaGreatDoor
open Go.RowKit

/-- A file's text cut, the number written first. -/
theorem OwF.cut2 {B : Nat} {w : World} {g cap : Nat} {L : List Fl} {k : Nat} {p : Fl} (h : OwF B w (.slice (some ⟨g, 0, none⟩) L.length cap) L) (hp : L[k]? = some p) (m : Nat) (hm : m ≤ p.d.length) (s' : Int) :
    ∃ a c, w.cell? ⟨g, k * 3 + 1, none⟩ = some (.slice a p.d.length c) ∧ w.cell? ⟨g, k * 3 + 2, none⟩ = some (.int .i64 p.s) ∧ w.frozen? ⟨g, k * 3 + 1, none⟩ = false ∧ w.frozen? ⟨g, k * 3 + 2, none⟩ = false ∧ p.d.length ≤ c ∧ c ≤ maxLen ∧ B ≤ g ∧ g < w.heap.size ∧
      OwF B ((w.setCell ⟨g, k * 3 + 2, none⟩ (.int .i64 s')).setCell ⟨g, k * 3 + 1, none⟩ (.slice a m c)) (.slice (some ⟨g, 0, none⟩) L.length cap) (L.set k ⟨p.n, p.d.take m, s'⟩) := by
  obtain ⟨xs, ho, ht⟩ := h
  obtain ⟨x, hx, c0, c1, c2⟩ := cellsF_at L xs k p ht.len hp
  obtain ⟨o1, o2, o3⟩ := ht.own k p x hp hx
  have hk := (List.getElem?_eq_some_iff.1 hp).1
  obtain ⟨a, c, hv, hlc, hcm, o2', hob⟩ := OwB.cut o2 m hm
  have hgl := World.ownsRow.lt ho g rfl
  refine ⟨a, c, ?_, ?_, World.ownsRow.frozenAt ho _, World.ownsRow.frozenAt ho _, hlc, hcm, hgl.1, hgl.2, ?_⟩
  · rw [World.ownsRow.cellAt ho (k * 3 + 1) (by omega), c1, hv]
  · rw [World.ownsRow.cellAt ho (k * 3 + 2) (by omega), c2]
  have hs1 := World.ownsRow.stored ho (k * 3 + 2) (.int .i64 s')
  have hs2 := World.ownsRow.stored hs1.1 (k * 3 + 1) (.slice a m c)
  have ht2 : TxF B w (some g) (L.set k ⟨p.n, p.d.take m, s'⟩) (xs.set k (x.1, .slice a m c)) := by
    refine ⟨by simp [ht.len], fun j q y hq hy => ?_, ?_⟩
    · by_cases hjk : k = j
      · subst hjk
        have hxl := (List.getElem?_eq_some_iff.1 hx).1
        simp [hk] at hq
        simp [hxl] at hy
        subst hq hy
        refine ⟨o1, o2', fun i hi => ⟨(o3 i hi).1, ?_⟩⟩
        show (Value.slice a m c).ownBlock ≠ some i
        rw [hob]; exact (o3 i hi).2
      · rw [List.getElem?_set_ne hjk] at hq hy
        exact ht.own j q y hq hy
    · rw [apt_map, pairs_own xs k x _ hx hob, ← apt_map]; exact ht.apart
  refine ⟨xs.set k (x.1, .slice a m c), ?_, (ht2.set _ _).set _ _⟩
  rw [List.length_set, cellsF_set L xs k _ x _ ht.len hx, List.set_comm _ _ (by omega)]
  exact hs2.1

set_option maxHeartbeats 8000000 in
set_option maxRecDepth 100000 in
theorem crash_any (h : Nat) (v : Value) (fs : List Fl) (keep : Int) (w : World) (B : Nat) (hc : w.cell? ⟨h, 0, none⟩ = some v) (hv : OwF B w v fs) (hhv : ∀ j, v.ownBlock = some j → j ≠ h) (hd : Fss fs) (hk0 : 0 ≤ keep) (hk2 : keep ≤ 9223372036854775807) (hval : validF fs = true) :
    Calls Tryz.prog 120 #[.pointer (some ⟨h, 0, none⟩), .int .i64 keep] w fun e w' => (∃ u, e = .returned u) ∧ w'.cell? ⟨h, 0, none⟩ = some v ∧ OwF B w' v (crashF keep fs) ∧ (∀ w0 : World, w0.grownBy w none → w0.heap.size ≤ B → w0.grownBy w' none) := by
  obtain ⟨a, cap, hv0, _⟩ := hv.rd
  have HS : Hid (∀ p ∈ fs, (0 ≤ p.s ∧ p.s ≤ (p.d.length : Int)) ∧ p.d.length ≤ 1048576) := fun p hp => ⟨valid_safe hval hp, (hd.tlen p hp).2⟩
  have hlen := hd.len
  have HO := hide hv
  subst hv0
  have HR := hide hhv
  clear hv hd hval hhv
  go_enter Tryz.func120, Tryz.ntmps120
  go_wp2
  go_loopw [11] (fun i wr => ∃ (k : Nat), k ≤ fs.length ∧ i = .int .i64 k ∧ wr.cell? ⟨h, 0, none⟩ = some (.slice a fs.length cap) ∧ Hid (∀ j, (Value.slice a fs.length cap).ownBlock = some j → j ≠ h) ∧ OwF B wr (.slice a fs.length cap) (crashF keep (fs.take k) ++ fs.drop k) ∧ Hid (∀ w0 : World, w0.grownBy w none → w0.heap.size ≤ B → w0.grownBy wr none)) (fun i _ => fs.length - (intOf i).toNat)
  case atStart => exact ⟨0, Nat.zero_le _, rfl, hc, HR, by simpa [crashF] using HO.out, fun w0 g _ => g⟩
  case round =>
    obtain ⟨k, hk, rfl, hoc, HRr, hown, HGW⟩ := hrel
    by_cases hlt : k < fs.length
    · obtain ⟨⟨hp0, hp2⟩, hp1⟩ := HS.out fs[k] (List.getElem_mem hlt)
      obtain ⟨g, rfl⟩ : ∃ g, a = some ⟨g, 0, none⟩ := by
        obtain ⟨xs, ho, _⟩ := hown
        rcases ho.2 with ⟨h', h2⟩ | ⟨g, cap', cur, h', _⟩
        · rw [crash_len] at h2; omega
        · simp only [Value.slice.injEq] at h'; exact ⟨g, h'.1⟩
      have hgh : g ≠ h := HR.out g rfl
      have hhg : h ≠ g := fun e => hgh e.symm
      obtain ⟨m, hm⟩ : ∃ m : Nat, (crashed keep fs[k]) = ⟨fs[k].n, fs[k].d.take m, m⟩ ∧ m ≤ fs[k].d.length ∧ (if (fs[k].d.length : Int) - fs[k].s > keep then (m : Int) = fs[k].s + keep else m = fs[k].d.length) := by
        by_cases hc : (fs[k].d.length : Int) - fs[k].s > keep
        · refine ⟨(fs[k].s + keep).toNat, ?_, by omega, ?_⟩
          · unfold crashed; rw [if_pos hc]
            rw [show (((fs[k].s + keep).toNat : Nat) : Int) = fs[k].s + keep by omega]
          · rw [if_pos hc]; omega
        · refine ⟨fs[k].d.length, ?_, Nat.le_refl _, ?_⟩
          · unfold crashed; rw [if_neg hc]; simp
          · rw [if_neg hc]
      obtain ⟨hm1, hm2, hm3⟩ := hm
      have hown' := hown
      rw [← crash_len keep fs k] at hown'
      obtain ⟨da, dc, c1, c2, f1, f2, hdc, hdm, hgB, hgs, ho2⟩ := hown'.cut2 (crash_at keep fs k hlt) m hm2 m
      rw [← hm1, crash_step keep fs k hlt, crash_len keep fs k] at ho2
      have HO2 := hide ho2
      have HGW2 : Hid (∀ w0 : World, w0.grownBy w none → w0.heap.size ≤ B → w0.grownBy ((wr.drew.setCell ⟨g, k * 3 + 2, none⟩ (.int .i64 m)).drew.setCell ⟨g, k * 3 + 1, none⟩ (.slice da m dc)) none) := fun w0 hw0 hB0 => by
        have g0 := HGW.out w0 hw0 hB0
        have g1 : w0.grownBy wr.drew none := grown_drewG g0
        have g2 := grown_drewG (grown_new g1 (grown_setF wr.drew ⟨g, k * 3 + 2, none⟩ (.int .i64 m)) (fun j e => by cases e; show _ ≤ g; omega))
        exact grown_new g2 (grown_setF _ ⟨g, k * 3 + 1, none⟩ (.slice da m dc)) (fun j e => by cases e; show _ ≤ g; omega)
      have hpl : (k : Int) < fs.length := by omega
      have hmc : m ≤ dc := by omega
      unfold maxLen at hdm
      have c1w : ∀ n, (wr.drewN n).cell? ⟨g, k * 3 + 1, none⟩ = some (.slice da fs[k].d.length dc) := fun _ => c1
      clear ho2 hown hown' hm1 HO
      generalize fs[k] = p at *
      by_cases hc : (p.d.length : Int) - p.s > keep
      · rw [if_pos hc] at hm3
        generalize p.s = ps at *
        obtain rfl : ps = (m : Int) - keep := by omega
        clear hm3
        have hc3 : keep < (p.d.length : Int) - ((m : Int) - keep) := hc
        go_wp2
        obtain ⟨I, hI⟩ : ∃ I : World → Prop, I = (fun W : World => W.cell? ⟨g, k * 3 + 2, none⟩ = some (.int .i64 ((m : Int) - keep)) ∧ W.cell? ⟨g, k * 3 + 1, none⟩ = some (.slice da p.d.length dc)) := ⟨_, rfl⟩
        have HI0 : I wr.drew := by rw [hI]; exact ⟨c2, c1⟩
        refine region_anyI I (fun i => i == 19) (by kernel_rfl) ?_
        show anyI _ _ _ _ _ _ 20 (Array.replicate 20 false) _ _
        refine anyI_take (i := 0) (.pointer (some ⟨g, k * 3, none⟩)) rfl (by kernel_rfl) (by kernel_rfl) (by kernel_rfl) (by kernel_rfl) (fun _ _ _ h => h) HI0 (yldI rfl (fun W hW => by rw [hI] at hW; obtain ⟨h1, h2⟩ := hW; go_simp)) ?_
        refine anyI_take (i := 1) (.pointer (some ⟨g, k * 3, none⟩)) rfl (by kernel_rfl) (by kernel_rfl) (by kernel_rfl) (by kernel_rfl) (fun _ _ _ h => h) HI0 (yldI rfl (fun W hW => by rw [hI] at hW; obtain ⟨h1, h2⟩ := hW; go_simp)) ?_
        refine anyI_take (i := 2) (.pointer (some ⟨g, k * 3 + 2, none⟩)) rfl (by kernel_rfl) (by kernel_rfl) (by kernel_rfl) (by kernel_rfl) (fun _ _ _ h => h) HI0 (yldI rfl (fun W hW => by rw [hI] at hW; obtain ⟨h1, h2⟩ := hW; go_simp)) ?_
        refine anyI_take (i := 3) (.int .i64 ((m : Int) - keep)) rfl (by kernel_rfl) (by kernel_rfl) (by kernel_rfl) (by kernel_rfl) (fun _ _ _ h => h) HI0 (yldI rfl (fun W hW => by rw [hI] at hW; obtain ⟨h1, h2⟩ := hW; go_simp)) ?_
        refine anyI_take (i := 4) (.int .i64 keep) rfl (by kernel_rfl) (by kernel_rfl) (by kernel_rfl) (by kernel_rfl) (fun _ _ _ h => h) HI0 (yldI rfl (fun W hW => by rw [hI] at hW; obtain ⟨h1, h2⟩ := hW; go_simp)) ?_
        refine anyI_take (i := 5) (.pointer (some ⟨g, k * 3, none⟩)) rfl (by kernel_rfl) (by kernel_rfl) (by kernel_rfl) (by kernel_rfl) (fun _ _ _ h => h) HI0 (yldI rfl (fun W hW => by rw [hI] at hW; obtain ⟨h1, h2⟩ := hW; go_simp)) ?_
        refine anyI_take (i := 6) (.pointer (some ⟨g, k * 3, none⟩)) rfl (by kernel_rfl) (by kernel_rfl) (by kernel_rfl) (by kernel_rfl) (fun _ _ _ h => h) HI0 (yldI rfl (fun W hW => by rw [hI] at hW; obtain ⟨h1, h2⟩ := hW; go_simp)) ?_
        refine anyI_take (i := 7) (.pointer (some ⟨g, k * 3 + 1, none⟩)) rfl (by kernel_rfl) (by kernel_rfl) (by kernel_rfl) (by kernel_rfl) (fun _ _ _ h => h) HI0 (yldI rfl (fun W hW => by rw [hI] at hW; obtain ⟨h1, h2⟩ := hW; go_simp)) ?_
        refine anyI_take (i := 8) (.slice da p.d.length dc) rfl (by kernel_rfl) (by kernel_rfl) (by kernel_rfl) (by kernel_rfl) (fun _ _ _ h => h) HI0 (yldI rfl (fun W hW => by rw [hI] at hW; obtain ⟨h1, h2⟩ := hW; go_simp)) ?_
        generalize hG : Act.put _ _ _ = A0
        simp [Act.put] at hG
        subst hG
        refine anyI_take (i := 9) (.int .i64 p.d.length) rfl (by kernel_rfl) (by kernel_rfl) (by kernel_rfl) (by kernel_rfl) (fun _ _ _ h => h) HI0 (yldI rfl (fun W hW => by rw [hI] at hW; obtain ⟨h1, h2⟩ := hW; go_simp)) ?_
        refine anyI_take (i := 10) (.pointer (some ⟨g, k * 3, none⟩)) rfl (by kernel_rfl) (by kernel_rfl) (by kernel_rfl) (by kernel_rfl) (fun _ _ _ h => h) HI0 (yldI rfl (fun W hW => by rw [hI] at hW; obtain ⟨h1, h2⟩ := hW; go_simp)) ?_
        refine anyI_take (i := 11) (.pointer (some ⟨g, k * 3, none⟩)) rfl (by kernel_rfl) (by kernel_rfl) (by kernel_rfl) (by kernel_rfl) (fun _ _ _ h => h) HI0 (yldI rfl (fun W hW => by rw [hI] at hW; obtain ⟨h1, h2⟩ := hW; go_simp)) ?_
        refine anyI_take (i := 12) (.pointer (some ⟨g, k * 3 + 2, none⟩)) rfl (by kernel_rfl) (by kernel_rfl) (by kernel_rfl) (by kernel_rfl) (fun _ _ _ h => h) HI0 (yldI rfl (fun W hW => by rw [hI] at hW; obtain ⟨h1, h2⟩ := hW; go_simp)) ?_
        refine anyI_take (i := 13) (.int .i64 ((m : Int) - keep)) rfl (by kernel_rfl) (by kernel_rfl) (by kernel_rfl) (by kernel_rfl) (fun _ _ _ h => h) HI0 (yldI rfl (fun W hW => by rw [hI] at hW; obtain ⟨h1, h2⟩ := hW; go_simp)) ?_
        refine anyI_take (i := 14) (.int .i64 (p.d.length - ((m : Int) - keep))) rfl (by kernel_rfl) (by kernel_rfl) (by kernel_rfl) (by kernel_rfl) (fun _ _ _ h => h) HI0 (yldI rfl (fun W hW => by rw [hI] at hW; obtain ⟨h1, h2⟩ := hW; go_simp; try (rw [IntKind.wrap_i64]; omega))) ?_
        refine anyI_take (i := 15) (.int .i64 keep) rfl (by kernel_rfl) (by kernel_rfl) (by kernel_rfl) (by kernel_rfl) (fun _ _ _ h => h) HI0 (yldI rfl (fun W hW => by rw [hI] at hW; obtain ⟨h1, h2⟩ := hW; go_simp; try (intro; omega))) ?_
        refine anyI_take (i := 16) (.int .i64 m) rfl (by kernel_rfl) (by kernel_rfl) (by kernel_rfl) (by kernel_rfl) (fun _ _ _ h => h) HI0 (yldI rfl (fun W hW => by rw [hI] at hW; obtain ⟨h1, h2⟩ := hW; go_simp; try (rw [IntKind.wrap_i64]; omega))) ?_
        generalize hG : Act.put _ _ _ = A0
        simp [Act.put] at hG
        subst hG
        refine anyI_one (i := 17) (by kernel_rfl) (wpOp_val (v := .pointer (some ⟨g, k * 3, none⟩)) rfl rfl (by go_simp) ⟨.inr HI0, ?_⟩)
        refine anyI_one (i := 18) (by kernel_rfl) (wpOp_val (v := .pointer (some ⟨g, k * 3 + 2, none⟩)) rfl rfl (by go_simp) ⟨.inr HI0, ?_⟩)
        refine anyI_one (i := 19) (by kernel_rfl) (wpOp_skip (w' := wr.drew.setCell ⟨g, k * 3 + 2, none⟩ (.int .i64 m)) rfl rfl (by go_simp) ⟨.inl rfl, ?_⟩)
        refine anyI_done (by kernel_rfl) ?_ _
        clear HI0
        subst hI
        go_wp2

        have c2w : wr.cell? ⟨g, k * 3 + 2, none⟩ = some (.int .i64 ((m : Int) - keep)) := c2
        obtain ⟨I, hI⟩ : ∃ I : World → Prop, I = (fun W : World => W.cell? ⟨g, k * 3 + 2, none⟩ = some (.int .i64 m) ∧ W.cell? ⟨g, k * 3 + 1, none⟩ = some (.slice da p.d.length dc)) := ⟨_, rfl⟩
        have HI0 : I (wr.drew.setCell ⟨g, k * 3 + 2, none⟩ (.int .i64 m)).drew := by rw [hI]; exact ⟨by simp [go_sem, c2w], by simp [go_sem]; exact c1⟩
        refine region_anyI I (fun i => i == 12) (by kernel_rfl) ?_
        show anyI _ _ _ _ _ _ 13 (Array.replicate 13 false) _ _
        refine anyI_take (i := 0) (.pointer (some ⟨g, k * 3, none⟩)) rfl (by kernel_rfl) (by kernel_rfl) (by kernel_rfl) (by kernel_rfl) (fun _ _ _ h => h) HI0 (yldI rfl (fun W hW => by rw [hI] at hW; obtain ⟨h1, h2⟩ := hW; go_simp)) ?_
        refine anyI_take (i := 1) (.pointer (some ⟨g, k * 3, none⟩)) rfl (by kernel_rfl) (by kernel_rfl) (by kernel_rfl) (by kernel_rfl) (fun _ _ _ h => h) HI0 (yldI rfl (fun W hW => by rw [hI] at hW; obtain ⟨h1, h2⟩ := hW; go_simp)) ?_
        refine anyI_take (i := 2) (.pointer (some ⟨g, k * 3, none⟩)) rfl (by kernel_rfl) (by kernel_rfl) (by kernel_rfl) (by kernel_rfl) (fun _ _ _ h => h) HI0 (yldI rfl (fun W hW => by rw [hI] at hW; obtain ⟨h1, h2⟩ := hW; go_simp)) ?_
        refine anyI_take (i := 3) (.pointer (some ⟨g, k * 3 + 1, none⟩)) rfl (by kernel_rfl) (by kernel_rfl) (by kernel_rfl) (by kernel_rfl) (fun _ _ _ h => h) HI0 (yldI rfl (fun W hW => by rw [hI] at hW; obtain ⟨h1, h2⟩ := hW; go_simp)) ?_
        refine anyI_take (i := 4) (.slice da p.d.length dc) rfl (by kernel_rfl) (by kernel_rfl) (by kernel_rfl) (by kernel_rfl) (fun _ _ _ h => h) HI0 (yldI rfl (fun W hW => by rw [hI] at hW; obtain ⟨h1, h2⟩ := hW; go_simp)) ?_
        refine anyI_take (i := 5) (.pointer (some ⟨g, k * 3, none⟩)) rfl (by kernel_rfl) (by kernel_rfl) (by kernel_rfl) (by kernel_rfl) (fun _ _ _ h => h) HI0 (yldI rfl (fun W hW => by rw [hI] at hW; obtain ⟨h1, h2⟩ := hW; go_simp)) ?_
        refine anyI_take (i := 6) (.pointer (some ⟨g, k * 3, none⟩)) rfl (by kernel_rfl) (by kernel_rfl) (by kernel_rfl) (by kernel_rfl) (fun _ _ _ h => h) HI0 (yldI rfl (fun W hW => by rw [hI] at hW; obtain ⟨h1, h2⟩ := hW; go_simp)) ?_
        refine anyI_take (i := 7) (.pointer (some ⟨g, k * 3 + 2, none⟩)) rfl (by kernel_rfl) (by kernel_rfl) (by kernel_rfl) (by kernel_rfl) (fun _ _ _ h => h) HI0 (yldI rfl (fun W hW => by rw [hI] at hW; obtain ⟨h1, h2⟩ := hW; go_simp)) ?_
        refine anyI_take (i := 8) (.int .i64 m) rfl (by kernel_rfl) (by kernel_rfl) (by kernel_rfl) (by kernel_rfl) (fun _ _ _ h => h) HI0 (yldI rfl (fun W hW => by rw [hI] at hW; obtain ⟨h1, h2⟩ := hW; go_simp)) ?_
        refine anyI_take (i := 9) (.slice da m dc) rfl (by kernel_rfl) (by kernel_rfl) (by kernel_rfl) (by kernel_rfl) (fun _ _ _ h => h) HI0 (yldI rfl (fun W hW => by rw [hI] at hW; obtain ⟨h1, h2⟩ := hW; go_simp)) ?_
        generalize hG : Act.put _ _ _ = A0
        simp [Act.put] at hG
        subst hG
        refine anyI_one (i := 10) (by kernel_rfl) (wpOp_val (v := .pointer (some ⟨g, k * 3, none⟩)) rfl rfl (by go_simp) ⟨.inr HI0, ?_⟩)
        refine anyI_one (i := 11) (by kernel_rfl) (wpOp_val (v := .pointer (some ⟨g, k * 3 + 1, none⟩)) rfl rfl (by go_simp) ⟨.inr HI0, ?_⟩)
        refine anyI_one (i := 12) (by kernel_rfl) (wpOp_skip (w' := (wr.drew.setCell ⟨g, k * 3 + 2, none⟩ (.int .i64 m)).drew.setCell ⟨g, k * 3 + 1, none⟩ (.slice da m dc)) rfl rfl (by go_simp) ⟨.inl rfl, ?_⟩)
        refine anyI_done (by kernel_rfl) ?_ _
        clear HI0
        subst hI
        go_wp2
        go_roundw
        case rel => exact ⟨k + 1, by omega, by go_num, by simp [go_sem, hoc], HR, HO2.out.later ⟨rfl, rfl, rfl, Nat.le_refl _, fun _ _ _ => rfl⟩, fun w0 hw0 hB0 => (HGW2.out w0 hw0 hB0)⟩
        case measure => simp [intOf]; omega

      · rw [if_neg hc] at hm3
        subst hm3
        have hc2 : (p.d.length : Int) - p.s ≤ keep := by omega
        clear hc
        go_wp2
        obtain ⟨I, hI⟩ : ∃ I : World → Prop, I = (fun W : World => W.cell? ⟨g, k * 3 + 2, none⟩ = some (.int .i64 p.s) ∧ W.cell? ⟨g, k * 3 + 1, none⟩ = some (.slice da p.d.length dc)) := ⟨_, rfl⟩
        have HI0 : I wr.drew := by rw [hI]; exact ⟨c2, c1⟩
        refine region_anyI I (fun i => i == 19) (by kernel_rfl) ?_
        show anyI _ _ _ _ _ _ 20 (Array.replicate 20 false) _ _
        refine anyI_take (i := 0) (.pointer (some ⟨g, k * 3, none⟩)) rfl (by kernel_rfl) (by kernel_rfl) (by kernel_rfl) (by kernel_rfl) (fun _ _ _ h => h) HI0 (yldI rfl (fun W hW => by rw [hI] at hW; obtain ⟨h1, h2⟩ := hW; go_simp)) ?_
        refine anyI_take (i := 1) (.pointer (some ⟨g, k * 3, none⟩)) rfl (by kernel_rfl) (by kernel_rfl) (by kernel_rfl) (by kernel_rfl) (fun _ _ _ h => h) HI0 (yldI rfl (fun W hW => by rw [hI] at hW; obtain ⟨h1, h2⟩ := hW; go_simp)) ?_
        refine anyI_take (i := 2) (.pointer (some ⟨g, k * 3 + 2, none⟩)) rfl (by kernel_rfl) (by kernel_rfl) (by kernel_rfl) (by kernel_rfl) (fun _ _ _ h => h) HI0 (yldI rfl (fun W hW => by rw [hI] at hW; obtain ⟨h1, h2⟩ := hW; go_simp)) ?_
        refine anyI_take (i := 3) (.int .i64 p.s) rfl (by kernel_rfl) (by kernel_rfl) (by kernel_rfl) (by kernel_rfl) (fun _ _ _ h => h) HI0 (yldI rfl (fun W hW => by rw [hI] at hW; obtain ⟨h1, h2⟩ := hW; go_simp)) ?_
        refine anyI_take (i := 4) (.int .i64 keep) rfl (by kernel_rfl) (by kernel_rfl) (by kernel_rfl) (by kernel_rfl) (fun _ _ _ h => h) HI0 (yldI rfl (fun W hW => by rw [hI] at hW; obtain ⟨h1, h2⟩ := hW; go_simp)) ?_
        refine anyI_take (i := 5) (.pointer (some ⟨g, k * 3, none⟩)) rfl (by kernel_rfl) (by kernel_rfl) (by kernel_rfl) (by kernel_rfl) (fun _ _ _ h => h) HI0 (yldI rfl (fun W hW => by rw [hI] at hW; obtain ⟨h1, h2⟩ := hW; go_simp)) ?_
        refine anyI_take (i := 6) (.pointer (some ⟨g, k * 3, none⟩)) rfl (by kernel_rfl) (by kernel_rfl) (by kernel_rfl) (by kernel_rfl) (fun _ _ _ h => h) HI0 (yldI rfl (fun W hW => by rw [hI] at hW; obtain ⟨h1, h2⟩ := hW; go_simp)) ?_
        refine anyI_take (i := 7) (.pointer (some ⟨g, k * 3 + 1, none⟩)) rfl (by kernel_rfl) (by kernel_rfl) (by kernel_rfl) (by kernel_rfl) (fun _ _ _ h => h) HI0 (yldI rfl (fun W hW => by rw [hI] at hW; obtain ⟨h1, h2⟩ := hW; go_simp)) ?_
        refine anyI_take (i := 8) (.slice da p.d.length dc) rfl (by kernel_rfl) (by kernel_rfl) (by kernel_rfl) (by kernel_rfl) (fun _ _ _ h => h) HI0 (yldI rfl (fun W hW => by rw [hI] at hW; obtain ⟨h1, h2⟩ := hW; go_simp)) ?_
        generalize hG : Act.put _ _ _ = A0
        simp [Act.put] at hG
        subst hG
        refine anyI_take (i := 9) (.int .i64 p.d.length) rfl (by kernel_rfl) (by kernel_rfl) (by kernel_rfl) (by kernel_rfl) (fun _ _ _ h => h) HI0 (yldI rfl (fun W hW => by rw [hI] at hW; obtain ⟨h1, h2⟩ := hW; go_simp)) ?_
        refine anyI_take (i := 10) (.pointer (some ⟨g, k * 3, none⟩)) rfl (by kernel_rfl) (by kernel_rfl) (by kernel_rfl) (by kernel_rfl) (fun _ _ _ h => h) HI0 (yldI rfl (fun W hW => by rw [hI] at hW; obtain ⟨h1, h2⟩ := hW; go_simp)) ?_
        refine anyI_take (i := 11) (.pointer (some ⟨g, k * 3, none⟩)) rfl (by kernel_rfl) (by kernel_rfl) (by kernel_rfl) (by kernel_rfl) (fun _ _ _ h => h) HI0 (yldI rfl (fun W hW => by rw [hI] at hW; obtain ⟨h1, h2⟩ := hW; go_simp)) ?_
        refine anyI_take (i := 12) (.pointer (some ⟨g, k * 3 + 2, none⟩)) rfl (by kernel_rfl) (by kernel_rfl) (by kernel_rfl) (by kernel_rfl) (fun _ _ _ h => h) HI0 (yldI rfl (fun W hW => by rw [hI] at hW; obtain ⟨h1, h2⟩ := hW; go_simp)) ?_
        refine anyI_take (i := 13) (.int .i64 p.s) rfl (by kernel_rfl) (by kernel_rfl) (by kernel_rfl) (by kernel_rfl) (fun _ _ _ h => h) HI0 (yldI rfl (fun W hW => by rw [hI] at hW; obtain ⟨h1, h2⟩ := hW; go_simp)) ?_
        refine anyI_take (i := 14) (.int .i64 (p.d.length - p.s)) rfl (by kernel_rfl) (by kernel_rfl) (by kernel_rfl) (by kernel_rfl) (fun _ _ _ h => h) HI0 (yldI rfl (fun W hW => by rw [hI] at hW; obtain ⟨h1, h2⟩ := hW; go_simp; try (rw [IntKind.wrap_i64]; omega))) ?_
        refine anyI_take (i := 15) (.int .i64 (p.d.length - p.s)) rfl (by kernel_rfl) (by kernel_rfl) (by kernel_rfl) (by kernel_rfl) (fun _ _ _ h => h) HI0 (yldI rfl (fun W hW => by rw [hI] at hW; obtain ⟨h1, h2⟩ := hW; go_simp; try (intro; omega))) ?_
        refine anyI_take (i := 16) (.int .i64 p.d.length) rfl (by kernel_rfl) (by kernel_rfl) (by kernel_rfl) (by kernel_rfl) (fun _ _ _ h => h) HI0 (yldI rfl (fun W hW => by rw [hI] at hW; obtain ⟨h1, h2⟩ := hW; go_simp; try (rw [IntKind.wrap_i64]; omega))) ?_
        generalize hG : Act.put _ _ _ = A0
        simp [Act.put] at hG
        subst hG
        refine anyI_one (i := 17) (by kernel_rfl) (wpOp_val (v := .pointer (some ⟨g, k * 3, none⟩)) rfl rfl (by go_simp) ⟨.inr HI0, ?_⟩)
        refine anyI_one (i := 18) (by kernel_rfl) (wpOp_val (v := .pointer (some ⟨g, k * 3 + 2, none⟩)) rfl rfl (by go_simp) ⟨.inr HI0, ?_⟩)
        refine anyI_one (i := 19) (by kernel_rfl) (wpOp_skip (w' := wr.drew.setCell ⟨g, k * 3 + 2, none⟩ (.int .i64 p.d.length)) rfl rfl (by go_simp) ⟨.inl rfl, ?_⟩)
        refine anyI_done (by kernel_rfl) ?_ _
        clear HI0
        subst hI
        go_wp2

        have c2w : wr.cell? ⟨g, k * 3 + 2, none⟩ = some (.int .i64 p.s) := c2
        obtain ⟨I, hI⟩ : ∃ I : World → Prop, I = (fun W : World => W.cell? ⟨g, k * 3 + 2, none⟩ = some (.int .i64 p.d.length) ∧ W.cell? ⟨g, k * 3 + 1, none⟩ = some (.slice da p.d.length dc)) := ⟨_, rfl⟩
        have HI0 : I (wr.drew.setCell ⟨g, k * 3 + 2, none⟩ (.int .i64 p.d.length)).drew := by rw [hI]; exact ⟨by simp [go_sem, c2w], by simp [go_sem]; exact c1⟩
        refine region_anyI I (fun i => i == 12) (by kernel_rfl) ?_
        show anyI _ _ _ _ _ _ 13 (Array.replicate 13 false) _ _
        refine anyI_take (i := 0) (.pointer (some ⟨g, k * 3, none⟩)) rfl (by kernel_rfl) (by kernel_rfl) (by kernel_rfl) (by kernel_rfl) (fun _ _ _ h => h) HI0 (yldI rfl (fun W hW => by rw [hI] at hW; obtain ⟨h1, h2⟩ := hW; go_simp)) ?_
        refine anyI_take (i := 1) (.pointer (some ⟨g, k * 3, none⟩)) rfl (by kernel_rfl) (by kernel_rfl) (by kernel_rfl) (by kernel_rfl) (fun _ _ _ h => h) HI0 (yldI rfl (fun W hW => by rw [hI] at hW; obtain ⟨h1, h2⟩ := hW; go_simp)) ?_
        refine anyI_take (i := 2) (.pointer (some ⟨g, k * 3, none⟩)) rfl (by kernel_rfl) (by kernel_rfl) (by kernel_rfl) (by kernel_rfl) (fun _ _ _ h => h) HI0 (yldI rfl (fun W hW => by rw [hI] at hW; obtain ⟨h1, h2⟩ := hW; go_simp)) ?_
        refine anyI_take (i := 3) (.pointer (some ⟨g, k * 3 + 1, none⟩)) rfl (by kernel_rfl) (by kernel_rfl) (by kernel_rfl) (by kernel_rfl) (fun _ _ _ h => h) HI0 (yldI rfl (fun W hW => by rw [hI] at hW; obtain ⟨h1, h2⟩ := hW; go_simp)) ?_
        refine anyI_take (i := 4) (.slice da p.d.length dc) rfl (by kernel_rfl) (by kernel_rfl) (by kernel_rfl) (by kernel_rfl) (fun _ _ _ h => h) HI0 (yldI rfl (fun W hW => by rw [hI] at hW; obtain ⟨h1, h2⟩ := hW; go_simp)) ?_
        refine anyI_take (i := 5) (.pointer (some ⟨g, k * 3, none⟩)) rfl (by kernel_rfl) (by kernel_rfl) (by kernel_rfl) (by kernel_rfl) (fun _ _ _ h => h) HI0 (yldI rfl (fun W hW => by rw [hI] at hW; obtain ⟨h1, h2⟩ := hW; go_simp)) ?_
        refine anyI_take (i := 6) (.pointer (some ⟨g, k * 3, none⟩)) rfl (by kernel_rfl) (by kernel_rfl) (by kernel_rfl) (by kernel_rfl) (fun _ _ _ h => h) HI0 (yldI rfl (fun W hW => by rw [hI] at hW; obtain ⟨h1, h2⟩ := hW; go_simp)) ?_
        refine anyI_take (i := 7) (.pointer (some ⟨g, k * 3 + 2, none⟩)) rfl (by kernel_rfl) (by kernel_rfl) (by kernel_rfl) (by kernel_rfl) (fun _ _ _ h => h) HI0 (yldI rfl (fun W hW => by rw [hI] at hW; obtain ⟨h1, h2⟩ := hW; go_simp)) ?_
        refine anyI_take (i := 8) (.int .i64 p.d.length) rfl (by kernel_rfl) (by kernel_rfl) (by kernel_rfl) (by kernel_rfl) (fun _ _ _ h => h) HI0 (yldI rfl (fun W hW => by rw [hI] at hW; obtain ⟨h1, h2⟩ := hW; go_simp)) ?_
        refine anyI_take (i := 9) (.slice da p.d.length dc) rfl (by kernel_rfl) (by kernel_rfl) (by kernel_rfl) (by kernel_rfl) (fun _ _ _ h => h) HI0 (yldI rfl (fun W hW => by rw [hI] at hW; obtain ⟨h1, h2⟩ := hW; go_simp)) ?_
        generalize hG : Act.put _ _ _ = A0
        simp [Act.put] at hG
        subst hG
        refine anyI_one (i := 10) (by kernel_rfl) (wpOp_val (v := .pointer (some ⟨g, k * 3, none⟩)) rfl rfl (by go_simp) ⟨.inr HI0, ?_⟩)
        refine anyI_one (i := 11) (by kernel_rfl) (wpOp_val (v := .pointer (some ⟨g, k * 3 + 1, none⟩)) rfl rfl (by go_simp) ⟨.inr HI0, ?_⟩)
        refine anyI_one (i := 12) (by kernel_rfl) (wpOp_skip (w' := (wr.drew.setCell ⟨g, k * 3 + 2, none⟩ (.int .i64 p.d.length)).drew.setCell ⟨g, k * 3 + 1, none⟩ (.slice da p.d.length dc)) rfl rfl (by go_simp) ⟨.inl rfl, ?_⟩)
        refine anyI_done (by kernel_rfl) ?_ _
        clear HI0
        subst hI
        go_wp2
        go_roundw
        case rel => exact ⟨k + 1, by omega, by go_num, by simp [go_sem, hoc], HR, HO2.out.later ⟨rfl, rfl, rfl, Nat.le_refl _, fun _ _ _ => rfl⟩, fun w0 hw0 hB0 => (HGW2.out w0 hw0 hB0)⟩
        case measure => simp [intOf]; omega

    · have hkn : k = fs.length := by omega
      subst hkn
      have HO2 : Hid (OwF B wr (.slice a fs.length cap) (crashF keep fs)) := by
        have := hown
        rw [List.take_length, List.drop_length, List.append_nil] at this
        exact this
      clear hown HO
      go_wp2
      go_end0
      exact ⟨⟨_, rfl⟩, hoc, HO2.out, HGW.out⟩

/-- The list's memory given away. -/
theorem state_any (h : Nat) (a : Option Addr) (n cap : Nat) (w : World) (hc : w.cell? ⟨h, 0, none⟩ = some (.slice a n cap)) :
    Calls Tryz.prog 44 #[.pointer (some ⟨h, 0, none⟩)] w fun e w' => e = .returned (.agg #[.slice a n cap]) ∧ w.grownBy w' none := by
  have hc2 := (World.grownBy_alloc w (Obj.cells #[.slice none 0 0] 25) none).cell hc (by simp)
  go_enter Tryz.func44, Tryz.ntmps44
  go_wp2
  refine bodyPost_ret (v := .agg #[.slice a n cap]) (by simp [results, Tryz.results44, go_sem]) rfl ?_
  exact ⟨rfl, World.grownBy_alloc _ _ _⟩

theorem closure_ok (h : Nat) (v : Value) (ka : Addr) (fs : List Fl) (keep : Int) (w : World) (B : Nat) (hka : w.cell? ka = some (.int .i64 keep)) (hc : w.cell? ⟨h, 0, none⟩ = some v) (hv : OwF B w v fs) (hhv : ∀ j, v.ownBlock = some j → j ≠ h) (hd : Fss fs) (hk0 : 0 ≤ keep) (hk2 : keep ≤ 9223372036854775807) (hval : validF fs = true) :
    Calls Tryz.prog 28 #[.iface 59 (.pointer (some ⟨h, 0, none⟩)), .pointer (some ka)] w fun e w' => e = .returned .nilIface ∧ w'.cell? ⟨h, 0, none⟩ = some v ∧ OwF B w' v (crashF keep fs) ∧ (∀ w0 : World, w0.grownBy w none → w0.heap.size ≤ B → w0.grownBy w' none) := by
  have HC := hide (crash_any h v fs keep w B hc hv hhv hd hk0 hk2 hval)
  have hk3 : ¬ keep < 0 := by omega
  clear hc hv hhv hd hval
  go_enter Tryz.func28, Tryz.ntmps28
  go_wp2_with fail
  refine HC.out.mono ?_
  rintro e w1 ⟨⟨u, rfl⟩, h1, h2, h3⟩
  have H1 := hide h1
  have H2 := hide h2
  have H3 := hide h3
  clear h1 h2 h3
  go_wp2
  go_ret
  exact ⟨rfl, H1.out, H2.out, H3.out⟩
theorem closure_bad (x : Value) (ka a0 : Addr) (keep : Int) (w : World) (hka : w.cell? ka = some (.int .i64 keep)) (h0 : w.cell? ⟨0, 0, none⟩ = some (Er a0)) (hk0 : keep < 0) :
    Calls Tryz.prog 28 #[x, .pointer (some ka)] w fun e w' => e = .returned (Er a0) ∧ w = w' := by
  go_enter Tryz.func28, Tryz.ntmps28
  go_wp2
  go_ret
  exact ⟨rfl, rfl⟩

end Go.Proofs.YtakkdniikhgpdaaGreatDoor

namespace Go.Proofs.YtakkdniikhgpdaaGreatDoor
open Go.RowKit

/-! A row of files whose cells move: what is copied, put between, taken out. -/

/-- A list with vs written over it from o on. -/
def setL (xs : List Value) : Nat → List Value → List Value
  | _, [] => xs
  | o, v :: r => setL (xs.set o v) (o + 1) r
theorem setL_len : ∀ (vs : List Value) (xs : List Value) (o : Nat), (setL xs o vs).length = xs.length
  | [], _, _ => rfl
  | v :: r, xs, o => by rw [setL, setL_len r]; simp
theorem setL_at : ∀ (vs : List Value) (xs : List Value) (o j : Nat), j < xs.length → (setL xs o vs)[j]? = if o ≤ j ∧ j < o + vs.length then vs[j - o]? else xs[j]?
  | [], xs, o, j, h => by simp [setL]; omega
  | v :: r, xs, o, j, h => by
    rw [setL, setL_at r _ _ _ (by simpa using h)]
    by_cases h1 : o = j
    · subst h1
      rw [if_neg (by omega), if_pos (by simp), List.getElem?_set_self h]
      simp
    · rw [List.getElem?_set_ne h1]
      by_cases h2 : o + 1 ≤ j ∧ j < o + 1 + r.length
      · rw [if_pos h2, if_pos (by simp; omega), show j - o = (j - (o + 1)) + 1 by omega]
        simp
      · rw [if_neg h2, if_neg (by simp; omega)]
theorem setL_mid {a b c d : List Value} (h : b.length = c.length) : setL (a ++ (b ++ d)) a.length c = a ++ (c ++ d) := by
  refine List.ext_getElem? fun j => ?_
  by_cases hj : j < (a ++ (b ++ d)).length
  · rw [setL_at _ _ _ _ hj]
    simp only [List.length_append] at hj
    by_cases h1 : a.length ≤ j
    · have r1 : (a ++ (c ++ d))[j]? = (c ++ d)[j - a.length]? := List.getElem?_append_right h1
      have r2 : (a ++ (b ++ d))[j]? = (b ++ d)[j - a.length]? := List.getElem?_append_right h1
      rw [r1, r2]
      by_cases h2 : j < a.length + c.length
      · rw [if_pos ⟨h1, h2⟩, List.getElem?_append_left (by omega)]
      · have r3 : (b ++ d)[j - a.length]? = d[j - a.length - b.length]? := List.getElem?_append_right (by omega)
        have r4 : (c ++ d)[j - a.length]? = d[j - a.length - c.length]? := List.getElem?_append_right (by omega)
        rw [if_neg (by omega), r3, r4, h]
    · rw [if_neg (by omega), List.getElem?_append_left (by omega), List.getElem?_append_left (by omega)]
  · rw [List.getElem?_eq_none (by rw [setL_len]; omega), List.getElem?_eq_none (by simp only [List.length_append] at hj ⊢; omega)]

section
variable {w : World} {B : Nat} {e : TypeId} {size g n cap : Nat}
theorem own_sets : ∀ (vs : List Value) (o : Nat) {w : World} {xs : List Value}, w.ownsRow B e size (.slice (some ⟨g, 0, none⟩) n cap) n xs → (w.setCells g o vs).ownsRow B e size (.slice (some ⟨g, 0, none⟩) n cap) n (setL xs o vs) ∧ w.grownBy (w.setCells g o vs) (some g)
  | [], _, w, xs, h => ⟨h, World.grownBy.refl _ _⟩
  | v :: r, o, w, xs, h => by
    have h1 := World.ownsRow.stored h o v
    have h2 := own_sets r (o + 1) h1.1
    exact ⟨h2.1, grown_trans h1.2 h2.2⟩
/-- The row of n elements, if there is room, is one of n + 1. -/
theorem own_more {xs : List Value} (h : w.ownsRow B e size (.slice (some ⟨g, 0, none⟩) n cap) n xs) (hc : n + 1 ≤ cap) : ∃ sp : List Value, sp.length = size ∧ w.ownsRow B e size (.slice (some ⟨g, 0, none⟩) (n + 1) cap) (n + 1) (xs ++ sp) := by
  rcases h.2 with ⟨h', _⟩ | ⟨g', cap', cur, h', hb, hg, hnc, hcm, hcs, ht⟩
  · simp at h'
  · simp only [Value.slice.injEq, Option.some.injEq, Addr.mk.injEq, and_true, true_and] at h'
    obtain ⟨rfl, rfl⟩ := h'
    have hl : (n + 1) * size ≤ cur.toList.length := by rw [Array.length_toList, hcs]; exact Nat.mul_le_mul_right _ hc
    have hs : cur.toList.take ((n + 1) * size) = xs ++ (cur.toList.drop (n * size)).take size := by
      rw [← ht, Nat.succ_mul, List.take_add]
    have hd : ((cur.toList.drop (n * size)).take size).length = size := by rw [List.length_take, List.length_drop, Nat.min_eq_left]; rw [Nat.succ_mul] at hl; omega
    exact ⟨_, hd, by rw [List.length_append, hd, h.1, Nat.succ_mul], .inr ⟨g, cap, cur, rfl, hb, hg, hc, hcm, hcs, hs⟩⟩
/-- .. and of fewer. -/
theorem own_less {xs : List Value} (h : w.ownsRow B e size (.slice (some ⟨g, 0, none⟩) n cap) n xs) {m : Nat} (hm : m ≤ n) : w.ownsRow B e size (.slice (some ⟨g, 0, none⟩) m cap) m (xs.take (m * size)) := by
  rcases h.2 with ⟨h', _⟩ | ⟨g', cap', cur, h', hb, hg, hnc, hcm, hcs, ht⟩
  · simp at h'
  · simp only [Value.slice.injEq, Option.some.injEq, Addr.mk.injEq, and_true, true_and] at h'
    obtain ⟨rfl, rfl⟩ := h'
    have hk : m * size ≤ n * size := Nat.mul_le_mul_right _ hm
    exact ⟨by rw [List.length_take, h.1, Nat.min_eq_left hk], .inr ⟨g, cap, cur, rfl, hb, hg, Nat.le_trans hm hnc, hcm, hcs, by rw [← ht, List.take_take, Nat.min_eq_left hk]⟩⟩
theorem own_some {xs : List Value} (h : w.ownsRow B e size (.slice (some ⟨g, 0, none⟩) n cap) n xs) (j : Nat) (hj : j < n * size) : (w.cell? ⟨g, j, none⟩).isSome = true := by
  rw [World.ownsRow.cellAt h j hj, List.getElem?_eq_getElem (by rw [h.1]; exact hj)]
  rfl
theorem own_cap {xs : List Value} (h : w.ownsRow B e size (.slice (some ⟨g, 0, none⟩) n cap) n xs) : n ≤ cap ∧ cap ≤ maxLen ∧ B ≤ g ∧ g < w.heap.size := by
  have hl := World.ownsRow.lt h g rfl
  rcases h.2 with ⟨h', _⟩ | ⟨g', cap', cur, h', hb, hg, hnc, hcm, hcs, ht⟩
  · simp at h'
  · simp only [Value.slice.injEq, Option.some.injEq, Addr.mk.injEq, and_true, true_and] at h'
    obtain ⟨rfl, rfl⟩ := h'
    exact ⟨hnc, hcm, hl.1, hl.2⟩
theorem own_shape {xs : List Value} (h : w.ownsRow B e size (.slice (some ⟨g, 0, none⟩) n cap) n xs) : w.shape? g = some (e, cap * size) := by
  rcases h.2 with ⟨h', _⟩ | ⟨g', cap', cur, h', hb, hg, hnc, hcm, hcs, ht⟩
  · simp at h'
  · simp only [Value.slice.injEq, Option.some.injEq, Addr.mk.injEq, and_true, true_and] at h'
    obtain ⟨rfl, rfl⟩ := h'
    unfold World.shape?
    rw [hg]
    simp [hcs]
end

/-- 'copy' of elements of three cells. -/
theorem run_copy3 (w : World) (ty b o dLen dCap : Nat) (a : Addr) (sLen sCap : Nat) (cs : List Value) (hn : cs.length = Nat.min sLen dLen * 3)
    (hsrc : ∀ j v, cs[j]? = some v → w.cell? (a.add j) = some v) (hc : ∀ j, j < cs.length → (w.cell? ⟨b, o + j, none⟩).isSome = true) (hf : ∀ j, j < cs.length → w.frozen? ⟨b, o + j, none⟩ = false) (h1 : ∀ v ∈ cs, v.oneCell' = true) :
    (Builtin.copy_ #[23, 23] ty #[.slice (some ⟨b, o, none⟩) dLen dCap, .slice (some a) sLen sCap]).run Tryz.prog w = .ok (goInt (Nat.min sLen dLen)) (w.setCells b o cs) := by
  have hl := run_loadCells_list (P := Tryz.prog) w a cs hsrc
  have hst := run_storeCells_cells (P := Tryz.prog) b o cs 0 w (by simpa using hc) (by simpa using hf) h1
  obtain ⟨i, hi, hi2⟩ := Option.map_eq_some_iff.1 infoFl
  have hi3 : i.size = 3 := by simp only [Prod.mk.injEq] at hi2; exact hi2.2.1
  simp [Builtin.copy_, run_underlying Tryz.underlying23, Builtin.lenOf, Builtin.firstCells, sizeOf, typeInfo, hi, hi3, ← hn, hl, hst]
end Go.Proofs.YtakkdniikhgpdaaGreatDoor

