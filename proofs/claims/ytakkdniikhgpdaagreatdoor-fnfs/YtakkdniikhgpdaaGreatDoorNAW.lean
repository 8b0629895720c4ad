import Derived.Test.YtakkdniikhgpdaaGreatDoorMAM
import Derived.Test.YtakkdniikhgpdaaGreatDoorNAU
namespace Go.Proofs.YtakkdniikhgpdaaGreatDoor
open Go.RowKit
attribute [-go_sem] Builtin.append_

theorem row_cutF {B : Nat} {w : World} {e : TypeId} {size n m : Nat} {g cap : Nat} {xs : List Value} (h : w.ownsRow B e size (.slice (some ⟨g, 0, none⟩) n cap) n xs) (hm : m ≤ n) :
    w.ownsRow B e size (.slice (some ⟨g, 0, none⟩) m cap) m (xs.take (m * size)) := by
  rcases h.2 with ⟨h', _⟩ | ⟨g', cap', cur, h', hb, hg, hnc, hcm, hcs, htake⟩
  · simp at h'
  · simp only [Value.slice.injEq, Option.some.injEq, Addr.mk.injEq, and_true, true_and] at h'
    obtain ⟨rfl, rfl⟩ := h'
    have hle : m * size ≤ n * size := Nat.mul_le_mul_right _ hm
    refine ⟨by rw [List.length_take, h.1]; omega, .inr ⟨g, cap, cur, rfl, hb, hg, by omega, hcm, hcs, ?_⟩⟩
    rw [← htake, List.take_take, Nat.min_eq_left hle]

/-- A text of one's own, cut. -/
theorem OwB.cut {B : Nat} {w : World} {v : Value} {zs : List Int} (h : OwB B w v zs) (m : Nat) (hm : m ≤ zs.length) : ∃ a c, v = .slice a zs.length c ∧ zs.length ≤ c ∧ c ≤ maxLen ∧ OwB B w (.slice a m c) (zs.take m) ∧ (Value.slice a m c).ownBlock = v.ownBlock := by
  rcases h.2 with ⟨hv, hn⟩ | ⟨g, cap, cur, hv, hb, hg, hnc, hcm, hcs, ht⟩
  · have hz : zs = [] := List.length_eq_zero_iff.1 hn
    subst hz
    have hm0 : m = 0 := by simpa using hm
    subst hm0
    exact ⟨none, 0, hv, Nat.le_refl _, by unfold maxLen; omega, ⟨by simp, .inl ⟨rfl, rfl⟩⟩, by rw [hv]⟩
  · refine ⟨some ⟨g, 0, none⟩, cap, hv, hnc, hcm, ?_, by rw [hv]; rfl⟩
    have h' : w.ownsRow B 5 1 (.slice (some ⟨g, 0, none⟩) zs.length cap) zs.length (zs.map (Value.int .u8)) := by rw [← hv]; exact h
    have := row_cutF h' hm
    unfold OwB Ow
    rw [List.length_take_of_le hm, List.map_take]
    simpa using this

theorem cellsF_set : ∀ (L : List Fl) (xs : List (Value × Value)) (k : Nat) (p' : Fl) (x : Value × Value) (u : Value), xs.length = L.length → xs[k]? = some x → cellsF (L.set k p') (xs.set k (x.1, u)) = ((cellsF L xs).set (k * 3 + 1) u).set (k * 3 + 2) (.int .i64 p'.s)
  | p :: ps, y :: ys, 0, p', x, u, h, hx => by simp at hx; subst hx; rfl
  | p :: ps, y :: ys, k + 1, p', x, u, h, hx => by
    have := cellsF_set ps ys k p' x u (by simpa using h) (by simpa using hx)
    rw [List.set_cons_succ, List.set_cons_succ]
    show y.1 :: y.2 :: Value.int .i64 p.s :: cellsF _ _ = _
    rw [this, show (k + 1) * 3 + 1 = k * 3 + 1 + 1 + 1 + 1 by omega, show (k + 1) * 3 + 2 = k * 3 + 2 + 1 + 1 + 1 by omega]
    rfl
  | [], [], _, _, _, _, _, hx => by simp at hx
  | [], _ :: _, _, _, _, _, h, _ => by simp at h
  | _ :: _, [], _, _, _, _, h, _ => by simp at h

theorem pairs_own : ∀ (xs : List (Value × Value)) (k : Nat) (x : Value × Value) (u : Value), xs[k]? = some x → u.ownBlock = x.2.ownBlock → (pairs (xs.set k (x.1, u))).map Value.ownBlock = (pairs xs).map Value.ownBlock
  | y :: ys, 0, x, u, hx, hu => by simp at hx; subst hx; simp [pairs, hu]
  | y :: ys, k + 1, x, u, hx, hu => by
    have := pairs_own ys k x u (by simpa using hx) hu
    simp only [pairs, List.set_cons_succ, List.flatMap_cons, List.map_append] at this ⊢
    rw [this]
  | [], _, _, _, hx, _ => by simp at hx
theorem apt_map (l : List Value) : l.Pairwise Apt ↔ (l.map Value.ownBlock).Pairwise (fun a b => ∀ g, a = some g → b ≠ some g) := by
  rw [List.pairwise_map]; rfl

/-- The data of one file cut, its Safe set. -/
theorem OwF.cut {B : Nat} {w : World} {g cap : Nat} {L : List Fl} {k : Nat} {p : Fl} (h : OwF B w (.slice (some ⟨g, 0, none⟩) L.length cap) L) (hp : L[k]? = some p) (m : Nat) (hm : m ≤ p.d.length) (s' : Int) :
    ∃ a c, w.cell? ⟨g, k * 3 + 1, none⟩ = some (.slice a p.d.length c) ∧ w.cell? ⟨g, k * 3 + 2, none⟩ = some (.int .i64 p.s) ∧ w.frozen? ⟨g, k * 3 + 1, none⟩ = false ∧ w.frozen? ⟨g, k * 3 + 2, none⟩ = false ∧ p.d.length ≤ c ∧ c ≤ maxLen ∧
      OwF B ((w.setCell ⟨g, k * 3 + 1, none⟩ (.slice a m c)).setCell ⟨g, k * 3 + 2, none⟩ (.int .i64 s')) (.slice (some ⟨g, 0, none⟩) L.length cap) (L.set k ⟨p.n, p.d.take m, s'⟩) := by
  obtain ⟨xs, ho, ht⟩ := h
  obtain ⟨x, hx, c0, c1, c2⟩ := cellsF_at L xs k p ht.len hp
  obtain ⟨o1, o2, o3⟩ := ht.own k p x hp hx
  have hk := (List.getElem?_eq_some_iff.1 hp).1
  obtain ⟨a, c, hv, hlc, hcm, o2', hob⟩ := OwB.cut o2 m hm
  refine ⟨a, c, ?_, ?_, World.ownsRow.frozenAt ho _, World.ownsRow.frozenAt ho _, hlc, hcm, ?_⟩
  · rw [World.ownsRow.cellAt ho (k * 3 + 1) (by omega), c1, hv]
  · rw [World.ownsRow.cellAt ho (k * 3 + 2) (by omega), c2]
  have hs1 := World.ownsRow.stored ho (k * 3 + 1) (.slice a m c)
  have hs2 := World.ownsRow.stored hs1.1 (k * 3 + 2) (.int .i64 s')
  have ht2 : TxF B w (some g) (L.set k ⟨p.n, p.d.take m, s'⟩) (xs.set k (x.1, .slice a m c)) := by
    refine ⟨by simp [ht.len], fun j q y hq hy => ?_, ?_⟩
    · by_cases hjk : k = j
      · subst hjk
        have hxl := (List.getElem?_eq_some_iff.1 hx).1
        simp [hk] at hq
        simp [hxl] at hy
        subst hq hy
        refine ⟨o1, o2', fun i hi => ⟨(o3 i hi).1, ?_⟩⟩
        show (Value.slice a m c).ownBlock ≠ some i
        rw [hob]; exact (o3 i hi).2
      · rw [List.getElem?_set_ne hjk] at hq hy
        exact ht.own j q y hq hy
    · rw [apt_map, pairs_own xs k x _ hx hob, ← apt_map]; exact ht.apart
  refine ⟨xs.set k (x.1, .slice a m c), ?_, (ht2.set _ _).set _ _⟩
  rw [List.length_set, cellsF_set L xs k _ x _ ht.len hx]
  exact hs2.1

theorem crash_step (keep : Int) (fs : List Fl) (k : Nat) (hk : k < fs.length) : (crashF keep (fs.take k) ++ fs.drop k).set k (crashed keep fs[k]) = crashF keep (fs.take (k + 1)) ++ fs.drop (k + 1) := by
  have hl : (crashF keep (fs.take k)).length = k := by simp [crashF]; omega
  have e1 : crashF keep (fs.take (k + 1)) = crashF keep (fs.take k) ++ [crashed keep fs[k]] := by
    rw [List.take_add_one, List.getElem?_eq_getElem hk]; unfold crashF; rw [List.map_append]; rfl
  rw [e1, List.set_append_right _ _ (by omega), show k - (crashF keep (fs.take k)).length = 0 by omega, List.drop_eq_getElem_cons hk, List.set_cons_zero, List.append_assoc]
  rfl
theorem crash_at (keep : Int) (fs : List Fl) (k : Nat) (hk : k < fs.length) : (crashF keep (fs.take k) ++ fs.drop k)[k]? = some fs[k] := by
  have hl : (crashF keep (fs.take k)).length = k := by simp [crashF]; omega
  rw [List.getElem?_append_right (by omega), hl, List.drop_eq_getElem_cons hk]; simp
theorem crash_len (keep : Int) (fs : List Fl) (k : Nat) : (crashF keep (fs.take k) ++ fs.drop k).length = fs.length := by
  simp [crashF]; omega
theorem valid_safe {fs : List Fl} (h : validF fs = true) {p : Fl} (hp : p ∈ fs) : 0 ≤ p.s ∧ p.s ≤ (p.d.length : Int) := by
  obtain ⟨k, hk, rfl⟩ := List.getElem_of_mem hp
  unfold validF at h
  rw [Bool.and_eq_true, List.all_eq_true] at h
  have := h.2 k (by simpa using hk)
  cases k with
  | zero => rw [okAt_zero hk, okF, Bool.and_eq_true] at this; simpa using this.2
  | succ j => rw [okAt_succ hk, okF, Bool.and_eq_true, Bool.and_eq_true] at this; simpa using this.1.2

set_option maxHeartbeats 8000000 in
set_option maxRecDepth 100000 in
theorem l7crash_any (v : Value) (fs : List Fl) (keep : Int) (w : World) (hv : RdF w.heap.size w v fs) (hd : Fss fs) (hk0 : 0 ≤ keep) (hk2 : keep ≤ 9223372036854775807) (hval : validF fs = true) :
    Calls Tryz.prog 25 #[.agg #[v], .int .i64 keep] w fun e w' => ∃ v', e = .returned (.agg #[v']) ∧ OwF w.heap.size w' v' (crashF keep fs) ∧ w.grownBy w' none := by
  obtain ⟨a, cap, hv0, _⟩ := id hv
  have HCp : Hid (∀ w', w.grownBy w' none → Calls Tryz.prog 43 #[.agg #[v]] w' fun e w'' => ∃ v', e = .returned (.agg #[v']) ∧ OwF w'.heap.size w'' v' fs ∧ w'.grownBy w'' none) := fun w' g => l7copy_any v fs w' (hv.now g) hd.len hd.tlen
  have HS : Hid (∀ p ∈ fs, (0 ≤ p.s ∧ p.s ≤ (p.d.length : Int)) ∧ p.d.length ≤ 1048576) := fun p hp => ⟨valid_safe hval hp, (hd.tlen p hp).2⟩
  have hlen := hd.len
  subst hv0
  clear hv hd hval
  go_enter Tryz.func25, Tryz.ntmps25
  go_wp2_with fail
  have CX0 := hide (FsCtx.start w (.slice a fs.length cap))
  refine (HCp.out _ CX0.out.g).mono ?_
  rintro e w1 ⟨rv, rfl, o1, g1⟩
  obtain ⟨ra, rcap, hrv, _⟩ := o1.rd
  subst hrv
  have CX := hide (CX0.out.later g1)
  have HO : Hid (OwF (w.heap.size + 2) w1 (.slice ra fs.length rcap) fs) := o1.base (by simp)
  have hs1 := CX.out.s
  clear o1 g1 CX0
  go_wp2
  go_loopw [6] (fun i wr => ∃ (k : Nat), k ≤ fs.length ∧ i = .int .i64 k ∧ Hid (FsCtx w wr (.slice a fs.length cap)) ∧ w1.heap.size < wr.heap.size ∧ wr.cell? ⟨w1.heap.size, 0, none⟩ = some (.slice ra fs.length rcap) ∧ Hid (∀ j, (Value.slice ra fs.length rcap).ownBlock = some j → j < w1.heap.size ∧ w.heap.size + 2 ≤ j) ∧ OwF (w.heap.size + 2) wr (.slice ra fs.length rcap) (crashF keep (fs.take k) ++ fs.drop k)) (fun i _ => fs.length - (intOf i).toNat)
  case atStart =>
    refine ⟨0, Nat.zero_le _, rfl, CX.out.later (World.grownBy_alloc _ _ _), by simp, by simp [go_sem], ?_, by simpa [crashF] using HO.out.later (World.grownBy_alloc _ _ _)⟩
    obtain ⟨xs, ho, _⟩ := HO.out
    intro j hj
    have := World.ownsRow.lt ho j hj
    omega
  case round =>
    obtain ⟨k, hk, rfl, HX, hsz, hoc, HR, hown⟩ := hrel
    by_cases hlt : k < fs.length
    · obtain ⟨⟨hp0, hp2⟩, hp1⟩ := HS.out fs[k] (List.getElem_mem hlt)
      -- the row is there
      obtain ⟨g, rfl⟩ : ∃ g, ra = some ⟨g, 0, none⟩ := by
        obtain ⟨xs, ho, _⟩ := hown
        rcases ho.2 with ⟨h', h2⟩ | ⟨g, cap', cur, h', _⟩
        · rw [crash_len] at h2; omega
        · simp only [Value.slice.injEq] at h'; exact ⟨g, h'.1⟩
      have hg := HR.out g rfl
      obtain ⟨m, hm⟩ : ∃ m : Nat, (crashed keep fs[k]) = ⟨fs[k].n, fs[k].d.take m, m⟩ ∧ m ≤ fs[k].d.length ∧ (if (fs[k].d.length : Int) - fs[k].s > keep then (m : Int) = fs[k].s + keep else m = fs[k].d.length) := by
        by_cases hc : (fs[k].d.length : Int) - fs[k].s > keep
        · refine ⟨(fs[k].s + keep).toNat, ?_, by omega, ?_⟩
          · unfold crashed; rw [if_pos hc]
            rw [show (((fs[k].s + keep).toNat : Nat) : Int) = fs[k].s + keep by omega]
          · rw [if_pos hc]; omega
        · refine ⟨fs[k].d.length, ?_, Nat.le_refl _, ?_⟩
          · unfold crashed; rw [if_neg hc]; simp
          · rw [if_neg hc]
      obtain ⟨hm1, hm2, hm3⟩ := hm
      have hown' := hown
      rw [← crash_len keep fs k] at hown'
      obtain ⟨da, dc, c1, c2, f1, f2, hdc, hdm, ho2⟩ := hown'.cut (crash_at keep fs k hlt) m hm2 m
      rw [← hm1, crash_step keep fs k hlt, crash_len keep fs k] at ho2
      obtain ⟨ea, ec, c1d, _⟩ := (hown'.cut (crash_at keep fs k hlt) m hm2 m)
      have e1 : ea = da ∧ ec = dc := by have := c1d.symm.trans c1; simpa using this
      have HX2 : Hid (FsCtx w ((wr.setCell ⟨g, k * 3 + 1, none⟩ (.slice da m dc)).setCell ⟨g, k * 3 + 2, none⟩ (.int .i64 m)) (.slice a fs.length cap)) := (HX.out.high _ _ hg.2).high _ _ hg.2
      have HO2 := hide ho2
      have hne : g ≠ w1.heap.size := by omega
      have hne' : w1.heap.size ≠ g := by omega
      have hpl : (k : Int) < fs.length := by omega
      have hmc : m ≤ dc := by omega
      unfold maxLen at hdm
      have c1w : ∀ n, (wr.drewN n).cell? ⟨g, k * 3 + 1, none⟩ = some (.slice da fs[k].d.length dc) := fun _ => c1
      clear ho2 hown hown' c1d e1 hm1
      generalize fs[k] = p at *
      by_cases hc : (p.d.length : Int) - p.s > keep
      · rw [if_pos hc] at hm3
        generalize p.s = ps at *
        obtain rfl : ps = (m : Int) - keep := by omega
        clear hm3
        go_wp2
        obtain ⟨I, hI⟩ : ∃ I : World → Prop, I = (fun W : World => W.cell? ⟨w1.heap.size, 0, none⟩ = some (.slice (some ⟨g, 0, none⟩) fs.length rcap) ∧ W.cell? ⟨g, k * 3 + 1, none⟩ = some (.slice da p.d.length dc)) := ⟨_, rfl⟩
        have HI0 : I wr.drew := by rw [hI]; exact ⟨hoc, c1⟩
        refine region_anyI I (fun i => i == 13) (by kernel_rfl) ?_
        show anyI _ _ _ _ _ _ 14 (Array.replicate 14 false) _ _
        refine anyI_take (i := 0) (.pointer (some ⟨w1.heap.size, 0, none⟩)) rfl (by kernel_rfl) (by kernel_rfl) (by kernel_rfl) (by kernel_rfl) (fun _ _ _ h => h) HI0 (yldI rfl (fun W hW => by go_simp)) ?_
        refine anyI_take (i := 1) (.slice (some ⟨g, 0, none⟩) fs.length rcap) rfl (by kernel_rfl) (by kernel_rfl) (by kernel_rfl) (by kernel_rfl) (fun _ _ _ h => h) HI0 (yldI rfl (fun W hW => by rw [hI] at hW; obtain ⟨h1, h2⟩ := hW; go_simp)) ?_
        refine anyI_take (i := 2) (.int .i64 k) rfl (by kernel_rfl) (by kernel_rfl) (by kernel_rfl) (by kernel_rfl) (fun _ _ _ h => h) HI0 (yldI rfl (fun W hW => by go_simp)) ?_
        refine anyI_take (i := 3) (.pointer (some ⟨w1.heap.size, 0, none⟩)) rfl (by kernel_rfl) (by kernel_rfl) (by kernel_rfl) (by kernel_rfl) (fun _ _ _ h => h) HI0 (yldI rfl (fun W hW => by go_simp)) ?_
        refine anyI_take (i := 4) (.slice (some ⟨g, 0, none⟩) fs.length rcap) rfl (by kernel_rfl) (by kernel_rfl) (by kernel_rfl) (by kernel_rfl) (fun _ _ _ h => h) HI0 (yldI rfl (fun W hW => by rw [hI] at hW; obtain ⟨h1, h2⟩ := hW; go_simp)) ?_
        refine anyI_take (i := 5) (.int .i64 k) rfl (by kernel_rfl) (by kernel_rfl) (by kernel_rfl) (by kernel_rfl) (fun _ _ _ h => h) HI0 (yldI rfl (fun W hW => by go_simp)) ?_
        refine anyI_take (i := 6) (.pointer (some ⟨g, k * 3, none⟩)) rfl (by kernel_rfl) (by kernel_rfl) (by kernel_rfl) (by kernel_rfl) (fun _ _ _ h => h) HI0 (yldI rfl (fun W hW => by go_simp)) ?_
        refine anyI_take (i := 7) (.pointer (some ⟨g, k * 3 + 1, none⟩)) rfl (by kernel_rfl) (by kernel_rfl) (by kernel_rfl) (by kernel_rfl) (fun _ _ _ h => h) HI0 (yldI rfl (fun W hW => by go_simp)) ?_
        refine anyI_take (i := 8) (.slice da p.d.length dc) rfl (by kernel_rfl) (by kernel_rfl) (by kernel_rfl) (by kernel_rfl) (fun _ _ _ h => h) HI0 (yldI rfl (fun W hW => by rw [hI] at hW; obtain ⟨h1, h2⟩ := hW; go_simp)) ?_
        refine anyI_take (i := 9) (.int .i64 m) rfl (by kernel_rfl) (by kernel_rfl) (by kernel_rfl) (by kernel_rfl) (fun _ _ _ h => h) HI0 (yldI rfl (fun W hW => by go_simp)) ?_
        refine anyI_take (i := 10) (.slice da m dc) rfl (by kernel_rfl) (by kernel_rfl) (by kernel_rfl) (by kernel_rfl) (fun _ _ _ h => h) HI0 (yldI rfl (fun W hW => by go_simp)) ?_
        refine anyI_one (i := 11) (by kernel_rfl) (wpOp_val (v := .pointer (some ⟨g, k * 3, none⟩)) rfl rfl (by go_simp) ⟨.inr HI0, ?_⟩)
        refine anyI_one (i := 12) (by kernel_rfl) (wpOp_val (v := .pointer (some ⟨g, k * 3 + 1, none⟩)) rfl rfl (by go_simp) ⟨.inr HI0, ?_⟩)
        refine anyI_one (i := 13) (by kernel_rfl) (wpOp_skip (w' := wr.drew.setCell ⟨g, k * 3 + 1, none⟩ (.slice da m dc)) rfl rfl (by go_simp) ⟨.inl rfl, ?_⟩)
        refine anyI_done (by kernel_rfl) ?_ _
        go_wp2
        go_roundw
        case rel => exact ⟨k + 1, by omega, by go_num, hide (HX2.out.later ⟨rfl, rfl, rfl, Nat.le_refl _, fun _ _ _ => rfl⟩), by simpa using hsz, by simp [go_sem, hoc], HR, HO2.out.later ⟨rfl, rfl, rfl, Nat.le_refl _, fun _ _ _ => rfl⟩⟩
        case measure => simp [intOf]; omega
      · rw [if_neg hc] at hm3
        subst hm3
        have hc2 : (p.d.length : Int) - p.s ≤ keep := by omega
        clear hc
        go_wp2
        obtain ⟨I, hI⟩ : ∃ I : World → Prop, I = (fun W : World => W.cell? ⟨w1.heap.size, 0, none⟩ = some (.slice (some ⟨g, 0, none⟩) fs.length rcap) ∧ W.cell? ⟨g, k * 3 + 1, none⟩ = some (.slice da p.d.length dc)) := ⟨_, rfl⟩
        have HI0 : I wr.drew := by rw [hI]; exact ⟨hoc, c1⟩
        refine region_anyI I (fun i => i == 13) (by kernel_rfl) ?_
        show anyI _ _ _ _ _ _ 14 (Array.replicate 14 false) _ _
        refine anyI_take (i := 0) (.pointer (some ⟨w1.heap.size, 0, none⟩)) rfl (by kernel_rfl) (by kernel_rfl) (by kernel_rfl) (by kernel_rfl) (fun _ _ _ h => h) HI0 (yldI rfl (fun W hW => by go_simp)) ?_
        refine anyI_take (i := 1) (.slice (some ⟨g, 0, none⟩) fs.length rcap) rfl (by kernel_rfl) (by kernel_rfl) (by kernel_rfl) (by kernel_rfl) (fun _ _ _ h => h) HI0 (yldI rfl (fun W hW => by rw [hI] at hW; obtain ⟨h1, h2⟩ := hW; go_simp)) ?_
        refine anyI_take (i := 2) (.int .i64 k) rfl (by kernel_rfl) (by kernel_rfl) (by kernel_rfl) (by kernel_rfl) (fun _ _ _ h => h) HI0 (yldI rfl (fun W hW => by go_simp)) ?_
        refine anyI_take (i := 3) (.pointer (some ⟨w1.heap.size, 0, none⟩)) rfl (by kernel_rfl) (by kernel_rfl) (by kernel_rfl) (by kernel_rfl) (fun _ _ _ h => h) HI0 (yldI rfl (fun W hW => by go_simp)) ?_
        refine anyI_take (i := 4) (.slice (some ⟨g, 0, none⟩) fs.length rcap) rfl (by kernel_rfl) (by kernel_rfl) (by kernel_rfl) (by kernel_rfl) (fun _ _ _ h => h) HI0 (yldI rfl (fun W hW => by rw [hI] at hW; obtain ⟨h1, h2⟩ := hW; go_simp)) ?_
        refine anyI_take (i := 5) (.int .i64 k) rfl (by kernel_rfl) (by kernel_rfl) (by kernel_rfl) (by kernel_rfl) (fun _ _ _ h => h) HI0 (yldI rfl (fun W hW => by go_simp)) ?_
        refine anyI_take (i := 6) (.pointer (some ⟨g, k * 3, none⟩)) rfl (by kernel_rfl) (by kernel_rfl) (by kernel_rfl) (by kernel_rfl) (fun _ _ _ h => h) HI0 (yldI rfl (fun W hW => by go_simp)) ?_
        refine anyI_take (i := 7) (.pointer (some ⟨g, k * 3 + 1, none⟩)) rfl (by kernel_rfl) (by kernel_rfl) (by kernel_rfl) (by kernel_rfl) (fun _ _ _ h => h) HI0 (yldI rfl (fun W hW => by go_simp)) ?_
        refine anyI_take (i := 8) (.slice da p.d.length dc) rfl (by kernel_rfl) (by kernel_rfl) (by kernel_rfl) (by kernel_rfl) (fun _ _ _ h => h) HI0 (yldI rfl (fun W hW => by rw [hI] at hW; obtain ⟨h1, h2⟩ := hW; go_simp)) ?_
        refine anyI_take (i := 9) (.int .i64 p.d.length) rfl (by kernel_rfl) (by kernel_rfl) (by kernel_rfl) (by kernel_rfl) (fun _ _ _ h => h) HI0 (yldI rfl (fun W hW => by go_simp)) ?_
        refine anyI_take (i := 10) (.slice da p.d.length dc) rfl (by kernel_rfl) (by kernel_rfl) (by kernel_rfl) (by kernel_rfl) (fun _ _ _ h => h) HI0 (yldI rfl (fun W hW => by go_simp)) ?_
        refine anyI_one (i := 11) (by kernel_rfl) (wpOp_val (v := .pointer (some ⟨g, k * 3, none⟩)) rfl rfl (by go_simp) ⟨.inr HI0, ?_⟩)
        refine anyI_one (i := 12) (by kernel_rfl) (wpOp_val (v := .pointer (some ⟨g, k * 3 + 1, none⟩)) rfl rfl (by go_simp) ⟨.inr HI0, ?_⟩)
        refine anyI_one (i := 13) (by kernel_rfl) (wpOp_skip (w' := wr.drew.setCell ⟨g, k * 3 + 1, none⟩ (.slice da p.d.length dc)) rfl rfl (by go_simp) ⟨.inl rfl, ?_⟩)
        refine anyI_done (by kernel_rfl) ?_ _
        go_wp2
        go_roundw
        case rel => exact ⟨k + 1, by omega, by go_num, hide (HX2.out.later ⟨rfl, rfl, rfl, Nat.le_refl _, fun _ _ _ => rfl⟩), by simpa using hsz, by simp [go_sem, hoc], HR, HO2.out.later ⟨rfl, rfl, rfl, Nat.le_refl _, fun _ _ _ => rfl⟩⟩
        case measure => simp [intOf]; omega
    · have hkn : k = fs.length := by omega
      subst hkn
      have HO2 : Hid (OwF (w.heap.size + 2) wr (.slice ra fs.length rcap) (crashF keep fs)) := by
        have := hown
        rw [List.take_length, List.drop_length, List.append_nil] at this
        exact this
      have rr := HX.out.r
      have rf := HX.out.f
      clear hown
      go_wp2
      refine bodyPost_ret (v := .agg #[.slice ra fs.length rcap]) (by simp [results, Tryz.results25, go_sem, rr]) rfl ?_
      exact ⟨_, rfl, (HX.out.ends HO2.out (Nat.le_refl _) _).1, (HX.out.ends HO2.out (Nat.le_refl _) _).2⟩

end Go.Proofs.YtakkdniikhgpdaaGreatDoor

namespace Go.Proofs.YtakkdniikhgpdaaGreatDoor
open Go.RowKit

theorem ltB_irr : ∀ x : List Int, ltB x x = false
  | [] => rfl
  | a :: x => by simp [ltB, ltB_irr x]
theorem ltB_trans : ∀ x y z : List Int, ltB x y = true → ltB y z = true → ltB x z = true
  | _, [], _, h, _ => by simp [ltB] at h
  | _, _ :: _, [], _, h => by simp [ltB] at h
  | [], _ :: _, _ :: _, _, _ => rfl
  | a :: x, b :: y, c :: z, h1, h2 => by
    simp only [ltB, Bool.or_eq_true, Bool.and_eq_true, decide_eq_true_eq] at h1 h2 ⊢
    rcases h1 with h1 | ⟨h1, h1'⟩ <;> rcases h2 with h2 | ⟨h2, h2'⟩
    · left; omega
    · left; omega
    · left; omega
    · right; exact ⟨by omega, ltB_trans x y z h1' h2'⟩
theorem ltB_tri : ∀ x y : List Int, ltB x y = false → ltB y x = false → x = y
  | [], [], _, _ => rfl
  | [], _ :: _, h, _ => by simp [ltB] at h
  | _ :: _, [], _, h => by simp [ltB] at h
  | a :: x, b :: y, h1, h2 => by
    simp only [ltB, Bool.or_eq_false_iff, Bool.and_eq_false_iff, decide_eq_false_iff_not] at h1 h2
    have hab : a = b := by omega
    subst hab
    have h1' : ltB x y = false := by rcases h1.2 with h | h; exact absurd rfl h; exact h
    have h2' : ltB y x = false := by rcases h2.2 with h | h; exact absurd rfl h; exact h
    rw [ltB_tri x y h1' h2']

/-- A valid list ascends. -/
theorem valid_asc {fs : List Fl} (h : validF fs = true) : ∀ (i j : Nat) (hij : i < j) (hj : j < fs.length), ltB (fs[i]'(by omega)).n fs[j].n = true := by
  unfold validF at h
  rw [Bool.and_eq_true, List.all_eq_true] at h
  have one : ∀ (i : Nat) (hi : i + 1 < fs.length), ltB (fs[i]'(by omega)).n fs[i + 1].n = true := fun i hi => by
    have := h.2 (i + 1) (by simpa using hi)
    rw [okAt_succ hi, Bool.and_eq_true] at this
    exact this.2
  intro i j
  induction j with
  | zero => intro hij; omega
  | succ j ih =>
    intro hij hj
    by_cases e : i = j
    · subst e; exact one i hj
    · exact ltB_trans _ _ _ (ih (by omega) (by omega)) (one j hj)

/-- The place of a name: what stands before it is less, what stands from it on is not. -/
structure Pos (fs : List Fl) (n : List Int) (i : Nat) : Prop where
  le : i ≤ fs.length
  low : ∀ k (hk : k < fs.length), k < i → ltB fs[k].n n = true
  high : ∀ k (hk : k < fs.length), i ≤ k → ltB fs[k].n n = false

theorem pos_find {fs : List Fl} {n : List Int} {i : Nat} (hp : Pos fs n i) (hi : i < fs.length) (he : fs[i].n = n) : findF fs n = some fs[i] := by
  refine find_yes i hi (fun j hj e => ?_) he
  have := hp.low j (by omega) hj
  rw [e, ltB_irr] at this
  cases this
theorem pos_none {fs : List Fl} {n : List Int} {i : Nat} (hv : validF fs = true) (hp : Pos fs n i) (hn : ∀ hi : i < fs.length, fs[i].n ≠ n) : findF fs n = none := by
  refine find_no (fun j hj e => ?_)
  by_cases h1 : j < i
  · have := hp.low j hj h1
    rw [e, ltB_irr] at this
    cases this
  · by_cases h2 : j = i
    · subst h2; exact hn hj e
    · have h3 := valid_asc hv i j (by omega) hj
      have h4 := hp.high i (by omega) (Nat.le_refl _)
      rw [e] at h3
      rw [h3] at h4
      cases h4

end Go.Proofs.YtakkdniikhgpdaaGreatDoor

namespace Go.Proofs.YtakkdniikhgpdaaGreatDoor

/-! Valid lists of files, put into and taken out of. -/
abbrev AscF (fs : List Fl) : Prop := fs.Pairwise fun a b => ltB a.n b.n = true
theorem valid_ok {fs : List Fl} (h : validF fs = true) : ∀ p ∈ fs, okF p = true := by
  intro p hp
  obtain ⟨i, hi, rfl⟩ := List.getElem_of_mem hp
  unfold validF at h
  simp only [Bool.and_eq_true, List.all_eq_true, List.mem_range] at h
  have := h.2 i hi
  cases i with
  | zero => rwa [okAt_zero hi] at this
  | succ j => rw [okAt_succ hi, Bool.and_eq_true] at this; exact this.1
theorem valid_len50 {fs : List Fl} (h : validF fs = true) : fs.length ≤ 50 := by
  by_cases hh : 50 < fs.length
  · rw [valid_long hh] at h; cases h
  · omega
theorem valid_ascF {fs : List Fl} (h : validF fs = true) : AscF fs := by
  rw [AscF, List.pairwise_iff_getElem]
  intro i j hi hj hij
  exact valid_asc h i j hij hj
theorem valid_mk {fs : List Fl} (h1 : fs.length ≤ 50) (h2 : ∀ p ∈ fs, okF p = true) (h3 : AscF fs) : validF fs = true := by
  rw [AscF, List.pairwise_iff_getElem] at h3
  refine valid_all h1 ?_
  simp only [List.all_eq_true, List.mem_range]
  intro i hi
  cases i with
  | zero => rw [okAt_zero hi]; exact h2 _ (List.getElem_mem hi)
  | succ j => rw [okAt_succ hi, Bool.and_eq_true]; exact ⟨h2 _ (List.getElem_mem hi), h3 j (j + 1) (by omega) hi (by omega)⟩
theorem valid_del {fs : List Fl} (h : validF fs = true) (i : Nat) : validF (fs.take i ++ fs.drop (i + 1)) = true := by
  have hs : (fs.take i ++ fs.drop (i + 1)).Sublist fs := by
    have e : (fs.take i ++ fs.drop i).Sublist fs := by rw [List.take_append_drop]; exact List.Sublist.refl _
    refine List.Sublist.trans (List.Sublist.append (List.Sublist.refl _) ?_) e
    rw [show fs.drop (i + 1) = (fs.drop i).drop 1 by rw [List.drop_drop]]
    exact List.drop_sublist _ _
  exact valid_mk (Nat.le_trans hs.length_le (valid_len50 h)) (fun p hp => valid_ok h p (hs.subset hp)) ((valid_ascF h).sublist hs)
theorem find_noneF {fs : List Fl} {n : List Int} (h : findF fs n = none) : ∀ p ∈ fs, p.n ≠ n := by
  intro p hp e
  have := List.find?_eq_none.1 h p hp
  simp [e] at this
theorem find_of_none {fs : List Fl} {n : List Int} (h : ∀ p ∈ fs, p.n ≠ n) : findF fs n = none := by
  unfold findF
  rw [List.find?_eq_none]
  intro p hp
  simpa using h p hp
theorem valid_ins {fs : List Fl} (h : validF fs = true) {p : Fl} {i : Nat} (hp : Pos fs p.n i) (hno : findF fs p.n = none) (ho : okF p = true) (hl : fs.length < 50) : validF (fs.take i ++ p :: fs.drop i) = true := by
  have hA := valid_ascF h
  have hnn := find_noneF hno
  have hle := hp.le
  refine valid_mk (by simp; omega) (fun q hq => ?_) ?_
  · rcases List.mem_append.1 hq with h1 | h1
    · exact valid_ok h q (List.mem_of_mem_take h1)
    · rcases List.mem_cons.1 h1 with rfl | h1
      · exact ho
      · exact valid_ok h q (List.mem_of_mem_drop h1)
  · have e : fs = fs.take i ++ fs.drop i := (List.take_append_drop i fs).symm
    rw [AscF, e, List.pairwise_append] at hA
    rw [AscF, List.pairwise_append]
    have lo : ∀ a ∈ fs.take i, ltB a.n p.n = true := fun a ha => by
      obtain ⟨k, hk, rfl⟩ := List.getElem_of_mem ha
      simp only [List.length_take] at hk
      rw [List.getElem_take]
      exact hp.low k (by omega) (by omega)
    have hi : ∀ b ∈ fs.drop i, ltB p.n b.n = true := fun b hb => by
      obtain ⟨k, hk, rfl⟩ := List.getElem_of_mem hb
      simp only [List.length_drop] at hk
      rw [List.getElem_drop]
      have h1 := hp.high (i + k) (by omega) (by omega)
      by_cases h2 : ltB p.n (fs[i + k]'(by omega)).n = true
      · exact h2
      · exact absurd (ltB_tri _ _ h1 (by simpa using h2)) (hnn _ (List.getElem_mem _))
    refine ⟨hA.1, List.pairwise_cons.2 ⟨hi, hA.2.1⟩, fun a ha b hb => ?_⟩
    rcases List.mem_cons.1 hb with rfl | hb
    · exact lo a ha
    · exact hA.2.2 a ha b hb
/-- In a valid list a name stands once. -/
theorem name_once {fs : List Fl} (h : validF fs = true) {i j : Nat} (hi : i < fs.length) (hj : j < fs.length) (he : fs[i].n = fs[j].n) : i = j := by
  by_cases h1 : i < j
  · have := valid_asc h i j h1 hj
    rw [he, ltB_irr] at this; cases this
  · by_cases h2 : j < i
    · have := valid_asc h j i h2 hi
      rw [he, ltB_irr] at this; cases this
    · omega
theorem ins_at {fs : List Fl} {p : Fl} {i : Nat} (hi : i ≤ fs.length) (h : i < (fs.take i ++ p :: fs.drop i).length) : (fs.take i ++ p :: fs.drop i)[i] = p := by
  rw [List.getElem_append_right (by simp; omega)]
  simp [Nat.min_eq_left hi]
theorem ins_del {fs : List Fl} {p : Fl} {i : Nat} (hi : i ≤ fs.length) : (fs.take i ++ p :: fs.drop i).take i ++ (fs.take i ++ p :: fs.drop i).drop (i + 1) = fs := by
  have l : (fs.take i).length = i := by simp; omega
  rw [List.take_append_of_le_length (by omega), List.take_of_length_le (by omega), List.drop_append, List.drop_eq_nil_of_le (by omega), l, show i + 1 - i = 1 by omega]
  simp
theorem ins_set {fs : List Fl} {p q : Fl} {i : Nat} (hi : i ≤ fs.length) : (fs.take i ++ p :: fs.drop i).set i q = fs.take i ++ q :: fs.drop i := by
  rw [List.set_append_right _ _ (by simp; omega)]
  simp [Nat.min_eq_left hi]
theorem ins_find {fs : List Fl} {p : Fl} {i : Nat} (hno : findF fs p.n = none) : findF (fs.take i ++ p :: fs.drop i) p.n = some p := by
  have hnn := find_noneF hno
  unfold findF
  rw [List.find?_append, List.find?_eq_none.2 (fun x hx => by simpa using hnn x (List.mem_of_mem_take hx))]
  simp
theorem ins_find_no {fs : List Fl} {p : Fl} {i : Nat} {n : List Int} (hno : findF fs n = none) (hn : p.n ≠ n) : findF (fs.take i ++ p :: fs.drop i) n = none := by
  have hnn := find_noneF hno
  refine find_of_none fun q hq => ?_
  rcases List.mem_append.1 hq with h1 | h1
  · exact hnn q (List.mem_of_mem_take h1)
  · rcases List.mem_cons.1 h1 with rfl | h1
    · exact hn
    · exact hnn q (List.mem_of_mem_drop h1)
theorem crash_ins (keep : Int) (fs : List Fl) (p : Fl) (i : Nat) : crashF keep (fs.take i ++ p :: fs.drop i) = (crashF keep fs).take i ++ crashed keep p :: (crashF keep fs).drop i := by
  simp [crashF, List.map_take, List.map_drop]
end Go.Proofs.YtakkdniikhgpdaaGreatDoor

namespace Go.Proofs.YtakkdniikhgpdaaGreatDoor
open Go.RowKit
attribute [-go_sem] Builtin.append_

/-- What FsRead answers. -/
def readL (fs : List Fl) (n : List Int) : List Int := if okArg fs n then (match findF fs n with | some f => f.d | none => []) else []
def readC (fs : List Fl) (n : List Int) : Int := if okArg fs n then (match findF fs n with | some _ => 0 | none => 5) else 1


set_option maxHeartbeats 4000000 in
set_option maxRecDepth 100000 in
theorem specRead_any (v nv : Value) (fs : List Fl) (n : List Int) (w : World) (hv : RdF w.heap.size w v fs) (hnv : RdB w.heap.size w nv n) (hs : Sl nv n.length) (hd : Fss fs) (hb : Byt n) (hn : n.length ≤ 1048576) :
    Calls Tryz.prog 6 #[.agg #[v], nv] w fun e w' => ∃ v', e = .returned (.tuple #[v', .int .i64 (readC fs n)]) ∧ OwB w.heap.size w' v' (readL fs n) ∧ w.grownBy w' none := by
  obtain ⟨a, cap, hv0, _⟩ := id hv
  obtain ⟨na, ncap, hn0, _⟩ := id hnv
  have HV : Hid (∀ w', w.grownBy w' none → Calls Tryz.prog 5 #[.agg #[v]] w' fun e w'' => e = .returned (.bool (validF fs)) ∧ w'.grownBy w'' none) := fun w' g => specValid_any v fs w' (hv.now g) hd
  have HF : Hid (∀ w', w.grownBy w' none → Calls Tryz.prog 23 #[.agg #[v], nv] w' fun e w'' => FindSays w'.heap.size fs n e w'' ∧ w'.grownBy w'' none) := fun w' g => l7find_any v nv fs n w' (hv.now g) (hnv.keep g).now hd hb
  have HN : Hid (∀ w', Calls Tryz.prog 22 #[.slice na n.length ncap] w' fun e w'' => e = .returned (.bool (nameOK n)) ∧ w' = w'') := fun w' => nameOK_spec na n ncap w' (by omega)
  subst hv0 hn0
  clear hv hnv
  by_cases h1 : validF fs = true
  · rw [h1] at HV
    by_cases h2 : nameOK n = true
    · rw [h2] at HN
      have HO : Hid (okArg fs n = true) := by unfold Hid okArg; rw [h1, h2]; rfl
      clear h1 h2
      go_enter Tryz.func6, Tryz.ntmps6
      go_wp2_with fail
      refine (HV.out _ (World.grownBy_alloc _ _ _)).mono ?_
      rintro e w1 ⟨rfl, g1⟩
      have c1 : w1.cell? ⟨w.heap.size, 0, none⟩ = some (.slice a fs.length cap) := g1.cell (by simp [go_sem]) (by simp)
      have G1 : Hid (w.grownBy w1 none) := grown_trans (World.grownBy_alloc _ _ _) g1
      clear g1
      go_wp2_with fail
      refine (HN.out _).mono ?_
      rintro e w2 ⟨rfl, rfl⟩
      go_wp2_with fail
      refine (HF.out _ G1.out).mono ?_
      rintro e w2 ⟨hfs, g2⟩
      unfold FindSays at hfs
      cases hfind : findF fs n with
      | none =>
        rw [hfind] at hfs
        have HC : Hid (readC fs n = 5) := by unfold Hid readC; rw [HO.out, hfind]; rfl
        have HL : Hid (readL fs n = []) := by unfold Hid readL; rw [HO.out, hfind]; rfl
        subst hfs
        clear hfind
        have G2 : Hid (w.grownBy w2 none) := grown_trans G1.out g2
        clear g2
        go_wp2
        go_ret2
        exact ⟨.slice none 0 0, by rw [HC.out]; rfl, by rw [HL.out]; exact OwB.nil _ _, grown_trans G2.out (World.grownBy_alloc _ _ _)⟩
      | some f =>
        rw [hfind] at hfs
        obtain ⟨x, rfl, hx⟩ := hfs
        have HC : Hid (readC fs n = 0) := by unfold Hid readC; rw [HO.out, hfind]; rfl
        have HL : Hid (readL fs n = f.d) := by unfold Hid readL; rw [HO.out, hfind]; rfl
        have hft := hd.tlen f (find_mem hfind).1
        obtain ⟨x1, x2⟩ := x
        have HC1 : Hid (∀ w', w2.grownBy w' none → Calls Tryz.prog 24 #[x2] w' fun e w'' => ∃ v', e = .returned v' ∧ OwB w'.heap.size w'' v' f.d ∧ w'.grownBy w'' none) := fun w' g => l1copy_anyF x2 f.d w' ((hx.rd.keep g).now) (by omega)
        obtain ⟨a1, k1, e1, _, _⟩ := hx.sn
        obtain ⟨a2, k2, e2, _, _⟩ := hx.sd
        simp only at e1 e2
        subst e1 e2
        clear hfind hx
        have G2 : Hid (w.grownBy w2 none) := grown_trans G1.out g2
        clear g2
        go_wp2_with fail
        refine (HC1.out _ (World.grownBy_alloc _ _ _)).mono ?_
        rintro e w3 ⟨v3, rfl, o3, g3⟩
        have HO3 : Hid (OwB w.heap.size w3 v3 f.d) := row_base (by have := G2.out.size; simp; omega) o3
        have G3 : Hid (w.grownBy w3 none) := grown_trans (grown_trans G2.out (World.grownBy_alloc _ _ _)) g3
        obtain ⟨a3, k3, e3, _⟩ := o3.rd
        subst e3
        clear o3 g3
        go_wp2
        go_ret2
        exact ⟨.slice a3 f.d.length k3, by rw [HC.out]; rfl, by rw [HL.out]; exact HO3.out, G3.out⟩
    · rw [show nameOK n = false by simpa using h2] at HN
      have HC : Hid (readC fs n = 1) := by unfold Hid readC okArg; simp [h2]
      have HL : Hid (readL fs n = []) := by unfold Hid readL okArg; simp [h2]
      clear h1 h2
      go_enter Tryz.func6, Tryz.ntmps6
      go_wp2_with fail
      refine (HV.out _ (World.grownBy_alloc _ _ _)).mono ?_
      rintro e w1 ⟨rfl, g1⟩
      have G1 : Hid (w.grownBy w1 none) := grown_trans (World.grownBy_alloc _ _ _) g1
      clear g1
      go_wp2_with fail
      refine (HN.out _).mono ?_
      rintro e w2 ⟨rfl, rfl⟩
      go_wp2
      go_ret2
      exact ⟨.slice none 0 0, by rw [HC.out]; rfl, by rw [HL.out]; exact OwB.nil _ _, G1.out⟩
  · rw [show validF fs = false by simpa using h1] at HV
    have HC : Hid (readC fs n = 1) := by unfold Hid readC okArg; simp [h1]
    have HL : Hid (readL fs n = []) := by unfold Hid readL okArg; simp [h1]
    clear h1
    go_enter Tryz.func6, Tryz.ntmps6
    go_wp2_with fail
    refine (HV.out _ (World.grownBy_alloc _ _ _)).mono ?_
    rintro e w1 ⟨rfl, g1⟩
    have G1 : Hid (w.grownBy w1 none) := grown_trans (World.grownBy_alloc _ _ _) g1
    clear g1
    go_wp2
    go_ret2
    exact ⟨.slice none 0 0, by rw [HC.out]; rfl, by rw [HL.out]; exact OwB.nil _ _, G1.out⟩

end Go.Proofs.YtakkdniikhgpdaaGreatDoor

namespace Go.Proofs.YtakkdniikhgpdaaGreatDoor
open Go.RowKit
attribute [-go_sem] Builtin.append_

/-- What FsCrash answers. -/
def craF (fs : List Fl) (keep : Int) : List Fl := if validF fs && decide (0 ≤ keep) then crashF keep fs else []
def craC (fs : List Fl) (keep : Int) : Int := if validF fs && decide (0 ≤ keep) then 0 else 1

set_option maxHeartbeats 8000000 in
set_option maxRecDepth 100000 in
theorem specCrash_any (v : Value) (fs : List Fl) (keep : Int) (w : World) (hv : RdF w.heap.size w v fs) (hd : Fss fs) (hk2 : keep ≤ 9223372036854775807) :
    Calls Tryz.prog 8 #[.agg #[v], .int .i64 keep] w fun e w' => ∃ v', e = .returned (.tuple #[.agg #[v'], .int .i64 (craC fs keep)]) ∧ OwF w.heap.size w' v' (craF fs keep) ∧ w.grownBy w' none := by
  obtain ⟨a, cap, hv0, _⟩ := id hv
  have HV : Hid (∀ w', w.grownBy w' none → Calls Tryz.prog 5 #[.agg #[v]] w' fun e w'' => e = .returned (.bool (validF fs)) ∧ w'.grownBy w'' none) := fun w' g => specValid_any v fs w' (hv.now g) hd
  have HK : Hid (∀ w', w.grownBy w' none → 0 ≤ keep → validF fs = true → Calls Tryz.prog 25 #[.agg #[v], .int .i64 keep] w' fun e w'' => ∃ v', e = .returned (.agg #[v']) ∧ OwF w'.heap.size w'' v' (crashF keep fs) ∧ w'.grownBy w'' none) := fun w' g h1 h2 => l7crash_any v fs keep w' (hv.now g) hd h1 hk2 h2
  subst hv0
  clear hv
  by_cases h1 : validF fs = true
  · have hval := hide h1
    rw [h1] at HV
    by_cases h2 : 0 ≤ keep
    · have HC : Hid (craC fs keep = 0) := by unfold Hid craC; rw [h1, decide_eq_true h2]; rfl
      have HL : Hid (craF fs keep = crashF keep fs) := by unfold Hid craF; rw [h1, decide_eq_true h2]; rfl
      clear h1
      go_enter Tryz.func8, Tryz.ntmps8
      go_wp2_with fail
      have CX0 := hide (FsCtx.start w (.slice a fs.length cap))
      refine (HV.out _ CX0.out.g).mono ?_
      rintro e w1 ⟨rfl, g1⟩
      have CX := hide (CX0.out.later g1)
      have cp := CX.out.p
      clear g1 CX0
      go_wp2_with fail
      refine (HK.out _ CX.out.g h2 hval.out).mono ?_
      rintro e w5 ⟨v5, rfl, o5, g5⟩
      have HO5 := hide o5
      have HS5 : Hid (w.heap.size + 2 ≤ (_)) := CX.out.s
      have CX := hide (CX.out.later g5)
      obtain ⟨a5, c5, e5, _⟩ := o5.rd
      subst e5
      clear o5 g5
      have rr := CX.out.r
      have rf := CX.out.f
      go_wp2
      refine bodyPost_ret (v := .tuple #[.agg #[(.slice a5 (crashF keep fs).length c5)], .int .i64 0]) (by simp [results, Tryz.results8, go_sem, rr]) rfl ?_
      exact ⟨_, by rw [HC.out], by rw [HL.out]; exact (CX.out.ends HO5.out HS5.out _).1, (CX.out.ends HO5.out HS5.out _).2⟩
    · have HC : Hid (craC fs keep = 1) := by unfold Hid craC; rw [decide_eq_false h2]; simp
      have HL : Hid (craF fs keep = []) := by unfold Hid craF; rw [decide_eq_false h2]; simp
      clear h1
      go_enter Tryz.func8, Tryz.ntmps8
      go_wp2_with fail
      have CX0 := hide (FsCtx.start w (.slice a fs.length cap))
      refine (HV.out _ CX0.out.g).mono ?_
      rintro e w1 ⟨rfl, g1⟩
      have CX := hide (CX0.out.later g1)
      have cp := CX.out.p
      clear g1 CX0
      have rr := CX.out.r
      have rf := CX.out.f
      go_wp2
      refine bodyPost_ret (v := .tuple #[.agg #[(.slice none 0 0)], .int .i64 1]) (by simp [results, Tryz.results8, go_sem, rr]) rfl ?_
      exact ⟨_, by rw [HC.out], by rw [HL.out]; exact (CX.out.ends (OwF.nil (w.heap.size + 2) _) (Nat.le_refl _) _).1, (CX.out.ends (OwF.nil (w.heap.size + 2) _) (Nat.le_refl _) _).2⟩
  · rw [show validF fs = false by simpa using h1] at HV
    have h1b : validF fs = false := by simpa using h1
    have HC : Hid (craC fs keep = 1) := by unfold Hid craC; rw [h1b]; simp
    have HL : Hid (craF fs keep = []) := by unfold Hid craF; rw [h1b]; simp
    go_enter Tryz.func8, Tryz.ntmps8
    go_wp2_with fail
    have CX0 := hide (FsCtx.start w (.slice a fs.length cap))
    refine (HV.out _ CX0.out.g).mono ?_
    rintro e w1 ⟨rfl, g1⟩
    have CX := hide (CX0.out.later g1)
    have cp := CX.out.p
    clear g1 CX0
    have rr := CX.out.r
    have rf := CX.out.f
    go_wp2
    refine bodyPost_ret (v := .tuple #[.agg #[(.slice none 0 0)], .int .i64 1]) (by simp [results, Tryz.results8, go_sem, rr]) rfl ?_
    exact ⟨_, by rw [HC.out], by rw [HL.out]; exact (CX.out.ends (OwF.nil (w.heap.size + 2) _) (Nat.le_refl _) _).1, (CX.out.ends (OwF.nil (w.heap.size + 2) _) (Nat.le_refl _) _).2⟩

end Go.Proofs.YtakkdniikhgpdaaGreatDoor

