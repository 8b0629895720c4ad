import Derived.Test.YtakkdniikhgpdaaGreatDoorMAM
namespace Go.Proofs.YtakkdniikhgpdaaGreatDoor
open Go.RowKit
attribute [-go_sem] Builtin.append_

theorem row_cutF {B : Nat} {w : World} {e : TypeId} {size n m : Nat} {g cap : Nat} {xs : List Value} (h : w.ownsRow B e size (.slice (some ⟨g, 0, none⟩) n cap) n xs) (hm : m ≤ n) :
    w.ownsRow B e size (.slice (some ⟨g, 0, none⟩) m cap) m (xs.take (m * size)) := by
  rcases h.2 with ⟨h', _⟩ | ⟨g', cap', cur, h', hb, hg, hnc, hcm, hcs, htake⟩
  · simp at h'
  · simp only [Value.slice.injEq, Option.some.injEq, Addr.mk.injEq, and_true, true_and] at h'
    obtain ⟨rfl, rfl⟩ := h'
    have hle : m * size ≤ n * size := Nat.mul_le_mul_right _ hm
    refine ⟨by rw [List.length_take, h.1]; omega, .inr ⟨g, cap, cur, rfl, hb, hg, by omega, hcm, hcs, ?_⟩⟩
    rw [← htake, List.take_take, Nat.min_eq_left hle]

/-- A text of one's own, cut. -/
theorem OwB.cut {B : Nat} {w : World} {v : Value} {zs : List Int} (h : OwB B w v zs) (m : Nat) (hm : m ≤ zs.length) : ∃ a c, v = .slice a zs.length c ∧ zs.length ≤ c ∧ c ≤ maxLen ∧ OwB B w (.slice a m c) (zs.take m) ∧ (Value.slice a m c).ownBlock = v.ownBlock := by
  rcases h.2 with ⟨hv, hn⟩ | ⟨g, cap, cur, hv, hb, hg, hnc, hcm, hcs, ht⟩
  · have hz : zs = [] := List.length_eq_zero_iff.1 hn
    subst hz
    have hm0 : m = 0 := by simpa using hm
    subst hm0
    exact ⟨none, 0, hv, Nat.le_refl _, by unfold maxLen; omega, ⟨by simp, .inl ⟨rfl, rfl⟩⟩, by rw [hv]⟩
  · refine ⟨some ⟨g, 0, none⟩, cap, hv, hnc, hcm, ?_, by rw [hv]; rfl⟩
    have h' : w.ownsRow B 5 1 (.slice (some ⟨g, 0, none⟩) zs.length cap) zs.length (zs.map (Value.int .u8)) := by rw [← hv]; exact h
    have := row_cutF h' hm
    unfold OwB Ow
    rw [List.length_take_of_le hm, List.map_take]
    simpa using this

theorem cellsF_set : ∀ (L : List Fl) (xs : List (Value × Value)) (k : Nat) (p' : Fl) (x : Value × Value) (u : Value), xs.length = L.length → xs[k]? = some x → cellsF (L.set k p') (xs.set k (x.1, u)) = ((cellsF L xs).set (k * 3 + 1) u).set (k * 3 + 2) (.int .i64 p'.s)
  | p :: ps, y :: ys, 0, p', x, u, h, hx => by simp at hx; subst hx; rfl
  | p :: ps, y :: ys, k + 1, p', x, u, h, hx => by
    have := cellsF_set ps ys k p' x u (by simpa using h) (by simpa using hx)
    rw [List.set_cons_succ, List.set_cons_succ]
    show y.1 :: y.2 :: Value.int .i64 p.s :: cellsF _ _ = _
    rw [this, show (k + 1) * 3 + 1 = k * 3 + 1 + 1 + 1 + 1 by omega, show (k + 1) * 3 + 2 = k * 3 + 2 + 1 + 1 + 1 by omega]
    rfl
  | [], [], _, _, _, _, _, hx => by simp at hx
  | [], _ :: _, _, _, _, _, h, _ => by simp at h
  | _ :: _, [], _, _, _, _, h, _ => by simp at h

theorem pairs_own : ∀ (xs : List (Value × Value)) (k : Nat) (x : Value × Value) (u : Value), xs[k]? = some x → u.ownBlock = x.2.ownBlock → (pairs (xs.set k (x.1, u))).map Value.ownBlock = (pairs xs).map Value.ownBlock
  | y :: ys, 0, x, u, hx, hu => by simp at hx; subst hx; simp [pairs, hu]
  | y :: ys, k + 1, x, u, hx, hu => by
    have := pairs_own ys k x u (by simpa using hx) hu
    simp only [pairs, List.set_cons_succ, List.flatMap_cons, List.map_append] at this ⊢
    rw [this]
  | [], _, _, _, hx, _ => by simp at hx
theorem apt_map (l : List Value) : l.Pairwise Apt ↔ (l.map Value.ownBlock).Pairwise (fun a b => ∀ g, a = some g → b ≠ some g) := by
  rw [List.pairwise_map]; rfl

/-- The data of one file cut, its Safe set. -/
theorem OwF.cut {B : Nat} {w : World} {g cap : Nat} {L : List Fl} {k : Nat} {p : Fl} (h : OwF B w (.slice (some ⟨g, 0, none⟩) L.length cap) L) (hp : L[k]? = some p) (m : Nat) (hm : m ≤ p.d.length) (s' : Int) :
    ∃ a c, w.cell? ⟨g, k * 3 + 1, none⟩ = some (.slice a p.d.length c) ∧ w.cell? ⟨g, k * 3 + 2, none⟩ = some (.int .i64 p.s) ∧ w.frozen? ⟨g, k * 3 + 1, none⟩ = false ∧ w.frozen? ⟨g, k * 3 + 2, none⟩ = false ∧ p.d.length ≤ c ∧ c ≤ maxLen ∧
      OwF B ((w.setCell ⟨g, k * 3 + 1, none⟩ (.slice a m c)).setCell ⟨g, k * 3 + 2, none⟩ (.int .i64 s')) (.slice (some ⟨g, 0, none⟩) L.length cap) (L.set k ⟨p.n, p.d.take m, s'⟩) := by
  obtain ⟨xs, ho, ht⟩ := h
  obtain ⟨x, hx, c0, c1, c2⟩ := cellsF_at L xs k p ht.len hp
  obtain ⟨o1, o2, o3⟩ := ht.own k p x hp hx
  have hk := (List.getElem?_eq_some_iff.1 hp).1
  obtain ⟨a, c, hv, hlc, hcm, o2', hob⟩ := OwB.cut o2 m hm
  refine ⟨a, c, ?_, ?_, World.ownsRow.frozenAt ho _, World.ownsRow.frozenAt ho _, hlc, hcm, ?_⟩
  · rw [World.ownsRow.cellAt ho (k * 3 + 1) (by omega), c1, hv]
  · rw [World.ownsRow.cellAt ho (k * 3 + 2) (by omega), c2]
  have hs1 := World.ownsRow.stored ho (k * 3 + 1) (.slice a m c)
  have hs2 := World.ownsRow.stored hs1.1 (k * 3 + 2) (.int .i64 s')
  have ht2 : TxF B w (some g) (L.set k ⟨p.n, p.d.take m, s'⟩) (xs.set k (x.1, .slice a m c)) := by
    refine ⟨by simp [ht.len], fun j q y hq hy => ?_, ?_⟩
    · by_cases hjk : k = j
      · subst hjk
        have hxl := (List.getElem?_eq_some_iff.1 hx).1
        simp [hk] at hq
        simp [hxl] at hy
        subst hq hy
        refine ⟨o1, o2', fun i hi => ⟨(o3 i hi).1, ?_⟩⟩
        show (Value.slice a m c).ownBlock ≠ some i
        rw [hob]; exact (o3 i hi).2
      · rw [List.getElem?_set_ne hjk] at hq hy
        exact ht.own j q y hq hy
    · rw [apt_map, pairs_own xs k x _ hx hob, ← apt_map]; exact ht.apart
  refine ⟨xs.set k (x.1, .slice a m c), ?_, (ht2.set _ _).set _ _⟩
  rw [List.length_set, cellsF_set L xs k _ x _ ht.len hx]
  exact hs2.1

theorem crash_step (keep : Int) (fs : List Fl) (k : Nat) (hk : k < fs.length) : (crashF keep (fs.take k) ++ fs.drop k).set k (crashed keep fs[k]) = crashF keep (fs.take (k + 1)) ++ fs.drop (k + 1) := by
  have hl : (crashF keep (fs.take k)).length = k := by simp [crashF]; omega
  have e1 : crashF keep (fs.take (k + 1)) = crashF keep (fs.take k) ++ [crashed keep fs[k]] := by
    rw [List.take_add_one, List.getElem?_eq_getElem hk]; unfold crashF; rw [List.map_append]; rfl
  rw [e1, List.set_append_right _ _ (by omega), show k - (crashF keep (fs.take k)).length = 0 by omega, List.drop_eq_getElem_cons hk, List.set_cons_zero, List.append_assoc]
  rfl
theorem crash_at (keep : Int) (fs : List Fl) (k : Nat) (hk : k < fs.length) : (crashF keep (fs.take k) ++ fs.drop k)[k]? = some fs[k] := by
  have hl : (crashF keep (fs.take k)).length = k := by simp [crashF]; omega
  rw [List.getElem?_append_right (by omega), hl, List.drop_eq_getElem_cons hk]; simp
theorem crash_len (keep : Int) (fs : List Fl) (k : Nat) : (crashF keep (fs.take k) ++ fs.drop k).length = fs.length := by
  simp [crashF]; omega
theorem valid_safe {fs : List Fl} (h : validF fs = true) {p : Fl} (hp : p ∈ fs) : 0 ≤ p.s ∧ p.s ≤ (p.d.length : Int) := by
  obtain ⟨k, hk, rfl⟩ := List.getElem_of_mem hp
  unfold validF at h
  rw [Bool.and_eq_true, List.all_eq_true] at h
  have := h.2 k (by simpa using hk)
  cases k with
  | zero => rw [okAt_zero hk, okF, Bool.and_eq_true] at this; simpa using this.2
  | succ j => rw [okAt_succ hk, okF, Bool.and_eq_true, Bool.and_eq_true] at this; simpa using this.1.2

set_option maxHeartbeats 8000000 in
set_option maxRecDepth 100000 in
theorem l7crash_any (v : Value) (fs : List Fl) (keep : Int) (w : World) (hv : RdF w.heap.size w v fs) (hd : Fss fs) (hk0 : 0 ≤ keep) (hk2 : keep ≤ 9223372036854775807) (hval : validF fs = true) :
    Calls Tryz.prog 25 #[.agg #[v], .int .i64 keep] w fun e w' => ∃ v', e = .returned (.agg #[v']) ∧ OwF w.heap.size w' v' (crashF keep fs) ∧ w.grownBy w' none := by
  obtain ⟨a, cap, hv0, _⟩ := id hv
  have HCp : Hid (∀ w', w.grownBy w' none → Calls Tryz.prog 43 #[.agg #[v]] w' fun e w'' => ∃ v', e = .returned (.agg #[v']) ∧ OwF w'.heap.size w'' v' fs ∧ w'.grownBy w'' none) := fun w' g => l7copy_any v fs w' (hv.now g) hd.len hd.tlen
  have HS : Hid (∀ p ∈ fs, (0 ≤ p.s ∧ p.s ≤ (p.d.length : Int)) ∧ p.d.length ≤ 1048576) := fun p hp => ⟨valid_safe hval hp, (hd.tlen p hp).2⟩
  have hlen := hd.len
  subst hv0
  clear hv hd hval
  go_enter Tryz.func25, Tryz.ntmps25
  go_wp2_with fail
  have CX0 := hide (FsCtx.start w (.slice a fs.length cap))
  refine (HCp.out _ CX0.out.g).mono ?_
  rintro e w1 ⟨rv, rfl, o1, g1⟩
  obtain ⟨ra, rcap, hrv, _⟩ := o1.rd
  subst hrv
  have CX := hide (CX0.out.later g1)
  have HO : Hid (OwF (w.heap.size + 2) w1 (.slice ra fs.length rcap) fs) := o1.base (by simp)
  have hs1 := CX.out.s
  clear o1 g1 CX0
  go_wp2
  go_loopw [6] (fun i wr => ∃ (k : Nat), k ≤ fs.length ∧ i = .int .i64 k ∧ Hid (FsCtx w wr (.slice a fs.length cap)) ∧ w1.heap.size < wr.heap.size ∧ wr.cell? ⟨w1.heap.size, 0, none⟩ = some (.slice ra fs.length rcap) ∧ Hid (∀ j, (Value.slice ra fs.length rcap).ownBlock = some j → j < w1.heap.size ∧ w.heap.size + 2 ≤ j) ∧ OwF (w.heap.size + 2) wr (.slice ra fs.length rcap) (crashF keep (fs.take k) ++ fs.drop k)) (fun i _ => fs.length - (intOf i).toNat)
  case atStart =>
    refine ⟨0, Nat.zero_le _, rfl, CX.out.later (World.grownBy_alloc _ _ _), by simp, by simp [go_sem], ?_, by simpa [crashF] using HO.out.later (World.grownBy_alloc _ _ _)⟩
    obtain ⟨xs, ho, _⟩ := HO.out
    intro j hj
    have := World.ownsRow.lt ho j hj
    omega
  case round =>
    obtain ⟨k, hk, rfl, HX, hsz, hoc, HR, hown⟩ := hrel
    by_cases hlt : k < fs.length
    · obtain ⟨⟨hp0, hp2⟩, hp1⟩ := HS.out fs[k] (List.getElem_mem hlt)
      -- the row is there
      obtain ⟨g, rfl⟩ : ∃ g, ra = some ⟨g, 0, none⟩ := by
        obtain ⟨xs, ho, _⟩ := hown
        rcases ho.2 with ⟨h', h2⟩ | ⟨g, cap', cur, h', _⟩
        · rw [crash_len] at h2; omega
        · simp only [Value.slice.injEq] at h'; exact ⟨g, h'.1⟩
      have hg := HR.out g rfl
      obtain ⟨m, hm⟩ : ∃ m : Nat, (crashed keep fs[k]) = ⟨fs[k].n, fs[k].d.take m, m⟩ ∧ m ≤ fs[k].d.length ∧ (if (fs[k].d.length : Int) - fs[k].s > keep then (m : Int) = fs[k].s + keep else m = fs[k].d.length) := by
        by_cases hc : (fs[k].d.length : Int) - fs[k].s > keep
        · refine ⟨(fs[k].s + keep).toNat, ?_, by omega, ?_⟩
          · unfold crashed; rw [if_pos hc]
            rw [show (((fs[k].s + keep).toNat : Nat) : Int) = fs[k].s + keep by omega]
          · rw [if_pos hc]; omega
        · refine ⟨fs[k].d.length, ?_, Nat.le_refl _, ?_⟩
          · unfold crashed; rw [if_neg hc]; simp
          · rw [if_neg hc]
      obtain ⟨hm1, hm2, hm3⟩ := hm
      have hown' := hown
      rw [← crash_len keep fs k] at hown'
      obtain ⟨da, dc, c1, c2, f1, f2, hdc, hdm, ho2⟩ := hown'.cut (crash_at keep fs k hlt) m hm2 m
      rw [← hm1, crash_step keep fs k hlt, crash_len keep fs k] at ho2
      obtain ⟨ea, ec, c1d, _⟩ := (hown'.cut (crash_at keep fs k hlt) m hm2 m)
      have e1 : ea = da ∧ ec = dc := by have := c1d.symm.trans c1; simpa using this
      have HX2 : Hid (FsCtx w ((wr.setCell ⟨g, k * 3 + 1, none⟩ (.slice da m dc)).setCell ⟨g, k * 3 + 2, none⟩ (.int .i64 m)) (.slice a fs.length cap)) := (HX.out.high _ _ hg.2).high _ _ hg.2
      have HO2 := hide ho2
      have hne : g ≠ w1.heap.size := by omega
      have hne' : w1.heap.size ≠ g := by omega
      have hpl : (k : Int) < fs.length := by omega
      have hmc : m ≤ dc := by omega
      unfold maxLen at hdm
      have c1w : ∀ n, (wr.drewN n).cell? ⟨g, k * 3 + 1, none⟩ = some (.slice da fs[k].d.length dc) := fun _ => c1
      clear ho2 hown hown' c1d e1 hm1
      generalize fs[k] = p at *
      by_cases hc : (p.d.length : Int) - p.s > keep
      · rw [if_pos hc] at hm3
        generalize p.s = ps at *
        obtain rfl : ps = (m : Int) - keep := by omega
        clear hm3
        go_wp2
        obtain ⟨I, hI⟩ : ∃ I : World → Prop, I = (fun W : World => W.cell? ⟨w1.heap.size, 0, none⟩ = some (.slice (some ⟨g, 0, none⟩) fs.length rcap) ∧ W.cell? ⟨g, k * 3 + 1, none⟩ = some (.slice da p.d.length dc)) := ⟨_, rfl⟩
        have HI0 : I wr.drew := by rw [hI]; exact ⟨hoc, c1⟩
        refine region_anyI I (fun i => i == 13) (by kernel_rfl) ?_
        show anyI _ _ _ _ _ _ 14 (Array.replicate 14 false) _ _
        refine anyI_take (i := 0) (.pointer (some ⟨w1.heap.size, 0, none⟩)) rfl (by kernel_rfl) (by kernel_rfl) (by kernel_rfl) (by kernel_rfl) (fun _ _ _ h => h) HI0 (yldI rfl (fun W hW => by go_simp)) ?_
        refine anyI_take (i := 1) (.slice (some ⟨g, 0, none⟩) fs.length rcap) rfl (by kernel_rfl) (by kernel_rfl) (by kernel_rfl) (by kernel_rfl) (fun _ _ _ h => h) HI0 (yldI rfl (fun W hW => by rw [hI] at hW; obtain ⟨h1, h2⟩ := hW; go_simp)) ?_
        refine anyI_take (i := 2) (.int .i64 k) rfl (by kernel_rfl) (by kernel_rfl) (by kernel_rfl) (by kernel_rfl) (fun _ _ _ h => h) HI0 (yldI rfl (fun W hW => by go_simp)) ?_
        refine anyI_take (i := 3) (.pointer (some ⟨w1.heap.size, 0, none⟩)) rfl (by kernel_rfl) (by kernel_rfl) (by kernel_rfl) (by kernel_rfl) (fun _ _ _ h => h) HI0 (yldI rfl (fun W hW => by go_simp)) ?_
        refine anyI_take (i := 4) (.slice (some ⟨g, 0, none⟩) fs.length rcap) rfl (by kernel_rfl) (by kernel_rfl) (by kernel_rfl) (by kernel_rfl) (fun _ _ _ h => h) HI0 (yldI rfl (fun W hW => by rw [hI] at hW; obtain ⟨h1, h2⟩ := hW; go_simp)) ?_
        refine anyI_take (i := 5) (.int .i64 k) rfl (by kernel_rfl) (by kernel_rfl) (by kernel_rfl) (by kernel_rfl) (fun _ _ _ h => h) HI0 (yldI rfl (fun W hW => by go_simp)) ?_
        refine anyI_take (i := 6) (.pointer (some ⟨g, k * 3, none⟩)) rfl (by kernel_rfl) (by kernel_rfl) (by kernel_rfl) (by kernel_rfl) (fun _ _ _ h => h) HI0 (yldI rfl (fun W hW => by go_simp)) ?_
        refine anyI_take (i := 7) (.pointer (some ⟨g, k * 3 + 1, none⟩)) rfl (by kernel_rfl) (by kernel_rfl) (by kernel_rfl) (by kernel_rfl) (fun _ _ _ h => h) HI0 (yldI rfl (fun W hW => by go_simp)) ?_
        refine anyI_take (i := 8) (.slice da p.d.length dc) rfl (by kernel_rfl) (by kernel_rfl) (by kernel_rfl) (by kernel_rfl) (fun _ _ _ h => h) HI0 (yldI rfl (fun W hW => by rw [hI] at hW; obtain ⟨h1, h2⟩ := hW; go_simp)) ?_
        refine anyI_take (i := 9) (.int .i64 m) rfl (by kernel_rfl) (by kernel_rfl) (by kernel_rfl) (by kernel_rfl) (fun _ _ _ h => h) HI0 (yldI rfl (fun W hW => by go_simp)) ?_
        refine anyI_take (i := 10) (.slice da m dc) rfl (by kernel_rfl) (by kernel_rfl) (by kernel_rfl) (by kernel_rfl) (fun _ _ _ h => h) HI0 (yldI rfl (fun W hW => by go_simp)) ?_
        refine anyI_one (i := 11) (by kernel_rfl) (wpOp_val (v := .pointer (some ⟨g, k * 3, none⟩)) rfl rfl (by go_simp) ⟨.inr HI0, ?_⟩)
        refine anyI_one (i := 12) (by kernel_rfl) (wpOp_val (v := .pointer (some ⟨g, k * 3 + 1, none⟩)) rfl rfl (by go_simp) ⟨.inr HI0, ?_⟩)
        refine anyI_one (i := 13) (by kernel_rfl) (wpOp_skip (w' := wr.drew.setCell ⟨g, k * 3 + 1, none⟩ (.slice da m dc)) rfl rfl (by go_simp) ⟨.inl rfl, ?_⟩)
        refine anyI_done (by kernel_rfl) ?_ _
        go_wp2
        go_roundw
        case rel => exact ⟨k + 1, by omega, by go_num, hide (HX2.out.later ⟨rfl, rfl, rfl, Nat.le_refl _, fun _ _ _ => rfl⟩), by simpa using hsz, by simp [go_sem, hoc], HR, HO2.out.later ⟨rfl, rfl, rfl, Nat.le_refl _, fun _ _ _ => rfl⟩⟩
        case measure => simp [intOf]; omega
      · rw [if_neg hc] at hm3
        subst hm3
        have hc2 : (p.d.length : Int) - p.s ≤ keep := by omega
        clear hc
        go_wp2
        obtain ⟨I, hI⟩ : ∃ I : World → Prop, I = (fun W : World => W.cell? ⟨w1.heap.size, 0, none⟩ = some (.slice (some ⟨g, 0, none⟩) fs.length rcap) ∧ W.cell? ⟨g, k * 3 + 1, none⟩ = some (.slice da p.d.length dc)) := ⟨_, rfl⟩
        have HI0 : I wr.drew := by rw [hI]; exact ⟨hoc, c1⟩
        refine region_anyI I (fun i => i == 13) (by kernel_rfl) ?_
        show anyI _ _ _ _ _ _ 14 (Array.replicate 14 false) _ _
        refine anyI_take (i := 0) (.pointer (some ⟨w1.heap.size, 0, none⟩)) rfl (by kernel_rfl) (by kernel_rfl) (by kernel_rfl) (by kernel_rfl) (fun _ _ _ h => h) HI0 (yldI rfl (fun W hW => by go_simp)) ?_
        refine anyI_take (i := 1) (.slice (some ⟨g, 0, none⟩) fs.length rcap) rfl (by kernel_rfl) (by kernel_rfl) (by kernel_rfl) (by kernel_rfl) (fun _ _ _ h => h) HI0 (yldI rfl (fun W hW => by rw [hI] at hW; obtain ⟨h1, h2⟩ := hW; go_simp)) ?_
        refine anyI_take (i := 2) (.int .i64 k) rfl (by kernel_rfl) (by kernel_rfl) (by kernel_rfl) (by kernel_rfl) (fun _ _ _ h => h) HI0 (yldI rfl (fun W hW => by go_simp)) ?_
        refine anyI_take (i := 3) (.pointer (some ⟨w1.heap.size, 0, none⟩)) rfl (by kernel_rfl) (by kernel_rfl) (by kernel_rfl) (by kernel_rfl) (fun _ _ _ h => h) HI0 (yldI rfl (fun W hW => by go_simp)) ?_
        refine anyI_take (i := 4) (.slice (some ⟨g, 0, none⟩) fs.length rcap) rfl (by kernel_rfl) (by kernel_rfl) (by kernel_rfl) (by kernel_rfl) (fun _ _ _ h => h) HI0 (yldI rfl (fun W hW => by rw [hI] at hW; obtain ⟨h1, h2⟩ := hW; go_simp)) ?_
        refine anyI_take (i := 5) (.int .i64 k) rfl (by kernel_rfl) (by kernel_rfl) (by kernel_rfl) (by kernel_rfl) (fun _ _ _ h => h) HI0 (yldI rfl (fun W hW => by go_simp)) ?_
        refine anyI_take (i := 6) (.pointer (some ⟨g, k * 3, none⟩)) rfl (by kernel_rfl) (by kernel_rfl) (by kernel_rfl) (by kernel_rfl) (fun _ _ _ h => h) HI0 (yldI rfl (fun W hW => by go_simp)) ?_
        refine anyI_take (i := 7) (.pointer (some ⟨g, k * 3 + 1, none⟩)) rfl (by kernel_rfl) (by kernel_rfl) (by kernel_rfl) (by kernel_rfl) (fun _ _ _ h => h) HI0 (yldI rfl (fun W hW => by go_simp)) ?_
        refine anyI_take (i := 8) (.slice da p.d.length dc) rfl (by kernel_rfl) (by kernel_rfl) (by kernel_rfl) (by kernel_rfl) (fun _ _ _ h => h) HI0 (yldI rfl (fun W hW => by rw [hI] at hW; obtain ⟨h1, h2⟩ := hW; go_simp)) ?_
        refine anyI_take (i := 9) (.int .i64 p.d.length) rfl (by kernel_rfl) (by kernel_rfl) (by kernel_rfl) (by kernel_rfl) (fun _ _ _ h => h) HI0 (yldI rfl (fun W hW => by go_simp)) ?_
        refine anyI_take (i := 10) (.slice da p.d.length dc) rfl (by kernel_rfl) (by kernel_rfl) (by kernel_rfl) (by kernel_rfl) (fun _ _ _ h => h) HI0 (yldI rfl (fun W hW => by go_simp)) ?_
        refine anyI_one (i := 11) (by kernel_rfl) (wpOp_val (v := .pointer (some ⟨g, k * 3, none⟩)) rfl rfl (by go_simp) ⟨.inr HI0, ?_⟩)
        refine anyI_one (i := 12) (by kernel_rfl) (wpOp_val (v := .pointer (some ⟨g, k * 3 + 1, none⟩)) rfl rfl (by go_simp) ⟨.inr HI0, ?_⟩)
        refine anyI_one (i := 13) (by kernel_rfl) (wpOp_skip (w' := wr.drew.setCell ⟨g, k * 3 + 1, none⟩ (.slice da p.d.length dc)) rfl rfl (by go_simp) ⟨.inl rfl, ?_⟩)
        refine anyI_done (by kernel_rfl) ?_ _
        go_wp2
        go_roundw
        case rel => exact ⟨k + 1, by omega, by go_num, hide (HX2.out.later ⟨rfl, rfl, rfl, Nat.le_refl _, fun _ _ _ => rfl⟩), by simpa using hsz, by simp [go_sem, hoc], HR, HO2.out.later ⟨rfl, rfl, rfl, Nat.le_refl _, fun _ _ _ => rfl⟩⟩
        case measure => simp [intOf]; omega
    · have hkn : k = fs.length := by omega
      subst hkn
      have HO2 : Hid (OwF (w.heap.size + 2) wr (.slice ra fs.length rcap) (crashF keep fs)) := by
        have := hown
        rw [List.take_length, List.drop_length, List.append_nil] at this
        exact this
      have rr := HX.out.r
      have rf := HX.out.f
      clear hown
      go_wp2
      refine bodyPost_ret (v := .agg #[.slice ra fs.length rcap]) (by simp [results, Tryz.results25, go_sem, rr]) rfl ?_
      exact ⟨_, rfl, (HX.out.ends HO2.out (Nat.le_refl _) _).1, (HX.out.ends HO2.out (Nat.le_refl _) _).2⟩

end Go.Proofs.YtakkdniikhgpdaaGreatDoor

