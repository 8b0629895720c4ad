import Derived.Shelf.Strings.Split
import Derived.Test.YtalkhnhhaiigiaaGreatDoorMAW
import Derived.Test.YtalkhnhhaiigiaaGreatDoorMBI
namespace Go.Proofs.YtalkhnhhaiigiaaGreatDoor
open Go.RowKit

theorem mem_flat {dss : List (List Pc)} {p : Pc} (h : p ∈ dss.flatten) (hh : ∀ ds ∈ dss, ∀ q ∈ ds, q.t.length ≤ 1000000000) : p.t.length ≤ 1000000000 := by
  obtain ⟨ds, h1, h2⟩ := List.mem_flatten.1 h
  exact hh ds h1 p h2
theorem PaR.texts {w : World} {F : Nat → Prop} {v : Value} {dss : List (List Pc)} (h : PaR w F v dss) : ∀ ds ∈ dss, ∀ q ∈ ds, q.t.length ≤ 1000000000 := by
  intro ds hds
  obtain ⟨j, hj, rfl⟩ := List.getElem_of_mem hds
  obtain ⟨a, cap, e, h1, h2, h3⟩ := h
  obtain ⟨b, off, ha, hb, hbs, hc⟩ := h3 (fun e => by rw [e] at hj; simp at hj)
  obtain ⟨f, caps, _, h5⟩ := hc j dss[j] (by simp [hj])
  exact h5.2.1
theorem rowT_mem {dss : List (List Pc)} {p : Pc} (h : p ∈ rowT dss) (hh : ∀ ds ∈ dss, ∀ q ∈ ds, q.t.length ≤ 1000000000) : p.t.length ≤ 1000000000 := by
  unfold rowT at h
  obtain ⟨ds, h1, h2⟩ := List.mem_flatMap.1 h
  rcases List.mem_append.1 h2 with h2 | h2
  · exact hh ds h1 p h2
  · simp [catP] at h2; subst h2; simp

set_option maxHeartbeats 2000000 in
set_option maxRecDepth 100000 in
theorem overPart_any (kd n : Int) (v : Value) (dss : List (List Pc)) (F : Nat → Prop) (w : World) (hp : PaR w F v dss) (hF : ∀ k, F k → k < w.heap.size) (hl : dss.length ≤ 1000000000) :
    Calls Tryz.prog 85 #[.agg #[.int .i64 kd, .slice none 0 0, .int .i64 n], v] w fun e w' => ∃ f caps, e = .returned (.func (.func f) #[] caps) ∧ PartAt w' (fun k => F k ∨ (w.heap.size ≤ k ∧ k < w'.heap.size)) f caps (dss.flatten ++ [⟨kd, [], n⟩]) ∧ w.grownBy w' none := by
  obtain ⟨a, cap, hv, _, _⟩ := hp.sl
  subst hv
  go_enter Tryz.func85, Tryz.ntmps85
  go_wp2
  go_ret
  have g := grown_trans (World.grownBy_alloc w (Obj.cells #[.int .i64 kd, .slice none 0 0, .int .i64 n] 59) none) (World.grownBy_alloc _ (Obj.cells #[.slice a dss.length cap] 93) _)
  refine ⟨_, _, rfl, ⟨fun args W => by kernel_rfl, fun p h => ?_, fun H bd W s hk hd hbd hH => ?_⟩, g⟩
  · rcases List.mem_append.1 h with h | h
    · exact mem_flat h hp.texts
    · simp at h; subst h; simp
  · have h0 := hk w.heap.size (.inr ⟨Nat.le_refl _, by simp; omega⟩)
    have h1 := hk (w.heap.size + 1) (.inr ⟨by omega, by simp⟩)
    have hpW : PaR W F (.slice a dss.length cap) dss := hp.at (fun k h => h) (by have := h1.1; omega) (fun k h => (hk k (.inl h)).2.2.trans (g.block k (hF k h) (by simp)))
    exact overRun H bd (w.heap.size + 1) w.heap.size s F kd n _ dss W (fun k h => ⟨(hk k (.inl h)).1, (hk k (.inl h)).2.1⟩) ⟨h0.1, h0.2.1⟩ hl
      (cell_of_heap (by simp [go_sem]) h1.2.2) (cell_of_heap (by simp [go_sem]) h0.2.2) (cell_of_heap (by simp [go_sem]) h0.2.2) (cell_of_heap (by simp [go_sem]) h0.2.2) hpW hd hbd hH

theorem paR_nil (w : World) (F : Nat → Prop) : PaR w F (.slice none 0 0) [] := ⟨none, 0, rfl, Nat.le_refl _, by unfold maxLen; omega, fun h => absurd rfl h⟩

set_option maxHeartbeats 2000000 in
set_option maxRecDepth 100000 in
theorem leafPart_any (kd : Int) (w : World) :
    Calls Tryz.prog 51 #[.int .i64 kd] w fun e w' => ∃ f caps, e = .returned (.func (.func f) #[] caps) ∧ PartAt w' (fun k => w.heap.size ≤ k ∧ k < w'.heap.size) f caps (leafP kd) ∧ w.grownBy w' none := by
  have HO := hide (overPart_any kd 0 (.slice none 0 0) [] (fun _ => False) w (paR_nil _ _) (fun _ h => h.elim) (by simp))
  go_enter Tryz.func51, Tryz.ntmps51
  go_wp2_with fail
  refine HO.out.mono ?_
  rintro e w1 ⟨f, caps, rfl, hp, g⟩
  have HP := hide hp
  clear HO hp
  go_wp2
  go_ret
  exact ⟨f, caps, rfl, HP.out.at (fun k h => h.resolve_left (fun h => h)) (fun _ _ => rfl), g⟩

set_option maxHeartbeats 2000000 in
set_option maxRecDepth 100000 in
theorem row_any (v : Value) (dss : List (List Pc)) (F : Nat → Prop) (w : World) (hp : PaR w F v dss) (hF : ∀ k, F k → k < w.heap.size) (hl : dss.length ≤ 1000000000) :
    Calls Tryz.prog 52 #[v] w fun e w' => ∃ f caps, e = .returned (.func (.func f) #[] caps) ∧ PartAt w' (fun k => F k ∨ (w.heap.size ≤ k ∧ k < w'.heap.size)) f caps (rowP dss) ∧ w.grownBy w' none := by
  obtain ⟨a, cap, hv, _, _⟩ := hp.sl
  subst hv
  rcases dss with _ | ⟨d0, dss⟩
  · have HL : Hid (∀ W : World, _) := fun W => leafPart_any 0 W
    simp only [List.length_nil]
    have gA := World.grownBy_alloc w (Obj.cells #[.slice a 0 cap] 93) none
    have GA := hide gA
    clear hp
    go_enter Tryz.func52, Tryz.ntmps52
    go_wp2_with fail
    refine (HL.out _).mono ?_
    rintro e w1 ⟨f, caps, rfl, hp, g⟩
    have HP := hide hp
    have G := hide (grown_trans GA.out g)
    clear HL hp g
    go_wp2
    go_ret
    exact ⟨f, caps, rfl, HP.out.at (fun k h => .inr ⟨by have := h.1; simp at this; omega, h.2⟩) (fun _ _ => rfl), G.out⟩
  · have hll : (d0 :: dss).length = dss.length + 1 := rfl
    rw [hll] at *
    go_enter Tryz.func52, Tryz.ntmps52
    have hne : (((dss.length : Int) + 1) == 0) = false := by simp; omega
    go_wp2
    go_ret
    have g := World.grownBy_alloc w (Obj.cells #[.slice a (dss.length + 1) cap] 93) none
    refine ⟨_, _, rfl, ⟨fun args W => by kernel_rfl, fun p h => ?_, fun H bd W s hk hd hbd hH => ?_⟩, g⟩
    · rcases List.mem_append.1 h with h | h
      · exact hp.texts d0 (by simp) p h
      · exact rowT_mem h (fun ds hds => hp.texts ds (by simp [hds]))
    · have h0 := hk w.heap.size (.inr ⟨Nat.le_refl _, by simp⟩)
      have hpW : PaR W F (.slice a (dss.length + 1) cap) (d0 :: dss) := hp.at (fun k h => h) (by have := h0.1; omega) (fun k h => (hk k (.inl h)).2.2.trans (g.block k (hF k h) (by simp)))
      exact rowRun H bd w.heap.size s F _ d0 dss W (fun k h => ⟨(hk k (.inl h)).1, (hk k (.inl h)).2.1⟩) ⟨h0.1, h0.2.1⟩ (Nat.le_trans (Nat.le_succ _) hl) (cell_of_heap (by simp [go_sem]) h0.2.2) hpW hd hbd hH

/-- A list of parts of one's own. -/
def PoL (B : Nat) (w : World) (v : Value) (dss : List (List Pc)) : Prop :=
  ∃ (F : Nat → Prop) (xs : List Value), w.ownsRow B 51 1 v dss.length xs ∧ (∀ k, F k → B ≤ k ∧ k < w.heap.size ∧ v.ownBlock ≠ some k) ∧ ∀ (j : Nat) (ds : List Pc), dss[j]? = some ds → ∃ f caps, xs[j]? = some (.func (.func f) #[] caps) ∧ PartAt w F f caps ds
theorem PoL.nil (B : Nat) (w : World) : PoL B w (.slice none 0 0) [] := ⟨fun _ => False, [], ⟨by simp, .inl ⟨rfl, rfl⟩⟩, fun _ h => h.elim, fun j ds h => by simp at h⟩
theorem PoL.lt {B : Nat} {w : World} {v : Value} {dss : List (List Pc)} (h : PoL B w v dss) : ∀ k, v.ownBlock = some k → B ≤ k ∧ k < w.heap.size := by
  obtain ⟨F, xs, ho, _⟩ := h
  exact fun k e => World.ownsRow.lt ho k e
theorem PoL.sl {B : Nat} {w : World} {v : Value} {dss : List (List Pc)} (h : PoL B w v dss) : ∃ a cap, v = .slice a dss.length cap := by
  obtain ⟨F, xs, ho, _⟩ := h
  exact row_sliceB ho
theorem PoL.keep {B : Nat} {w w' : World} {v : Value} {dss : List (List Pc)} (h : PoL B w v dss) (g : w.grownBy w' none) : PoL B w' v dss := by
  obtain ⟨F, xs, ho, hF, hp⟩ := h
  refine ⟨F, xs, World.ownsRow.kept ho g (by cases v.ownBlock <;> simp), fun k hk => ⟨(hF k hk).1, Nat.lt_of_lt_of_le (hF k hk).2.1 g.size, (hF k hk).2.2⟩, fun j ds hj => ?_⟩
  obtain ⟨f, caps, h1, h2⟩ := hp j ds hj
  exact ⟨f, caps, h1, h2.at (fun _ h => h) (fun k hk => g.block k (hF k hk).2.1 (by simp))⟩
/-- It stays where a block that is none of its own turns. -/
theorem PoL.row {B : Nat} {w w' : World} {v : Value} {dss : List (List Pc)} {r : Nat} (h : PoL B w v dss) (g : w.grownBy w' (some r)) (hr : r < B) : PoL B w' v dss := by
  obtain ⟨F, xs, ho, hF, hp⟩ := h
  refine ⟨F, xs, World.ownsRow.kept ho g (.inr (fun e => by have := (World.ownsRow.lt ho r e).1; omega)), fun k hk => ⟨(hF k hk).1, Nat.lt_of_lt_of_le (hF k hk).2.1 g.size, (hF k hk).2.2⟩, fun j ds hj => ?_⟩
  obtain ⟨f, caps, h1, h2⟩ := hp j ds hj
  exact ⟨f, caps, h1, h2.at (fun _ h => h) (fun k hk => g.block k (hF k hk).2.1 (fun e => by have h1 := (hF k hk).1; simp only [Option.some.injEq] at e; omega))⟩
theorem PoL.base {B B' : Nat} {w : World} {v : Value} {dss : List (List Pc)} (h : PoL B w v dss) (hB : B' ≤ B) : PoL B' w v dss := by
  obtain ⟨F, xs, ho, hF, hp⟩ := h
  exact ⟨F, xs, row_base hB ho, fun k hk => ⟨Nat.le_trans hB (hF k hk).1, (hF k hk).2⟩, hp⟩
/-- Read as a list: its blocks lie between B and the heap's end. -/
theorem PoL.pa {B : Nat} {w : World} {v : Value} {dss : List (List Pc)} (h : PoL B w v dss) : ∃ F, (∀ k, F k → B ≤ k ∧ k < w.heap.size) ∧ PaR w F v dss := by
  obtain ⟨F, xs, ho, hF, hp⟩ := h
  refine ⟨fun k => F k ∨ v.ownBlock = some k, fun k hk => hk.elim (fun h => ⟨(hF k h).1, (hF k h).2.1⟩) (fun h => World.ownsRow.lt ho k h), ?_⟩
  rcases id ho.2 with ⟨hv, hn⟩ | ⟨g, cap, cur, hv, hg, hcur, hnc, hcm, _⟩
  · exact ⟨none, 0, by rw [hv, hn], by omega, by unfold maxLen; omega, fun h0 => absurd (List.eq_nil_of_length_eq_zero hn) h0⟩
  · refine ⟨_, cap, hv, hnc, hcm, fun h0 => ⟨g, 0, rfl, .inr (by rw [hv]; rfl), (World.ownsRow.lt ho g (by rw [hv]; rfl)).2, fun j ds hj => ?_⟩⟩
    obtain ⟨f, caps, h1, h2⟩ := hp j ds hj
    have hjl := (List.getElem?_eq_some_iff.1 hj).1
    rw [hv] at ho
    exact ⟨f, caps, by rw [Nat.zero_add, World.ownsRow.cellAt ho j (by omega)]; exact h1, h2.at (fun _ h => .inl h) (fun _ _ => rfl)⟩

theorem infoPt : (Tryz.prog.info? 51).map (fun i => (i.zero, i.size, i.bytes)) = some (some .nilFunc, 1, 8) := by kernel_rfl

/-- 'append(v, u...)' of parts. -/
theorem append_parts (B : Nat) (w : World) (v u : Value) (dss ess : List (List Pc)) (G : Nat → Prop) (hv : PoL B w v dss) (hu : PaR w G u ess) (hG : ∀ k, G k → B ≤ k ∧ k < w.heap.size ∧ v.ownBlock ≠ some k) (hB : B ≤ w.heap.size) (hn : dss.length + ess.length ≤ 1000000000) :
    ∃ v' w', (Builtin.append_ #[93, 93] 93 #[v, u]).run Tryz.prog w = .ok v' w' ∧ PoL B w' v' (dss ++ ess) ∧ w.grownBy w' v.ownBlock := by
  obtain ⟨i0, hi, hz0, hz1, hz2⟩ := info_parts infoPt
  obtain ⟨F, xs, ho, hF, hp⟩ := id hv
  obtain ⟨a, cap, rfl, hc1, hc2, hq⟩ := hu
  cases a with
  | none =>
    have hq0 : ess = [] := by
      rcases ess with _ | ⟨z, zs⟩
      · rfl
      · obtain ⟨b, off, ha, _⟩ := hq (by simp); cases ha
    subst hq0
    exact ⟨v, w, run_noneF B _ _ _ i0 1 Tryz.underlying93 hi v _ _ ho cap, by rw [List.append_nil]; exact hv, World.grownBy.refl _ _⟩
  | some ad =>
    obtain ⟨ys, hyl, hys, hnews⟩ : ∃ ys : List Value, ys.length = ess.length ∧ (∀ (j : Nat) (ds : List Pc), ess[j]? = some ds → ∃ f caps, ys[j]? = some (.func (.func f) #[] caps) ∧ PartAt w G f caps ds) ∧ ∀ (j : Nat) (x : Value), ys[j]? = some x → w.cell? (ad.add j) = some x ∧ x.oneCell' = true := by
      by_cases h0 : ess = []
      · subst h0; exact ⟨[], rfl, fun j ds h => by simp at h, fun j x h => by simp at h⟩
      · obtain ⟨b, off, ha, hb, hbs, hcc⟩ := hq h0
        cases ha
        refine ⟨(List.range ess.length).map fun j => (w.cell? ⟨b, off + j, none⟩).getD default, by simp, fun j ds hj => ?_, fun j x hx => ?_⟩
        · obtain ⟨f, caps, h1, h2⟩ := hcc j ds hj
          have hjl := (List.getElem?_eq_some_iff.1 hj).1
          exact ⟨f, caps, by simp [hjl, h1], h2⟩
        · have hjl : j < ess.length := by have := (List.getElem?_eq_some_iff.1 hx).1; simpa using this
          obtain ⟨f, caps, h1, h2⟩ := hcc j ess[j] (by simp [hjl])
          simp only [List.getElem?_map, List.getElem?_range hjl, Option.map_some, h1, Option.getD_some, Option.some.injEq] at hx
          subst hx
          rw [Addr.add_lit]
          exact ⟨h1, rfl⟩
    obtain ⟨v', w', hrun, h1, h2, _, h4⟩ := run_append_own_at (P := Tryz.prog) w B 93 93 51 i0 .nilFunc 1 8 Tryz.underlying93 hi hz0 hz1 hz2 rfl (by decide) v dss.length xs ho ad ess.length cap ys (by omega) (fun j u hj => (hnews j u hj).1)
      (by intro x hx; obtain ⟨j, hj, rfl⟩ := List.getElem_of_mem hx; exact (hnews j _ (List.getElem?_eq_getElem hj)).2) (by unfold maxLen; omega) (by omega) hB
    have hvb : ∀ x, v'.ownBlock = some x → (v.ownBlock = some x ∨ x = w.heap.size) := fun x e => by
      rcases h4 with h | h
      · exact .inl (by rw [← h]; exact e)
      · rw [h] at e; cases e; exact .inr rfl
    refine ⟨v', w', hrun, ⟨fun k => F k ∨ G k, xs ++ ys, by rw [List.length_append]; exact h1, ?_, fun j ds hj => ?_⟩, h2⟩
    · intro k hk
      have hh : B ≤ k ∧ k < w.heap.size ∧ v.ownBlock ≠ some k := hk.elim (hF k) (hG k)
      refine ⟨hh.1, Nat.lt_of_lt_of_le hh.2.1 h2.size, fun e => ?_⟩
      rcases hvb k e with h | h
      · exact hh.2.2 h
      · have := hh.2.1; omega
    · have hxl := ho.1
      have stay : ∀ k, (F k ∨ G k) → w'.heap[k]? = w.heap[k]? := fun k hk => by
        have hh : B ≤ k ∧ k < w.heap.size ∧ v.ownBlock ≠ some k := hk.elim (hF k) (hG k)
        exact h2.block k hh.2.1 (fun e => hh.2.2 e.symm)
      by_cases hjl : j < dss.length
      · rw [List.getElem?_append_left hjl] at hj
        obtain ⟨f, caps, k1, k2⟩ := hp j ds hj
        exact ⟨f, caps, by rw [List.getElem?_append_left (by omega)]; exact k1, k2.at (fun _ h => .inl h) (fun k h => stay k (.inl h))⟩
      · rw [List.getElem?_append_right (by omega)] at hj
        obtain ⟨f, caps, k1, k2⟩ := hys _ ds hj
        refine ⟨f, caps, ?_, k2.at (fun _ h => .inr h) (fun k h => stay k (.inr h))⟩
        rw [List.getElem?_append_right (by omega), show j - xs.length = j - dss.length by omega]; exact k1

/-- Fresh function values in a row just laid. -/
theorem pa_one {w w1 : World} {f : Nat} {caps : Array Value} {ds : List Pc} (g : w.grownBy w1 none) (h : PartAt w1 (fun k => w.heap.size ≤ k ∧ k < w1.heap.size) f caps ds) :
    PaR (w1.alloc (Obj.cells #[.func (.func f) #[] caps] 51)) (fun k => w.heap.size ≤ k ∧ k < (w1.alloc (Obj.cells #[.func (.func f) #[] caps] 51)).heap.size) (.slice (some ⟨w1.heap.size, 0, none⟩) 1 1) [ds] := by
  have gA := World.grownBy_alloc w1 (Obj.cells #[.func (.func f) #[] caps] 51) none
  refine ⟨_, 1, rfl, Nat.le_refl _, by unfold maxLen; omega, fun _ => ⟨w1.heap.size, 0, rfl, ⟨g.size, by simp⟩, by simp, fun j d hj => ?_⟩⟩
  match j, hj with
  | 0, hj => simp at hj; subst hj; exact ⟨f, caps, by simp [go_sem], h.at (fun k hk => ⟨hk.1, by simp; omega⟩) (fun k hk => gA.block k hk.2 (by simp))⟩
  | j + 1, hj => simp at hj
theorem pa_two {w w1 : World} {f f2 : Nat} {caps caps2 : Array Value} {ds ds2 : List Pc} (g : w.grownBy w1 none) (h : PartAt w1 (fun k => w.heap.size ≤ k ∧ k < w1.heap.size) f caps ds) (h2 : PartAt w1 (fun k => w.heap.size ≤ k ∧ k < w1.heap.size) f2 caps2 ds2) :
    PaR (w1.alloc (Obj.cells #[.func (.func f) #[] caps, .func (.func f2) #[] caps2] 51)) (fun k => w.heap.size ≤ k ∧ k < (w1.alloc (Obj.cells #[.func (.func f) #[] caps, .func (.func f2) #[] caps2] 51)).heap.size) (.slice (some ⟨w1.heap.size, 0, none⟩) 2 2) [ds, ds2] := by
  have gA := World.grownBy_alloc w1 (Obj.cells #[.func (.func f) #[] caps, .func (.func f2) #[] caps2] 51) none
  refine ⟨_, 2, rfl, Nat.le_refl _, by unfold maxLen; omega, fun _ => ⟨w1.heap.size, 0, rfl, ⟨g.size, by simp⟩, by simp, fun j d hj => ?_⟩⟩
  match j, hj with
  | 0, hj => simp at hj; subst hj; exact ⟨f, caps, by simp [go_sem], h.at (fun k hk => ⟨hk.1, by simp; omega⟩) (fun k hk => gA.block k hk.2 (by simp))⟩
  | 1, hj => simp at hj; subst hj; exact ⟨f2, caps2, by simp [go_sem], h2.at (fun k hk => ⟨hk.1, by simp; omega⟩) (fun k hk => gA.block k hk.2 (by simp))⟩
  | j + 2, hj => simp at hj
theorem pa_four {w w1 : World} {f f2 f3 f4 : Nat} {caps caps2 caps3 caps4 : Array Value} {ds ds2 ds3 ds4 : List Pc} (g : w.grownBy w1 none) (h : PartAt w1 (fun k => w.heap.size ≤ k ∧ k < w1.heap.size) f caps ds) (h2 : PartAt w1 (fun k => w.heap.size ≤ k ∧ k < w1.heap.size) f2 caps2 ds2) (h3 : PartAt w1 (fun k => w.heap.size ≤ k ∧ k < w1.heap.size) f3 caps3 ds3) (h4 : PartAt w1 (fun k => w.heap.size ≤ k ∧ k < w1.heap.size) f4 caps4 ds4) :
    PaR (w1.alloc (Obj.cells #[.func (.func f) #[] caps, .func (.func f2) #[] caps2, .func (.func f3) #[] caps3, .func (.func f4) #[] caps4] 51)) (fun k => w.heap.size ≤ k ∧ k < (w1.alloc (Obj.cells #[.func (.func f) #[] caps, .func (.func f2) #[] caps2, .func (.func f3) #[] caps3, .func (.func f4) #[] caps4] 51)).heap.size) (.slice (some ⟨w1.heap.size, 0, none⟩) 4 4) [ds, ds2, ds3, ds4] := by
  have gA := World.grownBy_alloc w1 (Obj.cells #[.func (.func f) #[] caps, .func (.func f2) #[] caps2, .func (.func f3) #[] caps3, .func (.func f4) #[] caps4] 51) none
  refine ⟨_, 4, rfl, Nat.le_refl _, by unfold maxLen; omega, fun _ => ⟨w1.heap.size, 0, rfl, ⟨g.size, by simp⟩, by simp, fun j d hj => ?_⟩⟩
  match j, hj with
  | 0, hj => simp at hj; subst hj; exact ⟨f, caps, by simp [go_sem], h.at (fun k hk => ⟨hk.1, by simp; omega⟩) (fun k hk => gA.block k hk.2 (by simp))⟩
  | 1, hj => simp at hj; subst hj; exact ⟨f2, caps2, by simp [go_sem], h2.at (fun k hk => ⟨hk.1, by simp; omega⟩) (fun k hk => gA.block k hk.2 (by simp))⟩
  | 2, hj => simp at hj; subst hj; exact ⟨f3, caps3, by simp [go_sem], h3.at (fun k hk => ⟨hk.1, by simp; omega⟩) (fun k hk => gA.block k hk.2 (by simp))⟩
  | 3, hj => simp at hj; subst hj; exact ⟨f4, caps4, by simp [go_sem], h4.at (fun k hk => ⟨hk.1, by simp; omega⟩) (fun k hk => gA.block k hk.2 (by simp))⟩
  | j + 4, hj => simp at hj
/-- A list of one part, just laid. -/
theorem pol_one {w w1 : World} {f : Nat} {caps : Array Value} {ds : List Pc} (g : w.grownBy w1 none) (h : PartAt w1 (fun k => w.heap.size ≤ k ∧ k < w1.heap.size) f caps ds) :
    PoL w.heap.size (w1.alloc (Obj.cells #[.func (.func f) #[] caps] 51)) (.slice (some ⟨w1.heap.size, 0, none⟩) 1 1) [ds] := by
  have gA := World.grownBy_alloc w1 (Obj.cells #[.func (.func f) #[] caps] 51) none
  refine ⟨fun k => w.heap.size ≤ k ∧ k < w1.heap.size, [.func (.func f) #[] caps], ⟨by simp, .inr ⟨w1.heap.size, 1, #[.func (.func f) #[] caps], rfl, g.size, by show (w1.heap.push _)[w1.heap.size]? = _; simp, Nat.le_refl _, by unfold maxLen; omega, by simp, by simp⟩⟩, fun k hk => ⟨hk.1, by have := hk.2; simp; omega, fun e => by have h2 := hk.2; simp only [Value.ownBlock, Option.some.injEq] at e; omega⟩, fun j d hj => ?_⟩
  match j, hj with
  | 0, hj => simp at hj; subst hj; exact ⟨f, caps, rfl, h.at (fun k hk => hk) (fun k hk => gA.block k hk.2 (by simp))⟩
  | j + 1, hj => simp at hj
/-- A part keeps, and may be said to live in more. -/
theorem PartAt.more {w w1 w2 : World} {B : Nat} {f : Nat} {caps : Array Value} {ds : List Pc} (h : PartAt w1 (fun k => w.heap.size ≤ k ∧ k < w1.heap.size) f caps ds) (hB : B ≤ w.heap.size) (g : w1.grownBy w2 none) : PartAt w2 (fun k => B ≤ k ∧ k < w2.heap.size) f caps ds :=
  h.at (fun k hk => ⟨Nat.le_trans hB hk.1, Nat.lt_of_lt_of_le hk.2 g.size⟩) (fun k hk => g.block k hk.2 (by simp))
end Go.Proofs.YtalkhnhhaiigiaaGreatDoor

namespace Go.Proofs.YtalkhnhhaiigiaaGreatDoor
open Go.RowKit Go.Shelf

def splRen : Go.Shelf.Ren := ⟨fun | 146 => 112 | 221 => 129 | 268 => 147 | 138 => 148 | 143 => 149 | 195 => 158 | 197 => 159 | 218 => 160 | 219 => 161 | 260 => 162 | 217 => 163 | 225 => 164 | 224 => 140 | 267 => 165 | 266 => 166 | 314 => 167 | n => n, fun | 9 => 9 | 31 => 108 | 3 => 3 | 4 => 4 | 0 => 0 | 105 => 146 | 21 => 21 | 5 => 5 | 46 => 158 | 119 => 171 | 139 => 174 | 138 => 173 | 146 => 165 | 51 => 164 | n => n, fun | 1 => 1 | 3 => 2 | 4 => 3 | n => n⟩
theorem splLays : Go.Proofs.Lays.n146 Tryz.prog splRen := {
  mixed := by kernel_rfl
  f138 := Tryz.func148.trans (congrArg some (by kernel_rfl))
  f143 := Tryz.func149.trans (congrArg some (by kernel_rfl))
  f146 := Tryz.func112.trans (congrArg some (by kernel_rfl))
  f195 := Tryz.func158.trans (congrArg some (by kernel_rfl))
  f197 := Tryz.func159.trans (congrArg some (by kernel_rfl))
  f217 := Tryz.func163.trans (congrArg some (by kernel_rfl))
  f218 := Tryz.func160.trans (congrArg some (by kernel_rfl))
  f219 := Tryz.func161.trans (congrArg some (by kernel_rfl))
  f221 := Tryz.func129.trans (congrArg some (by kernel_rfl))
  f224 := Tryz.func140.trans (congrArg some (by kernel_rfl))
  f225 := Tryz.func164.trans (congrArg some (by kernel_rfl))
  f260 := Tryz.func162.trans (congrArg some (by kernel_rfl))
  f266 := Tryz.func166.trans (congrArg some (by kernel_rfl))
  f267 := Tryz.func165.trans (congrArg some (by kernel_rfl))
  f268 := Tryz.func147.trans (congrArg some (by kernel_rfl))
  f314 := Tryz.func167.trans (congrArg some (by kernel_rfl))
  t0 := Tryz.underlying0
  a0 := Tryz.isAgg0
  z0 := Tryz.sizeOf0
  v0 := Tryz.zeroValue0
  t3 := Tryz.underlying3
  a3 := Tryz.isAgg3
  z3 := Tryz.sizeOf3
  v3 := Tryz.zeroValue3
  t4 := Tryz.underlying4
  a4 := Tryz.isAgg4
  z4 := Tryz.sizeOf4
  v4 := Tryz.zeroValue4
  t5 := Tryz.underlying5
  a5 := Tryz.isAgg5
  z5 := Tryz.sizeOf5
  v5 := Tryz.zeroValue5
  t9 := Tryz.underlying9
  a9 := Tryz.isAgg9
  z9 := Tryz.sizeOf9
  v9 := Tryz.zeroValue9
  t21 := Tryz.underlying21
  a21 := Tryz.isAgg21
  z21 := Tryz.sizeOf21
  v21 := Tryz.zeroValue21
  t31 := Tryz.underlying108
  a31 := Tryz.isAgg108
  z31 := Tryz.sizeOf108
  v31 := Tryz.zeroValue108
  t46 := Tryz.underlying158
  a46 := Tryz.isAgg158
  z46 := Tryz.sizeOf158
  v46 := Tryz.zeroValue158
  t51 := Tryz.underlying164
  a51 := Tryz.isAgg164
  z51 := Tryz.sizeOf164
  v51 := Tryz.zeroValue164
  t105 := Tryz.underlying146
  a105 := Tryz.isAgg146
  z105 := Tryz.sizeOf146
  v105 := Tryz.zeroValue146
  t119 := Tryz.underlying171
  a119 := Tryz.isAgg171
  z119 := Tryz.sizeOf171
  t138 := Tryz.underlying173
  a138 := Tryz.isAgg173
  z138 := Tryz.sizeOf173
  v138 := Tryz.zeroValue173
  t139 := Tryz.underlying174
  a139 := Tryz.isAgg174
  z139 := Tryz.sizeOf174
  v139 := Tryz.zeroValue174
  t146 := Tryz.underlying165
  a146 := Tryz.isAgg165
  z146 := Tryz.sizeOf165
  v146 := Tryz.zeroValue165
  g1 := by kernel_rfl
  g3 := by kernel_rfl
  g4 := by kernel_rfl }

def headC {α : Type} (x : α) : List (List α) → List (List α)
  | [] => []
  | l :: ls => (x :: l) :: ls
theorem spl_cur (xs : List Int) : ∀ (x : Int) (cur : List Int), spl (x :: cur) xs = headC x (spl cur xs) := by
  induction xs with
  | nil => intro x cur; rfl
  | cons y ys ih =>
    intro x cur
    simp only [spl]
    split
    · rfl
    · exact ih x (cur ++ [y])
theorem spl_step (x : Int) (xs : List Int) : spl [] (x :: xs) = if x = 10 then [] :: spl [] xs else headC x (spl [] xs) := by
  simp only [spl, List.nil_append]
  split
  · rfl
  · exact spl_cur xs x []

theorem count_nil (c : UInt8) : Lib.count [] [c] = 0 := by rw [Lib.count_one]; rfl
theorem idx_cons_ne (b c : UInt8) (l : List UInt8) (h : b ≠ c) : Lib.index (b :: l) [c] = if Lib.index l [c] == -1 then -1 else Lib.index l [c] + 1 := by
  have : ([c] : List UInt8).isPrefixOf (b :: l) = false := by simp [List.isPrefixOf]; exact fun e => h e.symm
  rw [Lib.index, this]
  rfl
theorem idx_cons_eq (c : UInt8) (l : List UInt8) : Lib.index (c :: l) [c] = 0 := by
  have : ([c] : List UInt8).isPrefixOf (c :: l) = true := by simp [List.isPrefixOf]
  rw [Lib.index, this]
  rfl
theorem split_step (b c : UInt8) (l : List UInt8) : Lib.split (b :: l) [c] = if b = c then [] :: Lib.split l [c] else headC b (Lib.split l [c]) := by
  unfold Lib.split
  by_cases h : b = c
  · subst h
    rw [if_pos rfl, Lib.count_cons_eq, Nat.add_comm, Lib.splitK, idx_cons_eq]
    simp
  · rw [if_neg h, Lib.count_cons_ne b c l h]
    cases hk : Lib.count l [c] with
    | zero => rfl
    | succ k =>
      simp only [Lib.splitK]
      rw [idx_cons_ne b c l h]
      by_cases hi : Lib.index l [c] = -1
      · simp [hi, headC]
      · have hge := Lib.index_ge l [c]
        have hb : (Lib.index l [c] == -1) = false := by simpa using hi
        have hb2 : (Lib.index l [c] + 1 == -1) = false := by simp; omega
        simp only [hb, Bool.false_eq_true, if_false, hb2]
        obtain ⟨n, hn⟩ : ∃ n : Nat, Lib.index l [c] = n := ⟨(Lib.index l [c]).toNat, by omega⟩
        rw [hn]
        rw [show ((n : Int) + 1).toNat = n + 1 by omega, show ((n : Int)).toNat = n by omega]
        simp [headC]

def byU (zs : List Int) : List UInt8 := zs.map fun n => UInt8.ofNat n.toNat
theorem split_spl : ∀ (zs : List Int), Bys zs → Lib.split (byU zs) [10] = (spl [] zs).map byU
  | [], _ => by
    show Lib.split [] [10] = _
    unfold Lib.split
    rw [count_nil]
    rfl
  | z :: zs, h => by
    have ih := split_spl zs (fun x hx => h x (by simp [hx]))
    have hz := h z (by simp)
    have e : byU (z :: zs) = UInt8.ofNat z.toNat :: byU zs := rfl
    rw [e, split_step, ih, spl_step]
    have hiff : UInt8.ofNat z.toNat = 10 ↔ z = 10 := by
      constructor
      · intro h
        have := congrArg UInt8.toNat h
        simp at this
        omega
      · intro h; subst h; rfl
    by_cases h10 : z = 10
    · rw [if_pos (hiff.2 h10), if_pos h10]; rfl
    · rw [if_neg (fun e => h10 (hiff.1 e)), if_neg h10]
      cases spl [] zs with
      | nil => rfl
      | cons l ls => rfl
theorem strOf_data (zs : List Int) : (strOfNums zs).data.toList = byU zs := rfl
theorem splitB_spl (zs : List Int) (h : Bys zs) : Lib.splitB ⟨#[10]⟩ 0 (Lib.countB (strOfNums zs) ⟨#[10]⟩) (strOfNums zs) = (spl [] zs).map strOfNums := by
  have h1 := Lib.splitB_data ⟨#[10]⟩ 0 (Lib.countB (strOfNums zs) ⟨#[10]⟩) (strOfNums zs)
  have h2 : Lib.splitK (⟨#[10]⟩ : ByteArray).data.toList 0 (Lib.countB (strOfNums zs) ⟨#[10]⟩) (strOfNums zs).data.toList = Lib.split (byU zs) [10] := rfl
  rw [h2, split_spl zs h] at h1
  have inj : ∀ (a : List ByteArray) (b : List (List Int)), a.map (·.data.toList) = b.map byU → a = b.map strOfNums := by
    intro a
    induction a with
    | nil => intro b e; cases b with
      | nil => rfl
      | cons x b => simp at e
    | cons x a ih =>
      intro b e
      cases b with
      | nil => simp at e
      | cons y b =>
        simp only [List.map_cons, List.cons.injEq] at e
        rw [List.map_cons, ih b e.2]
        congr 1
        have : x.data = (strOfNums y).data := Array.toList_inj.1 (by rw [strOf_data]; exact e.1)
        cases x
        cases this
        rfl
  exact inj _ _ h1

/-- strings.Split at LF. -/
theorem split_any (zs : List Int) (h : Bys zs) (m : Int) (w : World) (hs : zs.length < 4294967281) (hm : w.cell? ⟨1, 0, none⟩ = some (.int .i64 m)) :
    Calls Tryz.prog 112 #[.string (strOfNums zs), .string { data := #[10] }] w fun e w' => e = .returned (.slice (some ⟨w.heap.size, 0, none⟩) (spl [] zs).length (spl [] zs).length) ∧ w.alloc (.cells (((spl [] zs).map strOfNums).map Value.string).toArray 9) = w' := by
  have h1 := Any.strings_Split splLays (by kernel_rfl) (strOfNums zs) { data := #[10] } m w (by rw [strOfNums_size]; exact hs) hm (by decide)
  refine h1.mono ?_
  rintro e w' ⟨rfl, rfl⟩
  have hl := congrArg List.length (splitB_spl zs h)
  rw [Lib.splitB_all _ (by decide) 0 _ _ rfl, List.length_map] at hl
  refine ⟨by rw [hl], ?_⟩
  rw [← splitB_spl zs h]
  rfl
end Go.Proofs.YtalkhnhhaiigiaaGreatDoor

