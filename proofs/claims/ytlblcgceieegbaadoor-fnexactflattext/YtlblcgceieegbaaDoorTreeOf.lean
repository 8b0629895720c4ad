import Derived.Test.YtlblcgceieegbaaDoorTake
import Derived.Test.YtlblcgceieegbaaDoorSpecValid
namespace Go.Proofs.YtlblcgceieegbaaDoor
open Go.RowKit

theorem imGo_go (doc : List Pc) (k : Nat) (hk : k < doc.length) (room : Int) (st : List (Tr × Int)) (r : Int) (s : List (Tr × Int)) (h : imStep room st doc[k] = some (r, s)) : imGo (doc.drop k) room st = imGo (doc.drop (k + 1)) r s := by
  rw [List.drop_eq_getElem_cons hk]; simp only [imGo, h, Option.bind_some]
theorem imGo_bad (doc : List Pc) (k : Nat) (hk : k < doc.length) (room : Int) (st : List (Tr × Int)) (h : imStep room st doc[k] = none) : imGo (doc.drop k) room st = none := by
  rw [List.drop_eq_getElem_cons hk]; simp only [imGo, h, Option.bind_none]

theorem good_rs {rs : List Mk} (h : Good (stOf rs)) : ∀ x ∈ rs, 0 ≤ x.n ∧ x.n ≤ 4000 := by
  intro x hx
  have := h (x.T, x.n) (by simp only [stOf, List.mem_reverse, List.mem_map]; exact ⟨x, hx, rfl⟩)
  exact ⟨this.2.1, this.2.2⟩

theorem imStep_len {room r : Int} {st s : List (Tr × Int)} {p : Pc} (h : imStep room st p = some (r, s)) : s.length ≤ st.length + 1 := by
  unfold imStep at h
  split at h
  · cases h
  · split at h
    · split at h
      · cases h
      · split at h
        · cases h
        · cases h; simp
    · split at h
      · cases h; simp
      · split at h
        · split at h
          · cases h; simp
          · cases h
        · split at h
          · split at h
            · split at h
              · cases h
              · cases h; simp
            · cases h
          · cases h

theorem bst_new {w : World} (room : Int) (t : TypeId) : Bst w.heap.size (w.alloc (.cells #[.slice none 0 0, .int .i64 room] t)) w.heap.size (.slice none 0 0) [] room :=
  ⟨Nat.le_refl _, by simp [go_sem], by simp [go_sem], by simp [go_sem], by simp [go_sem], World.ownsRow_nil _ _ _ _, by simp [Value.ownBlock], fun x hx => by cases hx⟩

/-- What treeOf leaves. -/
def TreeSays (doc : List Pc) (w : World) (e : Ending) (w' : World) : Prop :=
  Below w.heap.size w w' ∧ ((doc.length ≤ 40000 ∧ ∃ T n u, imGo doc 100000 [] = some [(T, n)] ∧ e = .returned u ∧ Rep (fun _ => False) w.heap.size w' u T) ∨
    (e = .returned .nilIface ∧ (40000 < doc.length ∨ imGo doc 100000 [] = none ∨ ∃ s, imGo doc 100000 [] = some s ∧ s.length ≠ 1)))

set_option maxHeartbeats 2000000 in
set_option maxRecDepth 100000 in
theorem treeOf_any (v : Value) (doc : List Pc) (w : World) (hv : RdP w.heap.size w v doc) (hd : Doc doc) (hT : Tab w) :
    Calls Tryd.prog 24 #[v] w fun e w' => TreeSays doc w e w' := by
  obtain ⟨a, cap, hv0, hcap, hmax, _⟩ := id hv
  have hl := hd.len
  have hpos := hT.pos
  by_cases h4 : doc.length > 40000
  · have HF : Hid (40000 < doc.length) := h4
    subst hv0
    clear hv hT
    go_enter Tryd.func24, Tryd.ntmps24
    go_wp2
    go_ret
    exact ⟨Below.refl _ _, .inr ⟨rfl, .inl HF.out⟩⟩
  subst hv0
  have HV : Hid (RdP w.heap.size w (.slice a doc.length cap) doc) := hv
  have HT : Hid (Tab w) := hT
  have HB : Hid (Bst w.heap.size (w.alloc (.cells #[.slice none 0 0, .int .i64 100000] 70)) w.heap.size (.slice none 0 0) [] 100000) := bst_new _ _
  clear hv hT
  go_enter Tryd.func24, Tryd.ntmps24
  go_wp2
  go_loopw [12] (fun i wr => ∃ (k : Nat) (rv : Value) (rs : List Mk) (room : Int), k ≤ doc.length ∧ i = .int .i64 k ∧ Bst w.heap.size wr w.heap.size rv rs room ∧ Hid (imGo (doc.drop k) room (stOf rs) = imGo doc 100000 []) ∧ 0 ≤ room ∧ room ≤ 100000 ∧ Good (stOf rs) ∧ rs.length ≤ k ∧ Below w.heap.size w wr)
    (fun i _ => doc.length - (intOf i).toNat)
  case atStart => exact ⟨0, _, [], 100000, Nat.zero_le _, rfl, HB.out, rfl, by omega, by omega, (fun x hx => by cases hx), Nat.le_refl _, (Below.refl _ _).alloc (Nat.le_refl _) _⟩
  case round =>
    obtain ⟨k, rv, rs, room, hk, rfl, hS, HG, hr0, hr1, hgood, hrl, bel⟩ := hrel
    have hbs := bel.size
    by_cases hlt : k < doc.length
    · obtain ⟨b, off, cap', tv, hva, hb, hp⟩ := (HV.out.beside (grown_of_below bel) (fun _ e => by cases e)).at k hlt
      cases hva
      have hk0 := hp.k; have ht0 := hp.t; have hn0 := hp.n
      have hmem := List.getElem_mem hlt
      have hgA : wr.grownBy (wr.alloc (.cells #[.int .i64 doc[k].k, tv, .int .i64 doc[k].n] 39)) none := World.grownBy_alloc _ _ _
      have htake := take_any w.heap.size _ w.heap.size rv rs room doc[k] tv (hS.keep hgA) (hp.rd.keep hgA) hp.sl (hd.bys _ hmem) (hd.tlen _ hmem) hr0 hr1 (by simp; omega) hpos ((HT.out.below bel hpos).keep hgA) (by omega) (good_rs hgood)
      have hie := imStep_eq room (stOf rs) doc[k] hr0 hgood
      have hgo := imGo_go doc k hlt room (stOf rs)
      have hbad := imGo_bad doc k hlt room (stOf rs)
      have HBA : Hid (Below w.heap.size w (wr.alloc (.cells #[.int .i64 doc[k].k, tv, .int .i64 doc[k].n] 39))) := bel.alloc hbs _
      obtain ⟨ta, tcap, htv, _, _⟩ := hp.sl
      subst htv
      clear hp hmem hgA hgood HV HT HB hS bel
      generalize doc[k] = p at *
      cases hst : imStep room (stOf rs) p with
      | none =>
        have HF : Hid (imGo doc 100000 [] = none) := by unfold Hid; rw [← HG.out]; exact hbad hst
        rw [hst] at htake
        clear hie hgo hbad hst HG
        go_wp2_with fail
        refine htake.mono ?_
        rintro e w1 ⟨b1, h1⟩
        simp only at h1
        subst h1
        go_wp2
        go_ret
        exact ⟨HBA.out.trans b1, .inr ⟨rfl, .inr (.inl HF.out)⟩⟩
      | some x =>
        obtain ⟨r, s⟩ := x
        have HG2 : Hid (imGo (doc.drop (k + 1)) r s = imGo doc 100000 []) := by unfold Hid; rw [← HG.out]; exact (hgo r s hst).symm
        have hfacts : 0 ≤ r ∧ r ≤ 100000 ∧ Good s := by
          rcases hie with ⟨s', h1, h2, h3, h4, h5⟩ | ⟨h1, _⟩
          · rw [hst] at h1
            cases h1
            exact ⟨by omega, by omega, h5⟩
          · rw [hst] at h1; cases h1
        obtain ⟨f1, f2, f3⟩ := hfacts
        have hsl := imStep_len hst
        rw [stOf_len] at hsl
        have HF3 : Hid (Good s) := f3
        rw [hst] at htake
        clear hie hgo hbad hst HG f3
        go_wp2_with fail
        refine htake.mono ?_
        rintro e w1 ⟨b1, h1, rv', rs', h2, h3⟩
        subst h1
        have hrl' : rs'.length ≤ k + 1 := by rw [← stOf_len, h2]; omega
        have H2 : Hid (stOf rs' = s) := h2
        clear h2
        go_wp2
        go_roundw
        case rel => exact ⟨k + 1, rv', rs', r, by omega, by go_num, h3, by unfold Hid; rw [H2.out]; exact HG2.out, f1, f2, by rw [H2.out]; exact HF3.out, hrl', HBA.out.trans b1⟩
        case measure => simp [intOf]; omega
    · have hkn : k = doc.length := by omega
      have HF : Hid (imGo doc 100000 [] = some (stOf rs)) := by unfold Hid; rw [← HG.out, hkn]; simp [imGo]
      have c0 := hS.c0
      obtain ⟨ra, rcap, hrv, hrc, hrm⟩ := row_form hS.row
      unfold maxLen at hrm
      by_cases h1 : rs.length = 1
      · obtain ⟨X, hX⟩ : ∃ X, rs = [X] := List.length_eq_one_iff.1 h1
        subst hX
        have hrep := hS.rep X (by simp)
        obtain ⟨tx, ux, hxv⟩ := hrep.form
        rcases hS.row.2 with ⟨_, h0⟩ | ⟨g, cp, cur, hrg, hbg, hg, hnc, hcm, hcs, htk⟩
        · simp at h0
        · have hrow := hS.row
          rw [hrg] at hrow c0
          have m0 := World.ownsRow.cellAt hrow 0 (by simp)
          simp only [mCells, List.getElem?_cons_zero, hxv] at m0
          simp only [List.length_cons, List.length_nil, Nat.zero_add] at c0
          have HR : Hid (Rep (fun _ => False) w.heap.size wr (.iface tx ux) X.T) := by
            unfold Hid
            rw [← hxv]
            exact hrep.turn (Nat.le_refl _) (fun _ _ _ => rfl) (fun _ _ h => h.elim) (fun _ _ h => h)
          have HF2 : Hid (imGo doc 100000 [] = some [(X.T, X.n)]) := by unfold Hid; rw [HF.out]; rfl
          clear hS hrow hg hcs htk hrep HV HT HB HF hrg HG hgood h1 hrv
          go_wp2
          go_ret
          exact ⟨bel, .inl ⟨by omega, X.T, X.n, _, HF2.out, rfl, HR.out⟩⟩
      · have e1 : ((rs.length : Int) != 1) = true := by simp; omega
        have HF2 : Hid (∃ s, imGo doc 100000 [] = some s ∧ s.length ≠ 1) := ⟨_, HF.out, by rw [stOf_len]; exact h1⟩
        subst hrv
        clear hS HV HT HB HF HG hgood h1
        go_wp2
        go_ret
        exact ⟨bel, .inr ⟨rfl, .inr (.inr HF2.out)⟩⟩

theorem treeOf_says {doc : List Pc} {w : World} {e : Ending} {w' : World} (h : TreeSays doc w e w') :
    Below w.heap.size w w' ∧ ((specV doc = true ∧ ∃ T u, bd doc [] = some [T] ∧ Seg doc (startsOf doc) T 0 doc.length ∧ e = .returned u ∧ Rep (fun _ => False) w.heap.size w' u T) ∨ (specV doc = false ∧ e = .returned .nilIface)) := by
  refine ⟨h.1, ?_⟩
  rcases valid_eq doc with ⟨h1, h2, T, n, h3, h4, h5⟩ | ⟨h1, h2⟩
  · rcases h.2 with ⟨k1, T', n', u, k2, k3, k4⟩ | ⟨k1, k2⟩
    · rw [h4] at k2
      cases k2
      exact .inl ⟨h1, T, u, h3, h5, k3, k4⟩
    · rw [h4] at k2
      rcases k2 with k | k | ⟨s, k, k'⟩
      · omega
      · cases k
      · cases k; simp at k'
  · rcases h.2 with ⟨k1, T', n', u, k2, k3, k4⟩ | ⟨k1, k2⟩
    · rcases h2 with h | h | ⟨s, h, h'⟩
      · omega
      · rw [k2] at h; cases h
      · rw [k2] at h; cases h; simp at h'
    · exact .inr ⟨h1, k1⟩

set_option maxHeartbeats 400000 in
set_option maxRecDepth 100000 in
theorem implValid_any (v : Value) (doc : List Pc) (w : World) (hv : RdP w.heap.size w v doc) (hd : Doc doc) (hT : Tab w) :
    Calls Tryd.prog 9 #[v] w fun e w' => e = .returned (.bool (specV doc)) ∧ w.grownBy w' none := by
  have hn1 : ∀ (t : TypeId) (u : Value) (w : World), (binOp .neq 46 (.iface t u) .nilIface).run Tryd.prog w = .ok (.bool true) w := fun _ _ _ => rfl
  have hn2 : ∀ (w : World), (binOp .neq 46 .nilIface .nilIface).run Tryd.prog w = .ok (.bool false) w := fun _ => rfl
  have htr := treeOf_any v doc w hv hd hT
  obtain ⟨a, cap, hv0, _⟩ := id hv
  subst hv0
  clear hv hT
  go_enter Tryd.func9, Tryd.ntmps9
  go_wp2_with fail
  refine htr.mono ?_
  intro e w1 h1
  obtain ⟨bel, h2⟩ := treeOf_says h1
  rcases h2 with ⟨hs, T, u, _, _, rfl, hr⟩ | ⟨hs, rfl⟩
  · have HS : Hid (specV doc = true) := hs
    obtain ⟨t, u', rfl⟩ := hr.form
    clear hs hr h1
    go_wp2
    go_ret
    exact ⟨by rw [HS.out]; rfl, grown_of_below bel⟩
  · have HS : Hid (specV doc = false) := hs
    clear hs h1
    go_wp2
    go_ret
    exact ⟨by rw [HS.out]; rfl, grown_of_below bel⟩

end Go.Proofs.YtlblcgceieegbaaDoor
