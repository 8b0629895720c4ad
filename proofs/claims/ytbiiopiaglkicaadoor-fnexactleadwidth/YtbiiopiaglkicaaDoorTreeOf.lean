import Derived.Test.YtbiiopiaglkicaaDoorTake
import Derived.Test.YtbiiopiaglkicaaDoorSpecValid
namespace Go.Proofs.YtbiiopiaglkicaaDoor
open Go.RowKit

theorem imGo_go (doc : List Pc) (k : Nat) (hk : k < doc.length) (room : Int) (st : List (Tr × Int)) (r : Int) (s : List (Tr × Int)) (h : imStep room st doc[k] = some (r, s)) : imGo (doc.drop k) room st = imGo (doc.drop (k + 1)) r s := by
  rw [List.drop_eq_getElem_cons hk]; simp only [imGo, h, Option.bind_some]
theorem imGo_bad (doc : List Pc) (k : Nat) (hk : k < doc.length) (room : Int) (st : List (Tr × Int)) (h : imStep room st doc[k] = none) : imGo (doc.drop k) room st = none := by
  rw [List.drop_eq_getElem_cons hk]; simp only [imGo, h, Option.bind_none]

theorem good_rs {rs : List Mk} (h : Good (stOf rs)) : ∀ x ∈ rs, 0 ≤ x.n ∧ x.n ≤ 4000 := by
  intro x hx
  have := h (x.T, x.n) (by simp only [stOf, List.mem_reverse, List.mem_map]; exact ⟨x, hx, rfl⟩)
  exact ⟨this.2.1, this.2.2⟩

theorem imStep_len {room r : Int} {st s : List (Tr × Int)} {p : Pc} (h : imStep room st p = some (r, s)) : s.length ≤ st.length + 1 := by
  unfold imStep at h
  split at h
  · cases h
  · split at h
    · split at h
      · cases h
      · split at h
        · cases h
        · cases h; simp
    · split at h
      · cases h; simp
      · split at h
        · split at h
          · cases h; simp
          · cases h
        · split at h
          · split at h
            · split at h
              · cases h
              · cases h; simp
            · cases h
          · cases h

theorem bst_new {w : World} (room : Int) (t : TypeId) : Bst w.heap.size (w.alloc (.cells #[.slice none 0 0, .slice none 0 0, .int .i64 room] t)) w.heap.size (.slice none 0 0) (.slice none 0 0) [] (lsOf []) room :=
  ⟨Nat.le_refl _, by simp [go_sem], by simp [go_sem], by simp [go_sem], by simp [go_sem], by simp [go_sem], by simp [go_sem], World.ownsRow_nil _ _ _ _, World.ownsRow_nil _ _ _ _, by simp [Value.ownBlock], by simp [Value.ownBlock], fun g h => by simp [Value.ownBlock] at h, ⟨by simp [lsOf], fun t b h => by simp [lsOf] at h⟩, (fun x hx => by cases hx), (fun x hx => by cases hx)⟩

/-- What nodesOf leaves. -/
def NodesSays (doc : List Pc) (w : World) (e : Ending) (w' : World) : Prop :=
  Below w.heap.size w w' ∧ ((doc.length ≤ 40000 ∧ ∃ T n u nv l, imGo doc 100000 [] = some [(T, n)] ∧ e = .returned nv ∧ l.length = doc.length ∧ w'.ownsRow w.heap.size 84 1 nv l.length l ∧ Rep (fun _ => False) w.heap.size w' u T ∧ Post w' u T l ∧ Once (fun _ => False) w' l) ∨
    (e = .returned (.slice none 0 0) ∧ (40000 < doc.length ∨ imGo doc 100000 [] = none ∨ ∃ s, imGo doc 100000 [] = some s ∧ s.length ≠ 1)))

set_option maxHeartbeats 2000000 in
set_option maxRecDepth 100000 in
theorem nodesOf_any (v : Value) (doc : List Pc) (w : World) (hv : RdP w.heap.size w v doc) (hd : Doc doc) (hT : Tab w) :
    Calls Tryd.prog 40 #[v] w fun e w' => NodesSays doc w e w' := by
  obtain ⟨a, cap, hv0, hcap, hmax, _⟩ := id hv
  have hl := hd.len
  have hpos := hT.pos
  by_cases h4 : doc.length > 40000
  · have HF : Hid (40000 < doc.length) := h4
    subst hv0
    clear hv hT
    go_enter Tryd.func40, Tryd.ntmps40
    go_wp2
    go_ret
    exact ⟨Below.refl _ _, .inr ⟨rfl, .inl HF.out⟩⟩
  subst hv0
  have HV : Hid (RdP w.heap.size w (.slice a doc.length cap) doc) := hv
  have HT : Hid (Tab w) := hT
  have HB : Hid (Bst w.heap.size (w.alloc (.cells #[.slice none 0 0, .slice none 0 0, .int .i64 100000] 114)) w.heap.size (.slice none 0 0) (.slice none 0 0) [] (lsOf []) 100000) := bst_new _ _
  clear hv hT
  go_enter Tryd.func40, Tryd.ntmps40
  go_wp2
  go_loopw [12] (fun i wr => ∃ (k : Nat) (nv rv : Value) (rs : List Mk) (room : Int), k ≤ doc.length ∧ i = .int .i64 k ∧ Bst w.heap.size wr w.heap.size nv rv rs (lsOf rs) room ∧ Hid ((lsOf rs).length = k) ∧ Hid (imGo (doc.drop k) room (stOf rs) = imGo doc 100000 []) ∧ 0 ≤ room ∧ room ≤ 100000 ∧ Good (stOf rs) ∧ rs.length ≤ k ∧ Below w.heap.size w wr)
    (fun i _ => doc.length - (intOf i).toNat)
  case atStart => exact ⟨0, _, _, [], 100000, Nat.zero_le _, rfl, HB.out, rfl, rfl, by omega, by omega, (fun x hx => by cases hx), Nat.le_refl _, (Below.refl _ _).alloc (Nat.le_refl _) _⟩
  case round =>
    obtain ⟨k, nv, rv, rs, room, hk, rfl, hS, HL, HG, hr0, hr1, hgood, hrl, bel⟩ := hrel
    have hbs := bel.size
    by_cases hlt : k < doc.length
    · obtain ⟨b, off, cap', tv, hva, hb, hp⟩ := (HV.out.beside (grown_of_below bel) (fun _ e => by cases e)).at k hlt
      cases hva
      have hk0 := hp.k; have ht0 := hp.t; have hn0 := hp.n
      have hmem := List.getElem_mem hlt
      have hgA : wr.grownBy (wr.alloc (.cells #[.int .i64 doc[k].k, tv, .int .i64 doc[k].n] 49)) none := World.grownBy_alloc _ _ _
      have htake := take_any w.heap.size _ w.heap.size nv rv rs room doc[k] tv (hS.keep hgA) (hp.rd.keep hgA) hp.sl (hd.bys _ hmem) (hd.tlen _ hmem) hr0 hr1 (by simp; omega) hpos ((HT.out.below bel hpos).keep hgA) (by omega) (by rw [HL.out]; omega) (good_rs hgood)
      rw [HL.out] at htake
      have hie := imStep_eq room (stOf rs) doc[k] hr0 hgood
      have hgo := imGo_go doc k hlt room (stOf rs)
      have hbad := imGo_bad doc k hlt room (stOf rs)
      have HBA : Hid (Below w.heap.size w (wr.alloc (.cells #[.int .i64 doc[k].k, tv, .int .i64 doc[k].n] 49))) := bel.alloc hbs _
      obtain ⟨ta, tcap, htv, _, _⟩ := hp.sl
      subst htv
      clear hp hmem hgA hgood HV HT HB hS bel HL
      generalize doc[k] = p at *
      cases hst : imStep room (stOf rs) p with
      | none =>
        have HF : Hid (imGo doc 100000 [] = none) := by unfold Hid; rw [← HG.out]; exact hbad hst
        rw [hst] at htake
        clear hie hgo hbad hst HG
        go_wp2_with fail
        refine htake.mono ?_
        rintro e w1 ⟨b1, h1⟩
        simp only at h1
        subst h1
        go_wp2
        go_ret
        exact ⟨HBA.out.trans b1, .inr ⟨rfl, .inr (.inl HF.out)⟩⟩
      | some x =>
        obtain ⟨r, s⟩ := x
        have HG2 : Hid (imGo (doc.drop (k + 1)) r s = imGo doc 100000 []) := by unfold Hid; rw [← HG.out]; exact (hgo r s hst).symm
        have hfacts : 0 ≤ r ∧ r ≤ 100000 ∧ Good s := by
          rcases hie with ⟨s', h1, h2, h3, h4, h5⟩ | ⟨h1, _⟩
          · rw [hst] at h1
            cases h1
            exact ⟨by omega, by omega, h5⟩
          · rw [hst] at h1; cases h1
        obtain ⟨f1, f2, f3⟩ := hfacts
        have hsl := imStep_len hst
        rw [stOf_len] at hsl
        have HF3 : Hid (Good s) := f3
        rw [hst] at htake
        clear hie hgo hbad hst HG f3
        go_wp2_with fail
        refine htake.mono ?_
        rintro e w1 ⟨b1, h1, nv', rv', rs', h2, h3, h4⟩
        subst h1
        have hrl' : rs'.length ≤ k + 1 := by rw [← stOf_len, h2]; omega
        have H2 : Hid (stOf rs' = s) := h2
        have H4 : Hid ((lsOf rs').length = k + 1) := h4
        clear h2 h4
        go_wp2
        go_roundw
        case rel => exact ⟨k + 1, nv', rv', rs', r, by omega, by go_num, h3, H4, by unfold Hid; rw [H2.out]; exact HG2.out, f1, f2, by rw [H2.out]; exact HF3.out, hrl', HBA.out.trans b1⟩
        case measure => simp [intOf]; omega
    · have hkn : k = doc.length := by omega
      have HF : Hid (imGo doc 100000 [] = some (stOf rs)) := by unfold Hid; rw [← HG.out, hkn]; simp [imGo]
      have c0 := hS.c0
      have c1 := hS.c1
      obtain ⟨ra, rcap, hrv, hrc, hrm⟩ := row_form hS.row
      obtain ⟨na, ncap, hnv, hnc, hnm⟩ := row_form hS.nrow
      unfold maxLen at hrm hnm
      by_cases h1 : rs.length = 1
      · obtain ⟨X, hX⟩ : ∃ X, rs = [X] := List.length_eq_one_iff.1 h1
        subst hX
        have hrep := hS.rep X (by simp)
        have HR : Hid (Rep (fun _ => False) w.heap.size wr X.v X.T) := hrep.turn (Nat.le_refl _) (fun _ _ _ => rfl) (fun _ _ h => h.elim) (fun _ _ h => h)
        have HP : Hid (Post wr X.v X.T (lsOf [X])) := by unfold Hid; rw [lsOf_one]; exact hS.post X (by simp)
        have HO : Hid (Once (fun _ => False) wr (lsOf [X])) := hS.once.turn (fun _ _ _ => rfl) (fun _ _ h => h.elim)
        have HN : Hid (wr.ownsRow w.heap.size 84 1 nv (lsOf [X]).length (lsOf [X])) := hS.nrow
        have HF2 : Hid (imGo doc 100000 [] = some [(X.T, X.n)]) := by unfold Hid; rw [HF.out]; rfl
        have HL2 : Hid ((lsOf [X]).length = doc.length) := by unfold Hid; rw [HL.out, hkn]
        simp only [List.length_cons, List.length_nil, Nat.zero_add] at hrv
        generalize hLL : lsOf [X] = LL at *
        subst hrv
        subst hnv
        clear hS hrep HV HT HB HF HG hgood h1 HL hLL
        go_wp2
        go_ret
        exact ⟨bel, .inl ⟨by omega, X.T, X.n, X.v, _, LL, HF2.out, rfl, HL2.out, HN.out, HR.out, HP.out, HO.out⟩⟩
      · have e1 : ((rs.length : Int) != 1) = true := by simp; omega
        have HF2 : Hid (∃ s, imGo doc 100000 [] = some s ∧ s.length ≠ 1) := ⟨_, HF.out, by rw [stOf_len]; exact h1⟩
        subst hrv
        clear hS HV HT HB HF HG hgood h1 HL hnv
        go_wp2
        go_ret
        exact ⟨bel, .inr ⟨rfl, .inr (.inr HF2.out)⟩⟩

theorem Post.last {w : World} : ∀ {T : Tr} {v : Value} {l : List Value}, Post w v T l → ∃ l', l = l' ++ [v]
  | .leaf _, v, l, h => ⟨[], by simpa [Post] using h⟩
  | .un _ _, v, l, h => by
    simp only [Post] at h
    obtain ⟨_, _, _, l1, _, _, _, _, h⟩ := h
    exact ⟨l1, h⟩
  | .bin _ _ _, v, l, h => by
    simp only [Post] at h
    obtain ⟨_, _, _, _, l1, l2, _, _, _, _, _, h⟩ := h
    exact ⟨l1 ++ l2, h⟩

/-- What treeOf leaves. -/
def TreeSays (doc : List Pc) (w : World) (e : Ending) (w' : World) : Prop :=
  Below w.heap.size w w' ∧ ((doc.length ≤ 40000 ∧ ∃ T n u, imGo doc 100000 [] = some [(T, n)] ∧ e = .returned u ∧ Rep (fun _ => False) w.heap.size w' u T) ∨
    (e = .returned .nilIface ∧ (40000 < doc.length ∨ imGo doc 100000 [] = none ∨ ∃ s, imGo doc 100000 [] = some s ∧ s.length ≠ 1)))

set_option maxHeartbeats 1000000 in
set_option maxRecDepth 100000 in
theorem treeOf_any (v : Value) (doc : List Pc) (w : World) (hv : RdP w.heap.size w v doc) (hd : Doc doc) (hT : Tab w) :
    Calls Tryd.prog 53 #[v] w fun e w' => TreeSays doc w e w' := by
  have hno := nodesOf_any v doc w hv hd hT
  obtain ⟨a, cap, hv0, _⟩ := id hv
  subst hv0
  clear hv hT
  go_enter Tryd.func53, Tryd.ntmps53
  go_wp2_with fail
  refine hno.mono ?_
  rintro e w1 ⟨bel, ⟨hdl, T, n, u, nv, l, hi, rfl, hll, hrow, hr, hpo, _⟩ | ⟨rfl, hno⟩⟩
  · obtain ⟨l', hl'⟩ := hpo.last
    obtain ⟨t, x, hux⟩ := hr.form
    subst hl'
    rcases hrow.2 with ⟨_, h0⟩ | ⟨g, cp, cur, hrg, hbg, hg, hnc, hcm, hcs, htk⟩
    · simp at h0
    · subst hrg
      have m0 := World.ownsRow.cellAt hrow l'.length (by simp)
      rw [List.getElem?_append_right (Nat.le_refl _)] at m0
      simp only [Nat.sub_self, List.getElem?_cons_zero, hux] at m0
      have hle : (l' ++ [u]).length = l'.length + 1 := by simp
      unfold maxLen at hcm
      rw [hle] at hnc ⊢
      have HI : Hid (imGo doc 100000 [] = some [(T, n)]) := hi
      have HR : Hid (Rep (fun _ => False) w.heap.size w1 (.iface t x) T) := by unfold Hid; rw [← hux]; exact hr
      have e0 : ((l'.length : Int) + 1 == 0) = false := by simp; omega
      clear hi hr hrow hg hcs htk hpo hle hll hux hno
      go_wp2
      go_ret
      exact ⟨bel, .inl ⟨hdl, T, n, _, HI.out, rfl, HR.out⟩⟩
  · have HN : Hid (40000 < doc.length ∨ imGo doc 100000 [] = none ∨ ∃ s, imGo doc 100000 [] = some s ∧ s.length ≠ 1) := hno
    clear hno
    go_wp2
    go_ret
    exact ⟨bel, .inr ⟨rfl, HN.out⟩⟩

/-- .. in the model's words. -/
theorem nodesOf_says {doc : List Pc} {w : World} {e : Ending} {w' : World} (h : NodesSays doc w e w') :
    Below w.heap.size w w' ∧ ((specV doc = true ∧ doc.length ≤ 40000 ∧ ∃ T u nv l, bd doc [] = some [T] ∧ Seg doc (startsOf doc) T 0 doc.length ∧ e = .returned nv ∧ l.length = doc.length ∧ w'.ownsRow w.heap.size 84 1 nv l.length l ∧ Rep (fun _ => False) w.heap.size w' u T ∧ Post w' u T l ∧ Once (fun _ => False) w' l) ∨ (specV doc = false ∧ e = .returned (.slice none 0 0))) := by
  refine ⟨h.1, ?_⟩
  rcases valid_eq doc with ⟨h1, h2, T, n, h3, h4, h5⟩ | ⟨h1, h2⟩
  · rcases h.2 with ⟨k1, T', n', u, nv, l, k2, k3⟩ | ⟨k1, k2⟩
    · rw [h4] at k2
      cases k2
      exact .inl ⟨h1, k1, T, u, nv, l, h3, h5, k3⟩
    · rw [h4] at k2
      rcases k2 with k | k | ⟨s, k, k'⟩
      · omega
      · cases k
      · cases k; simp at k'
  · rcases h.2 with ⟨k1, T', n', u, nv, l, k2, k3⟩ | ⟨k1, k2⟩
    · rcases h2 with h | h | ⟨s, h, h'⟩
      · omega
      · rw [k2] at h; cases h
      · rw [k2] at h; cases h; simp at h'
    · exact .inr ⟨h1, k1⟩

theorem treeOf_says {doc : List Pc} {w : World} {e : Ending} {w' : World} (h : TreeSays doc w e w') :
    Below w.heap.size w w' ∧ ((specV doc = true ∧ ∃ T u, bd doc [] = some [T] ∧ Seg doc (startsOf doc) T 0 doc.length ∧ e = .returned u ∧ Rep (fun _ => False) w.heap.size w' u T) ∨ (specV doc = false ∧ e = .returned .nilIface)) := by
  refine ⟨h.1, ?_⟩
  rcases valid_eq doc with ⟨h1, h2, T, n, h3, h4, h5⟩ | ⟨h1, h2⟩
  · rcases h.2 with ⟨k1, T', n', u, k2, k3, k4⟩ | ⟨k1, k2⟩
    · rw [h4] at k2
      cases k2
      exact .inl ⟨h1, T, u, h3, h5, k3, k4⟩
    · rw [h4] at k2
      rcases k2 with k | k | ⟨s, k, k'⟩
      · omega
      · cases k
      · cases k; simp at k'
  · rcases h.2 with ⟨k1, T', n', u, k2, k3, k4⟩ | ⟨k1, k2⟩
    · rcases h2 with h | h | ⟨s, h, h'⟩
      · omega
      · rw [k2] at h; cases h
      · rw [k2] at h; cases h; simp at h'
    · exact .inr ⟨h1, k1⟩

set_option maxHeartbeats 400000 in
set_option maxRecDepth 100000 in
theorem implValid_any (v : Value) (doc : List Pc) (w : World) (hv : RdP w.heap.size w v doc) (hd : Doc doc) (hT : Tab w) :
    Calls Tryd.prog 33 #[v] w fun e w' => e = .returned (.bool (specV doc)) ∧ w.grownBy w' none := by
  have hn1 : ∀ (t : TypeId) (u : Value) (w : World), (binOp .neq 84 (.iface t u) .nilIface).run Tryd.prog w = .ok (.bool true) w := fun _ _ _ => rfl
  have hn2 : ∀ (w : World), (binOp .neq 84 .nilIface .nilIface).run Tryd.prog w = .ok (.bool false) w := fun _ => rfl
  have htr := treeOf_any v doc w hv hd hT
  obtain ⟨a, cap, hv0, _⟩ := id hv
  subst hv0
  clear hv hT
  go_enter Tryd.func33, Tryd.ntmps33
  go_wp2_with fail
  refine htr.mono ?_
  intro e w1 h1
  obtain ⟨bel, h2⟩ := treeOf_says h1
  rcases h2 with ⟨hs, T, u, _, _, rfl, hr⟩ | ⟨hs, rfl⟩
  · have HS : Hid (specV doc = true) := hs
    obtain ⟨t, u', rfl⟩ := hr.form
    clear hs hr h1
    go_wp2
    go_ret
    exact ⟨by rw [HS.out]; rfl, grown_of_below bel⟩
  · have HS : Hid (specV doc = false) := hs
    clear hs h1
    go_wp2
    go_ret
    exact ⟨by rw [HS.out]; rfl, grown_of_below bel⟩

end Go.Proofs.YtbiiopiaglkicaaDoor
