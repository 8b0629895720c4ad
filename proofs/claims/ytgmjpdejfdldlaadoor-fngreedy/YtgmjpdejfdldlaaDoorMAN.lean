import Derived.Maps.OwnOps
import Derived.Test.YtgmjpdejfdldlaaDoorMAH
import Derived.Test.YtgmjpdejfdldlaaDoorMAM
namespace Go.Proofs.YtgmjpdejfdldlaaDoor
open Go.RowKit

theorem imGo_go (doc : List Pc) (k : Nat) (hk : k < doc.length) (room : Int) (st : List (Tr × Int)) (r : Int) (s : List (Tr × Int)) (h : imStep room st doc[k] = some (r, s)) : imGo (doc.drop k) room st = imGo (doc.drop (k + 1)) r s := by
  rw [List.drop_eq_getElem_cons hk]; simp only [imGo, h, Option.bind_some]
theorem imGo_bad (doc : List Pc) (k : Nat) (hk : k < doc.length) (room : Int) (st : List (Tr × Int)) (h : imStep room st doc[k] = none) : imGo (doc.drop k) room st = none := by
  rw [List.drop_eq_getElem_cons hk]; simp only [imGo, h, Option.bind_none]

theorem good_rs {rs : List Mk} (h : Good (stOf rs)) : ∀ x ∈ rs, 0 ≤ x.n ∧ x.n ≤ 4000 := by
  intro x hx
  have := h (x.T, x.n) (by simp only [stOf, List.mem_reverse, List.mem_map]; exact ⟨x, hx, rfl⟩)
  exact ⟨this.2.1, this.2.2⟩

theorem imStep_len {room r : Int} {st s : List (Tr × Int)} {p : Pc} (h : imStep room st p = some (r, s)) : s.length ≤ st.length + 1 := by
  unfold imStep at h
  split at h
  · cases h
  · split at h
    · split at h
      · cases h
      · split at h
        · cases h
        · cases h; simp
    · split at h
      · cases h; simp
      · split at h
        · split at h
          · cases h; simp
          · cases h
        · split at h
          · split at h
            · split at h
              · cases h
              · cases h; simp
            · cases h
          · cases h

theorem bst_new {w : World} (room : Int) (t : TypeId) : Bst w.heap.size (w.alloc (.cells #[.slice none 0 0, .slice none 0 0, .int .i64 room] t)) w.heap.size (.slice none 0 0) (.slice none 0 0) [] (lsOf []) room :=
  ⟨Nat.le_refl _, by simp [go_sem], by simp [go_sem], by simp [go_sem], by simp [go_sem], by simp [go_sem], by simp [go_sem], World.ownsRow_nil _ _ _ _, World.ownsRow_nil _ _ _ _, by simp [Value.ownBlock], by simp [Value.ownBlock], fun g h => by simp [Value.ownBlock] at h, ⟨by simp [lsOf], fun t b h => by simp [lsOf] at h⟩, (fun x hx => by cases hx), (fun x hx => by cases hx)⟩

/-- What nodesOf leaves. -/
def NodesSays (doc : List Pc) (w : World) (e : Ending) (w' : World) : Prop :=
  Below w.heap.size w w' ∧ ((doc.length ≤ 40000 ∧ ∃ T n u nv l, imGo doc 100000 [] = some [(T, n)] ∧ e = .returned nv ∧ l.length = doc.length ∧ w'.ownsRow w.heap.size 70 1 nv l.length l ∧ Rep (fun _ => False) w.heap.size w' u T ∧ Post w' u T l ∧ Once (fun _ => False) w' l) ∨
    (e = .returned (.slice none 0 0) ∧ (40000 < doc.length ∨ imGo doc 100000 [] = none ∨ ∃ s, imGo doc 100000 [] = some s ∧ s.length ≠ 1)))

set_option maxHeartbeats 2000000 in
set_option maxRecDepth 100000 in
theorem nodesOf_any (v : Value) (doc : List Pc) (w : World) (hv : RdP w.heap.size w v doc) (hd : Doc doc) (hT : Tab w) :
    Calls Tryd.prog 20 #[v] w fun e w' => NodesSays doc w e w' := by
  obtain ⟨a, cap, hv0, hcap, hmax, _⟩ := id hv
  have hl := hd.len
  have hpos := hT.pos
  by_cases h4 : doc.length > 40000
  · have HF : Hid (40000 < doc.length) := h4
    subst hv0
    clear hv hT
    go_enter Tryd.func20, Tryd.ntmps20
    go_wp2
    go_ret
    exact ⟨Below.refl _ _, .inr ⟨rfl, .inl HF.out⟩⟩
  subst hv0
  have HV : Hid (RdP w.heap.size w (.slice a doc.length cap) doc) := hv
  have HT : Hid (Tab w) := hT
  have HB : Hid (Bst w.heap.size (w.alloc (.cells #[.slice none 0 0, .slice none 0 0, .int .i64 100000] 101)) w.heap.size (.slice none 0 0) (.slice none 0 0) [] (lsOf []) 100000) := bst_new _ _
  clear hv hT
  go_enter Tryd.func20, Tryd.ntmps20
  go_wp2
  go_loopw [12] (fun i wr => ∃ (k : Nat) (nv rv : Value) (rs : List Mk) (room : Int), k ≤ doc.length ∧ i = .int .i64 k ∧ Bst w.heap.size wr w.heap.size nv rv rs (lsOf rs) room ∧ Hid ((lsOf rs).length = k) ∧ Hid (imGo (doc.drop k) room (stOf rs) = imGo doc 100000 []) ∧ 0 ≤ room ∧ room ≤ 100000 ∧ Good (stOf rs) ∧ rs.length ≤ k ∧ Below w.heap.size w wr)
    (fun i _ => doc.length - (intOf i).toNat)
  case atStart => exact ⟨0, _, _, [], 100000, Nat.zero_le _, rfl, HB.out, rfl, rfl, by omega, by omega, (fun x hx => by cases hx), Nat.le_refl _, (Below.refl _ _).alloc (Nat.le_refl _) _⟩
  case round =>
    obtain ⟨k, nv, rv, rs, room, hk, rfl, hS, HL, HG, hr0, hr1, hgood, hrl, bel⟩ := hrel
    have hbs := bel.size
    by_cases hlt : k < doc.length
    · obtain ⟨b, off, cap', tv, hva, hb, hp⟩ := (HV.out.beside (grown_of_below bel) (fun _ e => by cases e)).at k hlt
      cases hva
      have hk0 := hp.k; have ht0 := hp.t; have hn0 := hp.n
      have hmem := List.getElem_mem hlt
      have hgA : wr.grownBy (wr.alloc (.cells #[.int .i64 doc[k].k, tv, .int .i64 doc[k].n] 40)) none := World.grownBy_alloc _ _ _
      have htake := take_any w.heap.size _ w.heap.size nv rv rs room doc[k] tv (hS.keep hgA) (hp.rd.keep hgA) hp.sl (hd.bys _ hmem) (hd.tlen _ hmem) hr0 hr1 (by simp; omega) hpos ((HT.out.below bel hpos).keep hgA) (by omega) (by rw [HL.out]; omega) (good_rs hgood)
      rw [HL.out] at htake
      have hie := imStep_eq room (stOf rs) doc[k] hr0 hgood
      have hgo := imGo_go doc k hlt room (stOf rs)
      have hbad := imGo_bad doc k hlt room (stOf rs)
      have HBA : Hid (Below w.heap.size w (wr.alloc (.cells #[.int .i64 doc[k].k, tv, .int .i64 doc[k].n] 40))) := bel.alloc hbs _
      obtain ⟨ta, tcap, htv, _, _⟩ := hp.sl
      subst htv
      clear hp hmem hgA hgood HV HT HB hS bel HL
      generalize doc[k] = p at *
      cases hst : imStep room (stOf rs) p with
      | none =>
        have HF : Hid (imGo doc 100000 [] = none) := by unfold Hid; rw [← HG.out]; exact hbad hst
        rw [hst] at htake
        clear hie hgo hbad hst HG
        go_wp2_with fail
        refine htake.mono ?_
        rintro e w1 ⟨b1, h1⟩
        simp only at h1
        subst h1
        go_wp2
        go_ret
        exact ⟨HBA.out.trans b1, .inr ⟨rfl, .inr (.inl HF.out)⟩⟩
      | some x =>
        obtain ⟨r, s⟩ := x
        have HG2 : Hid (imGo (doc.drop (k + 1)) r s = imGo doc 100000 []) := by unfold Hid; rw [← HG.out]; exact (hgo r s hst).symm
        have hfacts : 0 ≤ r ∧ r ≤ 100000 ∧ Good s := by
          rcases hie with ⟨s', h1, h2, h3, h4, h5⟩ | ⟨h1, _⟩
          · rw [hst] at h1
            cases h1
            exact ⟨by omega, by omega, h5⟩
          · rw [hst] at h1; cases h1
        obtain ⟨f1, f2, f3⟩ := hfacts
        have hsl := imStep_len hst
        rw [stOf_len] at hsl
        have HF3 : Hid (Good s) := f3
        rw [hst] at htake
        clear hie hgo hbad hst HG f3
        go_wp2_with fail
        refine htake.mono ?_
        rintro e w1 ⟨b1, h1, nv', rv', rs', h2, h3, h4⟩
        subst h1
        have hrl' : rs'.length ≤ k + 1 := by rw [← stOf_len, h2]; omega
        have H2 : Hid (stOf rs' = s) := h2
        have H4 : Hid ((lsOf rs').length = k + 1) := h4
        clear h2 h4
        go_wp2
        go_roundw
        case rel => exact ⟨k + 1, nv', rv', rs', r, by omega, by go_num, h3, H4, by unfold Hid; rw [H2.out]; exact HG2.out, f1, f2, by rw [H2.out]; exact HF3.out, hrl', HBA.out.trans b1⟩
        case measure => simp [intOf]; omega
    · have hkn : k = doc.length := by omega
      have HF : Hid (imGo doc 100000 [] = some (stOf rs)) := by unfold Hid; rw [← HG.out, hkn]; simp [imGo]
      have c0 := hS.c0
      have c1 := hS.c1
      obtain ⟨ra, rcap, hrv, hrc, hrm⟩ := row_form hS.row
      obtain ⟨na, ncap, hnv, hnc, hnm⟩ := row_form hS.nrow
      unfold maxLen at hrm hnm
      by_cases h1 : rs.length = 1
      · obtain ⟨X, hX⟩ : ∃ X, rs = [X] := List.length_eq_one_iff.1 h1
        subst hX
        have hrep := hS.rep X (by simp)
        have HR : Hid (Rep (fun _ => False) w.heap.size wr X.v X.T) := hrep.turn (Nat.le_refl _) (fun _ _ _ => rfl) (fun _ _ h => h.elim) (fun _ _ h => h)
        have HP : Hid (Post wr X.v X.T (lsOf [X])) := by unfold Hid; rw [lsOf_one]; exact hS.post X (by simp)
        have HO : Hid (Once (fun _ => False) wr (lsOf [X])) := hS.once.turn (fun _ _ _ => rfl) (fun _ _ h => h.elim)
        have HN : Hid (wr.ownsRow w.heap.size 70 1 nv (lsOf [X]).length (lsOf [X])) := hS.nrow
        have HF2 : Hid (imGo doc 100000 [] = some [(X.T, X.n)]) := by unfold Hid; rw [HF.out]; rfl
        have HL2 : Hid ((lsOf [X]).length = doc.length) := by unfold Hid; rw [HL.out, hkn]
        simp only [List.length_cons, List.length_nil, Nat.zero_add] at hrv
        generalize hLL : lsOf [X] = LL at *
        subst hrv
        subst hnv
        clear hS hrep HV HT HB HF HG hgood h1 HL hLL
        go_wp2
        go_ret
        exact ⟨bel, .inl ⟨by omega, X.T, X.n, X.v, _, LL, HF2.out, rfl, HL2.out, HN.out, HR.out, HP.out, HO.out⟩⟩
      · have e1 : ((rs.length : Int) != 1) = true := by simp; omega
        have HF2 : Hid (∃ s, imGo doc 100000 [] = some s ∧ s.length ≠ 1) := ⟨_, HF.out, by rw [stOf_len]; exact h1⟩
        subst hrv
        clear hS HV HT HB HF HG hgood h1 HL hnv
        go_wp2
        go_ret
        exact ⟨bel, .inr ⟨rfl, .inr (.inr HF2.out)⟩⟩

theorem Post.last {w : World} : ∀ {T : Tr} {v : Value} {l : List Value}, Post w v T l → ∃ l', l = l' ++ [v]
  | .leaf _, v, l, h => ⟨[], by simpa [Post] using h⟩
  | .un _ _, v, l, h => by
    simp only [Post] at h
    obtain ⟨_, _, _, l1, _, _, _, _, h⟩ := h
    exact ⟨l1, h⟩
  | .bin _ _ _, v, l, h => by
    simp only [Post] at h
    obtain ⟨_, _, _, _, l1, l2, _, _, _, _, _, h⟩ := h
    exact ⟨l1 ++ l2, h⟩

/-- What treeOf leaves. -/
def TreeSays (doc : List Pc) (w : World) (e : Ending) (w' : World) : Prop :=
  Below w.heap.size w w' ∧ ((doc.length ≤ 40000 ∧ ∃ T n u, imGo doc 100000 [] = some [(T, n)] ∧ e = .returned u ∧ Rep (fun _ => False) w.heap.size w' u T) ∨
    (e = .returned .nilIface ∧ (40000 < doc.length ∨ imGo doc 100000 [] = none ∨ ∃ s, imGo doc 100000 [] = some s ∧ s.length ≠ 1)))

set_option maxHeartbeats 1000000 in
set_option maxRecDepth 100000 in
theorem treeOf_any (v : Value) (doc : List Pc) (w : World) (hv : RdP w.heap.size w v doc) (hd : Doc doc) (hT : Tab w) :
    Calls Tryd.prog 28 #[v] w fun e w' => TreeSays doc w e w' := by
  have hno := nodesOf_any v doc w hv hd hT
  obtain ⟨a, cap, hv0, _⟩ := id hv
  subst hv0
  clear hv hT
  go_enter Tryd.func28, Tryd.ntmps28
  go_wp2_with fail
  refine hno.mono ?_
  rintro e w1 ⟨bel, ⟨hdl, T, n, u, nv, l, hi, rfl, hll, hrow, hr, hpo, _⟩ | ⟨rfl, hno⟩⟩
  · obtain ⟨l', hl'⟩ := hpo.last
    obtain ⟨t, x, hux⟩ := hr.form
    subst hl'
    rcases hrow.2 with ⟨_, h0⟩ | ⟨g, cp, cur, hrg, hbg, hg, hnc, hcm, hcs, htk⟩
    · simp at h0
    · subst hrg
      have m0 := World.ownsRow.cellAt hrow l'.length (by simp)
      rw [List.getElem?_append_right (Nat.le_refl _)] at m0
      simp only [Nat.sub_self, List.getElem?_cons_zero, hux] at m0
      have hle : (l' ++ [u]).length = l'.length + 1 := by simp
      unfold maxLen at hcm
      rw [hle] at hnc ⊢
      have HI : Hid (imGo doc 100000 [] = some [(T, n)]) := hi
      have HR : Hid (Rep (fun _ => False) w.heap.size w1 (.iface t x) T) := by unfold Hid; rw [← hux]; exact hr
      have e0 : ((l'.length : Int) + 1 == 0) = false := by simp; omega
      clear hi hr hrow hg hcs htk hpo hle hll hux hno
      go_wp2
      go_ret
      exact ⟨bel, .inl ⟨hdl, T, n, _, HI.out, rfl, HR.out⟩⟩
  · have HN : Hid (40000 < doc.length ∨ imGo doc 100000 [] = none ∨ ∃ s, imGo doc 100000 [] = some s ∧ s.length ≠ 1) := hno
    clear hno
    go_wp2
    go_ret
    exact ⟨bel, .inr ⟨rfl, HN.out⟩⟩

/-- .. in the model's words. -/
theorem nodesOf_says {doc : List Pc} {w : World} {e : Ending} {w' : World} (h : NodesSays doc w e w') :
    Below w.heap.size w w' ∧ ((specV doc = true ∧ doc.length ≤ 40000 ∧ ∃ T u nv l, bd doc [] = some [T] ∧ Seg doc (startsOf doc) T 0 doc.length ∧ e = .returned nv ∧ l.length = doc.length ∧ w'.ownsRow w.heap.size 70 1 nv l.length l ∧ Rep (fun _ => False) w.heap.size w' u T ∧ Post w' u T l ∧ Once (fun _ => False) w' l) ∨ (specV doc = false ∧ e = .returned (.slice none 0 0))) := by
  refine ⟨h.1, ?_⟩
  rcases valid_eq doc with ⟨h1, h2, T, n, h3, h4, h5⟩ | ⟨h1, h2⟩
  · rcases h.2 with ⟨k1, T', n', u, nv, l, k2, k3⟩ | ⟨k1, k2⟩
    · rw [h4] at k2
      cases k2
      exact .inl ⟨h1, k1, T, u, nv, l, h3, h5, k3⟩
    · rw [h4] at k2
      rcases k2 with k | k | ⟨s, k, k'⟩
      · omega
      · cases k
      · cases k; simp at k'
  · rcases h.2 with ⟨k1, T', n', u, nv, l, k2, k3⟩ | ⟨k1, k2⟩
    · rcases h2 with h | h | ⟨s, h, h'⟩
      · omega
      · rw [k2] at h; cases h
      · rw [k2] at h; cases h; simp at h'
    · exact .inr ⟨h1, k1⟩

theorem treeOf_says {doc : List Pc} {w : World} {e : Ending} {w' : World} (h : TreeSays doc w e w') :
    Below w.heap.size w w' ∧ ((specV doc = true ∧ ∃ T u, bd doc [] = some [T] ∧ Seg doc (startsOf doc) T 0 doc.length ∧ e = .returned u ∧ Rep (fun _ => False) w.heap.size w' u T) ∨ (specV doc = false ∧ e = .returned .nilIface)) := by
  refine ⟨h.1, ?_⟩
  rcases valid_eq doc with ⟨h1, h2, T, n, h3, h4, h5⟩ | ⟨h1, h2⟩
  · rcases h.2 with ⟨k1, T', n', u, k2, k3, k4⟩ | ⟨k1, k2⟩
    · rw [h4] at k2
      cases k2
      exact .inl ⟨h1, T, u, h3, h5, k3, k4⟩
    · rw [h4] at k2
      rcases k2 with k | k | ⟨s, k, k'⟩
      · omega
      · cases k
      · cases k; simp at k'
  · rcases h.2 with ⟨k1, T', n', u, k2, k3, k4⟩ | ⟨k1, k2⟩
    · rcases h2 with h | h | ⟨s, h, h'⟩
      · omega
      · rw [k2] at h; cases h
      · rw [k2] at h; cases h; simp at h'
    · exact .inr ⟨h1, k1⟩

end Go.Proofs.YtgmjpdejfdldlaaDoor

namespace Go.Proofs.YtgmjpdejfdldlaaDoor
open Go.RowKit

def LeafT (t : TypeId) : Prop := t = 127 ∨ t = 81 ∨ t = 128 ∨ t = 82 ∨ t = 83
def PtrT (t : TypeId) : Prop := t = 75 ∨ t = 135 ∨ t = 130 ∨ t = 138 ∨ t = 142

/-- A node's value as the key of a map. -/
inductive NKey (w : World) : Value → Prop
  | leaf (t : TypeId) (h : LeafT t) : NKey w (.iface t (.agg #[]))
  | ptr (t : TypeId) (b : Nat) (cs : Array Value) (t' : TypeId) (h : PtrT t) (hb : w.heap[b]? = some (.cells cs t')) : NKey w (.iface t (.pointer (some ⟨b, 0, none⟩)))

theorem NKey.turn {w w' : World} {v : Value} (h : NKey w v) (hk : ∀ t b, v = .iface t (.pointer (some ⟨b, 0, none⟩)) → w'.heap[b]? = w.heap[b]?) : NKey w' v := by
  cases h with
  | leaf t h => exact .leaf t h
  | ptr t b cs t' h hb => exact .ptr t b cs t' h ((hk t b rfl).trans hb)

def kCode : Value → Option (TypeId × Option Nat)
  | .iface t (.agg _) => some (t, none)
  | .iface t (.pointer (some a)) => some (t, some a.block)
  | .pointer (some a) => some (0, some a.block)
  | _ => none
def kEq (x y : Value) : Bool :=
  match kCode x, kCode y with
  | some a, some b => a == b
  | _, _ => false
theorem kEq_comm (x y : Value) : kEq x y = kEq y x := by
  unfold kEq
  cases kCode x <;> cases kCode y <;> simp [Bool.beq_comm]
theorem kEq_true {x y : Value} (h : kEq x y = true) : ∃ c, kCode x = some c ∧ kCode y = some c := by
  unfold kEq at h
  cases hx : kCode x with
  | none => rw [hx] at h; cases h
  | some a =>
    cases hy : kCode y with
    | none => rw [hx, hy] at h; cases h
    | some b =>
      rw [hx, hy] at h
      simp at h
      exact ⟨a, rfl, by rw [h]⟩
theorem kEq_of {x y : Value} {c : TypeId × Option Nat} (hx : kCode x = some c) (hy : kCode y = some c) : kEq x y = true := by
  unfold kEq; rw [hx, hy]; simp
theorem kEq_trans {x y z : Value} (h : kEq x y = true) (h' : kEq y z = true) : kEq x z = true := by
  obtain ⟨c, h1, h2⟩ := kEq_true h
  obtain ⟨d, h3, h4⟩ := kEq_true h'
  rw [h2] at h3
  cases h3
  exact kEq_of h1 h4

theorem run_sameAddr {w : World} {a b : Nat} {ca cb : Array Value} {ta tb : TypeId} (ha : w.heap[a]? = some (.cells ca ta)) (hb : w.heap[b]? = some (.cells cb tb)) :
    (sameAddr ⟨a, 0, none⟩ ⟨b, 0, none⟩).run Tryd.prog w = .ok (a == b) w := by
  by_cases h : a = b
  · subst h
    simp [sameAddr]
  · have h1 : (a == b) = false := by simpa using h
    have sa : w.shape? a = some (ta, ca.size) := by simp [World.shape?, ha]
    have sb : w.shape? b = some (tb, cb.size) := by simp [World.shape?, hb]
    simp [sameAddr, h1, go_sem, noView, viewAt, mayBeOne, stringish, sa, sb, ha, hb, World.frozen?]

set_option maxRecDepth 100000 in
theorem eq_ptr (t : TypeId) (h : PtrT t) (a b : Addr) (w : World) : (Op.equal 70 (.iface t (.pointer (some a))) (.iface t (.pointer (some b)))).run Tryd.prog w = (sameAddr a b).run Tryd.prog w := by
  rcases h with rfl | rfl | rfl | rfl | rfl <;> kernel_rfl
set_option maxRecDepth 100000 in
theorem eq_leaf (t t' : TypeId) (h : LeafT t) (h' : LeafT t') (w : World) : (Op.equal 70 (.iface t (.agg #[])) (.iface t' (.agg #[]))).run Tryd.prog w = .ok (t == t') w := by
  rcases h with rfl | rfl | rfl | rfl | rfl <;> rcases h' with rfl | rfl | rfl | rfl | rfl <;> kernel_rfl
theorem eq_diff (t t' : TypeId) (x y : Value) (h : t ≠ t') (w : World) : (Op.equal 70 (.iface t x) (.iface t' y)).run Tryd.prog w = .ok false w := by
  unfold Op.equal Op.maxDepth
  rw [show (10000 : Nat) = 9999 + 1 from rfl]
  generalize 9999 = d
  simp [Op.equalIn, go_sem, h]

theorem leaf_not_ptr {t : TypeId} (h : LeafT t) (h' : PtrT t) : False := by
  rcases h with rfl | rfl | rfl | rfl | rfl <;> rcases h' with h | h | h | h | h <;> cases h

theorem run_eqk {w : World} {k k' : Value} (h : NKey w k) (h' : NKey w k') : (Op.equal 70 k k').run Tryd.prog w = .ok (kEq k k') w := by
  cases h with
  | leaf t h =>
    cases h' with
    | leaf t' h' => rw [eq_leaf t t' h h' w]; congr 1; rw [Bool.eq_iff_iff]; simp [kEq, kCode]
    | ptr t' b cs t'' h' hb => rw [eq_diff t t' _ _ (fun e => leaf_not_ptr (by rw [e] at h; exact h) h') w]; simp [kEq, kCode]
  | ptr t b cs t'' h hb =>
    cases h' with
    | leaf t' h' => rw [eq_diff t t' _ _ (fun e => leaf_not_ptr h' (by rw [e] at h; exact h)) w]; simp [kEq, kCode]
    | ptr t' b' cs' t3 h' hb' =>
      by_cases e : t = t'
      · subst e
        rw [eq_ptr t h, run_sameAddr hb hb']
        congr 1
        rw [Bool.eq_iff_iff]
        simp [kEq, kCode]
      · rw [eq_diff t t' _ _ e]
        simp [kEq, kCode, e]

theorem kEq_iff {w : World} {k k' : Value} (h : NKey w k) (h' : NKey w k') : kEq k k' = true ↔ k = k' := by
  cases h with
  | leaf t h =>
    cases h' with
    | leaf t' h' => simp [kEq, kCode]
    | ptr t' b cs t'' h' hb => simp [kEq, kCode]
  | ptr t b cs t'' h hb =>
    cases h' with
    | leaf t' h' => simp [kEq, kCode]
    | ptr t' b' cs' t3 h' hb' => simp [kEq, kCode]
theorem kEq_self {w : World} {k : Value} (h : NKey w k) : kEq k k = true := (kEq_iff h h).2 rfl

/-- What a map holds at a key. -/
def look (k : Value) : List MapEntry → Nat → Option (Nat × Value)
  | [], _ => none
  | e :: es, i => if kEq k e.key then some (i, e.val) else look k es (i + 1)

theorem run_findAsking {w : World} {k : Value} (h : NKey w k) : ∀ (es : List MapEntry) (i : Nat), (∀ e ∈ es, NKey w e.key) → (Instr.findAsking 70 k es i).run Tryd.prog w = .ok (look k es i) w
  | [], i, _ => by simp [Instr.findAsking, look]
  | e :: es, i, he => by
    have h1 := run_eqk h (he e (List.mem_cons_self ..))
    have h2 := run_findAsking h es (i + 1) (fun x hx => he x (List.mem_cons_of_mem _ hx))
    simp only [Instr.findAsking, look, Sem.run_bind, h1, Result.andThen_ok]
    cases kEq k e.key
    · simpa using h2
    · simp

theorem run_findKey {w : World} {k : Value} (h : NKey w k) (es : List MapEntry) (he : ∀ e ∈ es, NKey w e.key) : (Instr.findKey 70 k es).run Tryd.prog w = .ok (look k es 0) w := by
  have h2 := run_findAsking h es 0 he
  unfold Instr.findKey
  rw [Sem.run_bind, run_underlying Tryd.underlying70, Result.andThen_ok]
  cases es with
  | nil => simp [Instr.findNow, look]
  | cons e es =>
    simp only [Instr.findNow, Instr.sameNow]
    exact h2

set_option maxRecDepth 100000 in
theorem run_checkKey {w : World} {k : Value} (h : NKey w k) (e : Bool) : (Instr.checkKey e 10000 70 k).run Tryd.prog w = .ok () w := by
  cases h with
  | leaf t h => rcases h with rfl | rfl | rfl | rfl | rfl <;> kernel_rfl
  | ptr t b cs t' h hb => rcases h with rfl | rfl | rfl | rfl | rfl <;> kernel_rfl


/-- The map at block b, keyed by nodes: what it holds at each key, and how many entries it has. -/
def MapIs (w : World) (b : Nat) (f : Value → Option Value) (n : Nat) : Prop :=
  ∃ es clock, w.heap[b]? = some (.map es clock) ∧ es.size = n ∧ (∀ e ∈ es.toList, NKey w e.key) ∧ ∀ k, (look k es.toList 0).map (·.2) = f k

theorem look_shift (k : Value) : ∀ (es : List MapEntry) (i : Nat), look k es i = (look k es 0).map (fun x => (x.1 + i, x.2))
  | [], i => by simp [look]
  | e :: es, i => by
    simp only [look]
    rw [look_shift k es (i + 1), look_shift k es (0 + 1)]
    cases kEq k e.key
    · simp only [Bool.false_eq_true, if_false, Option.map_map]
      congr 1
      funext x
      simp
      omega
    · simp
theorem look_app {w : World} {k : Value} : ∀ (es : List MapEntry) (e : MapEntry) (i : Nat), look k (es ++ [e]) i = match look k es i with | some x => some x | none => if kEq k e.key then some (i + es.length, e.val) else none
  | [], e, i => by simp [look]
  | d :: es, e, i => by
    simp only [List.cons_append, look]
    cases kEq k d.key
    · simp only [Bool.false_eq_true, if_false]
      rw [look_app (w := w) es e (i + 1)]
      simp only [List.length_cons]
      rw [show i + 1 + es.length = i + (es.length + 1) by omega]
    · simp

theorem mapIs_made (w : World) : MapIs (w.alloc (.map #[] 0)) w.heap.size (fun _ => none) 0 :=
  ⟨#[], 0, heap_alloc_new _ _, rfl, by simp, fun k => by simp [look]⟩

theorem MapIs.run_lookup {w : World} {b n : Nat} {f : Value → Option Value} (h : MapIs w b f n) {t e : TypeId} (ht : Tryd.prog.underlying t = some (.map 70 e)) {z : Value} (hz : (zeroValue e).run Tryd.prog w = .ok z w) {k : Value} (hk : NKey w k) :
    (Instr.lookup t (.map (some b)) k false).run Tryd.prog w = .ok ((f k).getD z) w := by
  obtain ⟨es, clock, hb, hn, he, hl⟩ := h
  have h1 := run_findKey hk es.toList he
  have h2 := hl k
  have h3 := run_checkKey hk es.isEmpty
  cases hx : look k es.toList 0 with
  | none =>
    rw [hx] at h2 h1
    simp only [Option.map_none] at h2
    rw [← h2]
    simp [Instr.lookup, run_underlying ht, MapKept.run_getObj_map hb, h3, h1, hz]
  | some x =>
    rw [hx] at h2 h1
    simp only [Option.map_some] at h2
    rw [← h2]
    simp [Instr.lookup, run_underlying ht, MapKept.run_getObj_map hb, h3, h1]

theorem MapIs.lt {w : World} {b n : Nat} {f : Value → Option Value} (h : MapIs w b f n) : b < w.heap.size := by
  obtain ⟨es, clock, hb, _⟩ := h
  exact (Array.getElem?_eq_some_iff.1 hb).1

theorem look_modify {w : World} {k k' x : Value} (hk : NKey w k) : ∀ (l : List MapEntry) (i : Nat) (v : Value), (∀ e ∈ l, NKey w e.key) → look k l 0 = some (i, v) →
    (look k' (l.modify i fun e => { e with key := k, val := x }) 0).map (·.2) = if kEq k k' then some x else (look k' l 0).map (·.2)
  | [], i, v, _, h => by simp [look] at h
  | e :: es, i, v, he, h => by
    have hke := he e (List.mem_cons_self ..)
    simp only [look] at h
    cases hq : kEq k e.key with
    | true =>
      rw [hq] at h
      simp only [if_true, Option.some.injEq, Prod.mk.injEq] at h
      obtain ⟨rfl, _⟩ := h
      have hkk := (kEq_iff hk hke).1 hq
      rw [List.modify_zero_cons]
      simp only [look]
      rw [← hkk, kEq_comm k' k]
      cases kEq k k' <;> simp
    | false =>
      rw [hq] at h
      simp only [Bool.false_eq_true, if_false] at h
      rw [look_shift] at h
      cases hx : look k es 0 with
      | none => rw [hx] at h; cases h
      | some y =>
        obtain ⟨j, u⟩ := y
        rw [hx] at h
        simp only [Option.map_some, Option.some.injEq, Prod.mk.injEq] at h
        obtain ⟨h1, h2⟩ := h
        subst h1
        have IH := look_modify (k' := k') (x := x) hk es j u (fun z hz => he z (List.mem_cons_of_mem _ hz)) hx
        rw [show 0 + 1 = 1 from rfl, List.modify_succ_cons]
        simp only [look]
        cases hq2 : kEq k' e.key with
        | true =>
          have e1 : kEq k k' = false := by
            rw [Bool.eq_false_iff]
            intro h
            rw [kEq_trans h hq2] at hq
            cases hq
          simp [e1]
        | false =>
          simp only [Bool.false_eq_true, if_false]
          rw [look_shift k' _ (0 + 1), look_shift k' es (0 + 1)]
          simpa [Option.map_map, Function.comp_def] using IH

theorem sameBits_key {w : World} {k : Value} (hk : NKey w k) : Instr.sameBits 10000 k k = true := by
  rw [show (10000 : Nat) = 9998 + 1 + 1 from rfl]
  generalize 9998 = d
  cases hk <;> simp [Instr.sameBits]
theorem run_stays {w : World} {k : Value} (hk : NKey w k) : (Instr.keyThatStays k k).run Tryd.prog w = .ok k w := by
  simp [Instr.keyThatStays, sameBits_key hk]

theorem look_at {w : World} {k : Value} (hk : NKey w k) : ∀ (l : List MapEntry) (i : Nat) (v : Value), (∀ e ∈ l, NKey w e.key) → look k l 0 = some (i, v) → ∃ e, l[i]? = some e ∧ e.key = k
  | [], i, v, _, h => by simp [look] at h
  | e :: es, i, v, he, h => by
    simp only [look] at h
    cases hq : kEq k e.key with
    | true =>
      rw [hq] at h
      simp only [if_true, Option.some.injEq, Prod.mk.injEq] at h
      obtain ⟨rfl, _⟩ := h
      exact ⟨e, rfl, ((kEq_iff hk (he e (List.mem_cons_self ..))).1 hq).symm⟩
    | false =>
      rw [hq] at h
      simp only [Bool.false_eq_true, if_false] at h
      rw [look_shift] at h
      cases hx : look k es 0 with
      | none => rw [hx] at h; cases h
      | some y =>
        obtain ⟨j, u⟩ := y
        rw [hx] at h
        simp only [Option.map_some, Option.some.injEq, Prod.mk.injEq] at h
        obtain ⟨h1, h2⟩ := h
        subst h1
        obtain ⟨d, h3, h4⟩ := look_at hk es j u (fun z hz => he z (List.mem_cons_of_mem _ hz)) hx
        exact ⟨d, by simpa using h3, h4⟩

/-- A map's block is no node's. -/
theorem NKey.set {w : World} {b : Nat} {es : Array MapEntry} {c : Nat} (hb : w.heap[b]? = some (.map es c)) (o : Obj) {v : Value} (h : NKey w v) : NKey { w with heap := w.heap.setIfInBounds b o } v :=
  h.turn fun t k e => by
    refine (MapKept.heap_set hb).2 k fun e2 => ?_
    cases h with
    | leaf t h => cases e
    | ptr t b' cs t' h hb' =>
      cases e
      rw [e2, hb] at hb'
      cases hb'
theorem NKey.keep {w w' : World} {v : Value} (h : NKey w v) (hg : w.grownBy w' none) : NKey w' v := by
  cases h with
  | leaf t h => exact .leaf t h
  | ptr t b cs t' h hb => exact .ptr t b cs t' h ((hg.block b (Array.getElem?_eq_some_iff.1 hb).1 (by simp)).trans hb)
theorem MapIs.keep {w w' : World} {b n : Nat} {f : Value → Option Value} (h : MapIs w b f n) (hg : w.grownBy w' none) : MapIs w' b f n := by
  have hlt := h.lt
  obtain ⟨es, clock, hb, hn, he, hl⟩ := h
  exact ⟨es, clock, (hg.block b hlt (by simp)).trans hb, hn, fun e hm => (he e hm).keep hg, hl⟩
theorem NKey.besides {w w' : World} {v : Value} {r : Nat} {es : Array MapEntry} {c : Nat} (h : NKey w v) (hr : w.heap[r]? = some (.map es c)) (hg : w.grownBy w' (some r)) : NKey w' v := by
  cases h with
  | leaf t h => exact .leaf t h
  | ptr t b cs t' h hb => exact .ptr t b cs t' h ((hg.block b (Array.getElem?_eq_some_iff.1 hb).1 (fun e => by cases e; rw [hr] at hb; cases hb)).trans hb)

theorem MapIs.run_update {w : World} {b n : Nat} {f : Value → Option Value} (h : MapIs w b f n) {t e : TypeId} (ht : Tryd.prog.underlying t = some (.map 70 e)) {k : Value} (hk : NKey w k) (x : Value) :
    ∃ w', (Instr.mapUpdate t (.map (some b)) k x).run Tryd.prog w = .ok () w' ∧ MapIs w' b (fun k' => if kEq k k' then some x else f k') (if (f k).isSome then n else n + 1) ∧ w.grownBy w' (some b) := by
  obtain ⟨es, clock, hb, hn, he, hl⟩ := h
  have h1 := run_findKey hk es.toList he
  have h2 := hl k
  have h3 := run_checkKey hk false
  have hgr : ∀ o, w.grownBy { w with heap := w.heap.setIfInBounds b o } (some b) := fun o => ⟨rfl, rfl, rfl, by simp, fun i _ hi => (MapKept.heap_set hb).2 i (fun e => hi (by rw [e]))⟩
  cases hx : look k es.toList 0 with
  | none =>
    rw [hx] at h2 h1
    simp only [Option.map_none] at h2
    refine ⟨_, by simp [Instr.mapUpdate, run_underlying ht, MapKept.run_getObj_map hb, h3, h1, MapKept.run_setObj_map _ hb]; rfl, ⟨_, _, (MapKept.heap_set hb).1, ?_, ?_, ?_⟩, hgr _⟩
    · rw [← h2]; simp [hn]
    · intro z hz
      rw [Array.toList_push] at hz
      rcases List.mem_append.1 hz with hz | hz
      · exact (he z hz).set hb _
      · simp only [List.mem_singleton] at hz
        subst hz
        exact hk.set hb _
    · intro k'
      rw [Array.toList_push, look_app (w := w)]
      have h5 := hl k'
      cases hy : look k' es.toList 0 with
      | none =>
        rw [hy] at h5
        simp only [Option.map_none] at h5
        dsimp only
        rw [← h5, kEq_comm k' k]
        cases kEq k k' <;> simp
      | some y =>
        rw [hy] at h5
        simp only [Option.map_some] at h5 ⊢
        have e2 : kEq k k' = false := by
          rw [Bool.eq_false_iff]
          intro h
          have hn : ∀ (l : List MapEntry) (i : Nat), look k l i = none → look k' l i = none := by
            intro l
            induction l with
            | nil => intro i _; rfl
            | cons d l IH =>
              intro i hi
              simp only [look] at hi ⊢
              cases hq : kEq k d.key with
              | true => rw [hq] at hi; simp at hi
              | false =>
                rw [hq] at hi
                simp only [Bool.false_eq_true, if_false] at hi
                have : kEq k' d.key = false := by
                  rw [Bool.eq_false_iff]
                  intro h2
                  rw [kEq_trans h h2] at hq
                  cases hq
                rw [this]
                simp only [Bool.false_eq_true, if_false]
                exact IH (i + 1) hi
          rw [hn _ _ hx] at hy
          cases hy
        rw [e2]
        simpa using h5
  | some y =>
    obtain ⟨i, v⟩ := y
    rw [hx] at h2 h1
    simp only [Option.map_some] at h2
    obtain ⟨d, hd, hdk⟩ := look_at hk es.toList i v he hx
    have hd' : es[i]? = some d := by rw [← Array.getElem?_toList]; exact hd
    refine ⟨_, by simp [Instr.mapUpdate, run_underlying ht, MapKept.run_getObj_map hb, h3, h1, hd', hdk, run_stays hk, MapKept.run_setObj_map _ hb]; rfl, ⟨_, _, (MapKept.heap_set hb).1, ?_, ?_, ?_⟩, hgr _⟩
    · rw [← h2]; simp [hn]
    · intro z hz
      rw [Array.toList_modify] at hz
      obtain ⟨j, hj⟩ := List.mem_iff_getElem?.1 hz
      rw [List.getElem?_modify] at hj
      cases hq : es.toList[j]? with
      | none => rw [hq] at hj; simp at hj
      | some q =>
        rw [hq] at hj
        simp only [Option.map_eq_map, Option.map_some, Option.some.injEq] at hj
        split at hj
        · subst hj; exact hk.set hb _
        · subst hj; exact (he q (List.mem_of_getElem? hq)).set hb _
    · intro k'
      rw [Array.toList_modify, look_modify hk es.toList i v he hx, hl k']


/-- 'm[k] = v' at the operation, for the walk. -/
theorem wpList_mapUpdate_node (w : World) {ops : Array Oper} {rest : List Oper} {o : Oper} {a : Act} {Q : Exit → Act → World → Prop}
    (hg : o.guard = none) (m x v : Operand) (t : TypeId) (hop : o.op = Op.mapUpdate t m x v) (e : TypeId) (ht : Tryd.prog.underlying t = some (.map 70 e)) (b n : Nat) (f : Value → Option Value)
    (hm : a.eval m = .map (some b)) (hown : MapIs w b f n) (key val : Value) (hx : a.eval x = key) (hv : a.eval v = val) (hkey : NKey w key)
    (hK : ∀ w', MapIs w' b (fun k' => if kEq key k' then some val else f k') (if (f key).isSome then n else n + 1) → w.grownBy w' (some b) → wpList Tryd.prog ops Q rest (a.put o.dst undef) w') :
    wpList Tryd.prog ops Q (o :: rest) a w := by
  refine wpList_plain hg fun K' hK' => ?_
  obtain ⟨w', hrun, r1, r2⟩ := hown.run_update ht hkey val
  unfold Oper.wp
  simp [execOp, hop, hm, hx, hv, hrun, Result.andThen]
  exact hK' _ _ (hK w' r1 r2)

end Go.Proofs.YtgmjpdejfdldlaaDoor

