import Derived.Test.YtgmjpdejfdldlaaDoorMAS
import Derived.Test.YtgmjpdejfdldlaaDoorMAY
import Derived.Test.YtgmjpdejfdldlaaDoorMBC
import Derived.Test.YtgmjpdejfdldlaaDoorMBK
import Derived.Test.YtgmjpdejfdldlaaDoorMBM
namespace Go.Proofs.YtgmjpdejfdldlaaDoor
open Go.RowKit

def IndOk (it : Item) : Prop := okN it.T ∧ it.ind + nestT it.T ≤ 4000
theorem lay_out (width : Int) (given : Option (List Int)) : ∀ (f : Nat) (its : List Item) (out met : List Int) (col : Int) (o m : List Int), (∀ it ∈ its, IndOk it) → lay width given f its out met col = some (o, m) → o.length ≤ out.length + 4001 * szs (trs its)
  | 0, _, _, _, _, _, _, _, h => by simp [lay] at h
  | f + 1, [], out, met, col, o, m, _, h => by simp only [lay, Option.some.injEq, Prod.mk.injEq] at h; rw [h.1]; omega
  | f + 1, ⟨.leaf p, n, ind⟩ :: rest, out, met, col, o, m, hi, h => by
    simp only [lay] at h
    rw [trs_cons]
    simp only [szs, sz]
    have hr : ∀ it ∈ rest, IndOk it := fun it hit => hi it (List.mem_cons_of_mem _ hit)
    have h0 := (hi ⟨.leaf p, n, ind⟩ (by simp)).2
    simp only [nestT] at h0
    have hnl := newLine_len ind (by omega)
    split at h
    · have := lay_out width given f _ _ _ _ _ _ hr h
      rw [List.length_append] at this
      omega
    · split at h
      · have := lay_out width given f _ _ _ _ _ _ hr h
        simp only [List.length_append, List.length_cons, List.length_nil] at this
        omega
      · split at h
        · have := lay_out width given f _ _ _ _ _ _ hr h
          rw [List.length_append] at this
          omega
        · have := lay_out width given f _ _ _ _ _ _ hr h
          omega
  | f + 1, ⟨.bin p x y, n, ind⟩ :: rest, out, met, col, o, m, hi, h => by
    simp only [lay] at h
    rw [trs_cons]
    simp only [szs, sz]
    have hr : ∀ it ∈ rest, IndOk it := fun it hit => hi it (List.mem_cons_of_mem _ hit)
    have h0 := hi ⟨.bin p x y, n, ind⟩ (by simp)
    simp only [IndOk, okN, nestT] at h0
    have hx : IndOk ⟨x, n, ind⟩ := ⟨h0.1.1, by simp only; omega⟩
    have hy : IndOk ⟨y, n + cntG x, ind⟩ := ⟨h0.1.2, by simp only; omega⟩
    split at h
    · have := lay_out width given f _ _ _ _ _ _ (fun it hit => by
        rcases List.mem_cons.1 hit with rfl | hit
        · exact hx
        · rcases List.mem_cons.1 hit with rfl | hit
          · exact hy
          · exact hr it hit) h
      rw [trs_cons, trs_cons] at this
      simp only [szs] at this
      omega
    · have := lay_out width given f _ _ _ _ _ _ (fun it hit => by
        rcases List.mem_cons.1 hit with rfl | hit
        · exact hx
        · exact hr it hit) h
      rw [trs_cons] at this
      simp only [szs] at this
      omega
  | f + 1, ⟨.un p x, n, ind⟩ :: rest, out, met, col, o, m, hi, h => by
    simp only [lay] at h
    rw [trs_cons]
    simp only [szs, sz]
    have hr : ∀ it ∈ rest, IndOk it := fun it hit => hi it (List.mem_cons_of_mem _ hit)
    have h0 := hi ⟨.un p x, n, ind⟩ (by simp)
    simp only [IndOk, okN, nestT] at h0
    have hx1 : IndOk ⟨x, n, ind + p.n⟩ := ⟨h0.1.2, by simp only; omega⟩
    have hx : IndOk ⟨x, n, ind⟩ := ⟨h0.1.2, by simp only; omega⟩
    have hone : ∀ i, IndOk ⟨x, n, i⟩ → ∀ it ∈ (⟨x, n, i⟩ : Item) :: rest, IndOk it := fun i hh it hit => by
      rcases List.mem_cons.1 hit with rfl | hit
      · exact hh
      · exact hr it hit
    have fin1 : ∀ i (oo mm : List Int) (c : Int), IndOk ⟨x, n, i⟩ → lay width given f (⟨x, n, i⟩ :: rest) oo mm c = some (o, m) → oo.length ≤ out.length → o.length ≤ out.length + 4001 * (p.t.length + 1 + sz x + szs (trs rest)) := fun i oo mm c hh hq hl => by
      have := lay_out width given f _ _ _ _ _ _ (hone i hh) hq
      rw [trs_cons] at this
      simp only [szs] at this
      omega
    have fin2 : ∀ (text mm : List Int) (c : Int), flatT x [] = some text → lay width given f rest (out ++ text) mm c = some (o, m) → o.length ≤ out.length + 4001 * (p.t.length + 1 + sz x + szs (trs rest)) := fun text mm c hf hq => by
      have := lay_out width given f _ _ _ _ _ _ hr hq
      have hl := flatT_len x [] text hf
      simp only [List.length_append, List.length_nil] at this hl
      omega
    split at h
    · exact fin1 _ _ _ _ hx1 h (Nat.le_refl _)
    · cases given with
      | none =>
        simp only at h
        cases hf : flatT x [] with
        | none =>
          rw [hf] at h
          exact fin1 _ _ _ _ hx h (Nat.le_refl _)
        | some text =>
          rw [hf] at h
          simp only at h
          split at h
          · exact fin2 text _ _ hf h
          · exact fin1 _ _ _ _ hx h (Nat.le_refl _)
      | some gs =>
        simp only at h
        split at h
        · cases hf : flatT x [] with
          | none => rw [hf] at h; cases h
          | some text =>
            rw [hf] at h
            exact fin2 text _ _ hf h
        · split at h
          · exact fin1 _ _ _ _ hx h (Nat.le_refl _)
          · cases h

/-- What Layout answers: the text, the choices, the code. -/
def lR (r : Option (List Int × List Int)) : List Int × List Int × Int := match r with
  | some (o, m) => (o, m, 0)
  | none => ([], [], 1)
theorem layout_flat {w w' : World} {r : Option (List Int × List Int)} {e : Ending} (h : LayoutEnds w r e w') :
    ∃ ov mv, e = .returned (.tuple #[ov, mv, .int .i64 (lR r).2.2]) ∧ OwB w.heap.size w' ov (lR r).1 ∧ OwI w.heap.size w' mv (lR r).2.1 ∧ (∀ g, ov.ownBlock = some g → mv.ownBlock ≠ some g) ∧ w.grownBy w' none := by
  match r, h with
  | some (o, m), ⟨ov, mv, h1, h2, h3, h4, h5⟩ => exact ⟨ov, mv, h1, h2, h3, h4, h5⟩
  | none, ⟨h1, h2⟩ => exact ⟨.slice none 0 0, .slice none 0 0, h1, World.ownsRow_nil _ _ _ _, World.ownsRow_nil _ _ _ _, (fun g hg => by cases hg), h2⟩
theorem layout_len (doc : List Pc) (width : Int) (hl : doc.length ≤ 1048576) : (lR (layoutR doc width)).1.length ≤ 560140000 ∧ (lR (layoutR doc width)).2.1.length ≤ 1048576 := by
  unfold layoutR
  split
  · rename_i h
    rcases valid_eq doc with ⟨h1, _, T, n, h3, _, h5⟩ | ⟨h1, _⟩
    · rw [h3]
      simp only
      obtain ⟨f1, f2, _⟩ := spec_facts h1 h3
      have hsz := spec_sz doc h1 T h3
      cases hr : layL width none [⟨T, 0, 0⟩] [] (List.replicate (grp doc doc.length) 0) 0 with
      | none => simp [lR]
      | some om =>
        obtain ⟨o, m⟩ := om
        have a1 := lay_out width none _ _ _ _ _ _ _ (fun it hit => by simp at hit; subst hit; exact ⟨f1, by simpa using f2⟩) hr
        have a2 := lay_len width none _ _ _ _ _ _ _ hr
        have a3 := grp_le doc doc.length
        simp only [lR]
        simp [trs, szs] at a1 a2
        omega
    · rw [h1] at h; cases h.1
  · simp [lR]

end Go.Proofs.YtgmjpdejfdldlaaDoor

namespace Go.Proofs.YtgmjpdejfdldlaaDoor
open Go.RowKit

/-- The flat text of a valid document that has one. -/
def flatR (doc : List Pc) : Option (List Int) := if specV doc = true then (match bd doc [] with | some [T] => flatT T [] | _ => none) else none

def flatL (doc : List Pc) : List Int := (flatR doc).getD []
def flatB (doc : List Pc) : Bool := (flatR doc).isSome

theorem flatL_len (doc : List Pc) : (flatL doc).length ≤ 140000 := by
  unfold flatL
  cases h : flatR doc with
  | none => simp
  | some o =>
    unfold flatR at h
    split at h
    · rename_i hs
      split at h
      · rename_i T hT
        have := flatT_len T [] o h
        have := spec_sz doc hs T hT
        simp at *
        omega
      · cases h
    · cases h

/-- What a node brings to the flat text, and which nodes it can't hold. -/
def txOf : Tr → List Int
  | .leaf p => if p.k = 1 then p.t else if p.k = 2 then [32] else []
  | _ => []
def bars : Tr → Bool
  | .leaf p => !(p.k == 0 || p.k == 3 || p.k == 1 || p.k == 2)
  | _ => false
def txs : List Tr → List Int
  | [] => []
  | x :: r => txOf x ++ txs r
theorem txs_snoc : ∀ (r : List Tr) (x : Tr), txs (r ++ [x]) = txs r ++ txOf x
  | [], x => by simp [txs]
  | y :: r, x => by simp only [List.cons_append, txs, txs_snoc r x, List.append_assoc]

theorem flatF_go : ∀ (r s : List Tr) (o : List Int), (∀ x ∈ r, bars x = false) → flatF (r ++ s) o = flatF s (o ++ txs r)
  | [], s, o, _ => by simp [txs]
  | .leaf p :: r, s, o, h => by
    have h1 := h (.leaf p) (by simp)
    simp [bars] at h1
    simp only [List.cons_append, flatF, txs, txOf]
    by_cases k0 : p.k = 0 ∨ p.k = 3
    · rw [if_pos k0, if_neg (by omega), if_neg (by omega), flatF_go r s o (fun x hx => h x (by simp [hx]))]; simp
    · by_cases k1 : p.k = 1
      · rw [if_neg k0, if_pos k1, if_pos k1, flatF_go r s _ (fun x hx => h x (by simp [hx]))]; simp
      · have k2 : p.k = 2 := by omega
        rw [if_neg k0, if_neg k1, if_pos k2, if_neg k1, if_pos k2, flatF_go r s _ (fun x hx => h x (by simp [hx]))]; simp
  | .un p x :: r, s, o, h => by
    simp only [List.cons_append, flatF, txs, txOf]
    rw [flatF_go r s o (fun x hx => h x (by simp [hx]))]; simp
  | .bin p x y :: r, s, o, h => by
    simp only [List.cons_append, flatF, txs, txOf]
    rw [flatF_go r s o (fun x hx => h x (by simp [hx]))]; simp

theorem flatF_all (T : Tr) : flatF (preo true T) [] = flatT T [] := by
  have := flatF_T T [] []
  simp only [List.append_nil] at this
  rw [this]
  cases flatT T [] <;> rfl
theorem flat_done {T : Tr} {ys : List Tr} (hy : ys = preo true T) (h : ∀ x ∈ ys, bars x = false) : flatT T [] = some (txs ys) := by
  rw [← flatF_all T, ← hy]
  have := flatF_go ys [] [] h
  simpa [flatF] using this
theorem flat_stop {T : Tr} {q : List Tr} {x : Tr} (hy : q ++ [x] <+: preo true T) (h : ∀ x ∈ q, bars x = false) (hx : bars x = true) : flatT T [] = none := by
  obtain ⟨s, hs⟩ := hy
  rw [← flatF_all T, ← hs, List.append_assoc, flatF_go q _ [] h]
  match x, hx with
  | .leaf p, hx =>
    simp [bars] at hx
    simp only [List.cons_append, List.nil_append, flatF]
    rw [if_neg (by omega), if_neg (by omega), if_neg (by omega)]

end Go.Proofs.YtgmjpdejfdldlaaDoor

namespace Go.Proofs.YtgmjpdejfdldlaaDoor

/-! What the law asks, of a valid document: plain. -/

def subD (doc : List Pc) (a i : Nat) : List Pc := (doc.drop a).take (i - a)
theorem sub_len {doc : List Pc} {a i : Nat} (h : i ≤ doc.length) : (subD doc a i).length = i - a := by unfold subD; simp; omega
theorem sub_snoc {doc : List Pc} {a m : Nat} {p : Pc} (h : a ≤ m) (hp : doc[m]? = some p) : subD doc a (m + 1) = subD doc a m ++ [p] := by
  unfold subD
  rw [show m + 1 - a = (m - a) + 1 by omega, List.take_add_one, List.getElem?_drop, show a + (m - a) = m by omega, hp]
  rfl
theorem sub_app {doc : List Pc} {a c m : Nat} (h1 : a ≤ c) (h2 : c ≤ m) : subD doc a m = subD doc a c ++ subD doc c m := by
  unfold subD
  rw [show m - a = (c - a) + (m - c) by omega, List.take_add, List.drop_drop, show a + (c - a) = c by omega]
theorem bd_app : ∀ (xs ys : List Pc) (st : List Tr), bd (xs ++ ys) st = (bd xs st).bind (bd ys)
  | [], ys, st => rfl
  | p :: xs, ys, st => by
    simp only [List.cons_append, bd]
    cases bdStep st p with
    | none => rfl
    | some s => simp only [Option.bind_some]; exact bd_app xs ys s
theorem bd_seg {doc : List Pc} {st : List Int} : ∀ {T : Tr} {a i : Nat}, Seg doc st T a i → ∀ stk, bd (subD doc a i) stk = some (T :: stk)
  | .leaf p, a, b, h, stk => by
    obtain ⟨rfl, hp, har, _⟩ := h
    rw [sub_snoc (Nat.le_refl _) hp]
    simp [subD, bd, bdStep, har]
  | .un p x, a, b, h, stk => by
    obtain ⟨m, rfl, hp, har, _, hx⟩ := h
    rw [sub_snoc (Nat.le_of_lt hx.lt) hp, bd_app, bd_seg hx stk]
    simp [bd, bdStep, har]
  | .bin p x y, a, b, h, stk => by
    obtain ⟨c, m, rfl, hp, har, _, hx, hy⟩ := h
    have h1 := hx.lt
    have h2 := hy.lt
    rw [sub_snoc (by omega) hp, bd_app, sub_app (Nat.le_of_lt h1) (Nat.le_of_lt h2), bd_app, bd_seg hx stk, Option.bind_some, bd_seg hy (x :: stk)]
    simp [bd, bdStep, har]
theorem sumT_app : ∀ (a b : List Pc), sumT (a ++ b) = sumT a + sumT b
  | [], b => by simp [sumT]
  | p :: a, b => by simp only [List.cons_append, sumT, sumT_app a b]; omega
theorem sumT_pos : ∀ (a : List Pc), 0 ≤ sumT a
  | [] => by simp [sumT]
  | p :: a => by have := sumT_pos a; simp only [sumT]; omega
theorem sumT_sub (doc : List Pc) (a i : Nat) : sumT (subD doc a i) ≤ sumT doc := by
  have h1 : sumT doc = sumT (doc.take a) + sumT (doc.drop a) := by rw [← sumT_app, List.take_append_drop]
  have h2 : sumT (doc.drop a) = sumT (subD doc a i) + sumT ((doc.drop a).drop (i - a)) := by unfold subD; rw [← sumT_app, List.take_append_drop]
  have := sumT_pos (doc.take a)
  have := sumT_pos ((doc.drop a).drop (i - a))
  omega
theorem mem_sub {doc : List Pc} {a i : Nat} {p : Pc} (h : p ∈ subD doc a i) : p ∈ doc := List.mem_of_mem_drop (List.mem_of_mem_take h)
theorem doc_sub {doc : List Pc} (hd : Doc doc) {a i : Nat} (h : i ≤ doc.length) : Doc (subD doc a i) :=
  ⟨by rw [sub_len h]; have := hd.len; omega, fun p hp => hd.tlen p (mem_sub hp), Int.le_trans (sumT_sub doc a i) hd.sum, fun p hp => hd.bys p (mem_sub hp)⟩
/-- A part of a valid document is one. -/
theorem sub_valid {doc : List Pc} {st : List Int} {x : Tr} {a i : Nat} (hv : specV doc = true) (hs : Seg doc st x a i) (hi : i ≤ doc.length) (hok : okN x) (hn : nestT x ≤ 4000) : flatR (subD doc a i) = flatT x [] := by
  have hb := bd_seg hs []
  have hlt := hs.lt
  have h0 : subD doc a i ≠ [] := fun e => by have := sub_len (a := a) hi; rw [e] at this; simp at this; omega
  simp only [specV, Bool.and_eq_true, decide_eq_true_eq] at hv
  have hnS : nestS x ≤ 4000 := by
    rcases nestS_T x hok with ⟨h1, h2⟩ | ⟨h1, _⟩
    · omega
    · omega
  have hsv : specV (subD doc a i) = true := by
    have hst : (startsOf (subD doc a i)).length = (subD doc a i).length := by
      rcases starts_ok (subD doc a i) h0 with ⟨h1, _⟩ | ⟨_, h2⟩
      · exact h1
      · exact absurd hb (h2 x)
    have hsum := sumT_sub doc a i
    have hl := sub_len (a := a) hi
    simp only [specV, Bool.and_eq_true, decide_eq_true_eq, hb]
    refine ⟨⟨⟨⟨⟨by omega, by omega⟩, ?_⟩, by omega⟩, hst⟩, hnS⟩
    exact List.all_eq_true.2 fun p hp => List.all_eq_true.1 hv.1.1.1.2 p (mem_sub hp)
  unfold flatR
  rw [if_pos hsv, hb]

/-- What is said of a group that was met. -/
def FactE (doc : List Pc) (width : Int) (met : List Int) (T : Tr) (N : Nat) (e : Int × Int) : Prop :=
  ∃ (p : Pc) (x : Tr) (a i : Nat), doc[i]? = some p ∧ p.k = 8 ∧ Seg doc (startsOf doc) x a i ∧ e.1 = (grp doc i : Int) ∧ 0 ≤ e.2 ∧ (met[grp doc i]? = some 1 ∨ met[grp doc i]? = some 2) ∧
    ((flatR (subD doc a i) = none ∧ met[grp doc i]? = some 2) ∨ ∃ part, flatR (subD doc a i) = some part ∧
      ∃ l1 l2 l3 l4, renderR doc (goT met (grp doc i) true T 0 0 ⟨false, List.replicate N 0, [], 0⟩).taken = some (l1 ++ l2 ++ l3 ++ l4) ∧ e.2 = ((l1 ++ l2).length : Int) ∧
        (l1 = [] ∨ ∃ a', l1 = a' ++ [10]) ∧ (10 : Int) ∉ l2 ∧ (10 : Int) ∉ l3 ∧ (l4 = [] ∨ ∃ b, l4 = 10 :: b) ∧ part.length ≤ l3.length ∧ (widthR (l2 ++ l3) ≤ width ↔ met[grp doc i]? = some 1) ∧ Bys (l2 ++ l3) ∧ (l1 ++ l2 ++ l3 ++ l4).length ≤ 4001 * sz T)

theorem greedy_fact {doc : List Pc} {width : Int} {out met : List Int} (hd : Doc doc) (h : layoutR doc width = some (out, met)) :
    ∃ T, bd doc [] = some [T] ∧ Seg doc (startsOf doc) T 0 doc.length ∧ KOk T ∧ okN T ∧ nestT T ≤ 4000 ∧ sz T ≤ 140000 ∧ met.length = grp doc doc.length ∧ renderR doc met = some out ∧ (0 ≤ width ∧ width ≤ 65535) ∧
      (goT met (-1) false T 0 0 ⟨false, List.replicate (grp doc doc.length) 0, [], 0⟩).taken = met ∧ ∀ e ∈ (goT met (-1) false T 0 0 ⟨false, List.replicate (grp doc doc.length) 0, [], 0⟩).list, FactE doc width met T (grp doc doc.length) e := by
  have hcond : specV doc = true ∧ 0 ≤ width ∧ width ≤ 65535 := by
    unfold layoutR at h
    split at h
    · assumption
    · cases h
  rcases valid_eq doc with ⟨h1, _, T, n, h3, _, h5⟩ | ⟨h1, _⟩
  · obtain ⟨f1, f2, f3, f4, f5⟩ := doc_facts hd h1 h3 h5
    have hall := (spec_facts h1 h3).2.2
    have hr : layL width none [⟨T, 0, 0⟩] [] (List.replicate (grp doc doc.length) 0) 0 = some (out, met) := by
      unfold layoutR at h
      rw [if_pos hcond, h3] at h
      exact h
    have hlen : met.length = grp doc doc.length := by have := lay_len _ _ _ _ _ _ _ _ _ hr; simpa using this
    have hren := render_layout (fun T' hT' => by rw [h3] at hT'; simp at hT'; subst hT'; exact ⟨f4, by omega⟩) h
    have hIts : Its doc (startsOf doc) (List.replicate (grp doc doc.length) (0 : Int)).length [⟨T, 0, 0⟩] := by
      refine ⟨⟨f4, nl_seg hall h5, f1, by simp, by simpa using f2, ⟨0, doc.length, h5, grp_zero doc⟩⟩, by simp; omega, fun s hs => by simp at hs, trivial⟩
    have hgr := greedy (doc := doc) (st := startsOf doc) (width := width) _ [⟨T, 0, 0⟩] [] (List.replicate (grp doc doc.length) 0) 0 (out, met) ⟨false, List.replicate (grp doc doc.length) 0, [], 0⟩ (Nat.lt_succ_self _) hIts LastLn.nil rfl rfl rfl hr
    refine ⟨T, h3, h5, f4, f1, f2, f3, hlen, hren, hcond.2, hgr.1, fun e he => ?_⟩
    rcases hgr.2 e he with hx | hx
    · cases hx
    · obtain ⟨p, x, a, i, c1, c2, c3, c4, c5, c6, c7, c8, c9, c10, c11⟩ := hx
      have hi : i ≤ doc.length := Nat.le_of_lt (List.getElem?_eq_some_iff.1 c1).1
      have hsub := sub_valid h1 c3 hi c4 c5
      cases hf : flatT x [] with
      | none =>
        exact ⟨p, x, a, i, c1, c2, c3, c6, c8, c9, .inl ⟨by rw [hsub]; exact hf, c10 hf⟩⟩
      | some part =>
        obtain ⟨l1, l2, l3, l4, d1, d2, d3, d4, d5, d6, d7, d8, d9⟩ := c11 part hf ⟨false, List.replicate (grp doc doc.length) 0, [], 0⟩ rfl rfl
        have hll := lay_out 0 _ _ [⟨T, 0, 0⟩] [] _ 0 _ _ (fun it hit => by simp at hit; subst hit; exact ⟨f1, by simpa using f2⟩) d1
        simp only [List.length_nil, Nat.zero_add, trs, List.map_cons, List.map_nil, szs, Nat.add_zero] at hll
        refine ⟨p, x, a, i, c1, c2, c3, c6, c8, c9, .inr ⟨part, by rw [hsub]; exact hf, l1, l2, l3, l4, ?_, d2, d3, d4, d5, d6, d7, d8, d9, hll⟩⟩
        have hbd2 := goT_bd met (grp doc i : Int) true T 0 0 ⟨false, List.replicate (grp doc doc.length) 0, [], 0⟩ f1 (Int.le_refl _) (by simpa using f2)
        unfold renderR
        rw [if_pos ⟨h1, by rw [hbd2.2.2.2]; simp⟩, h3]
        simp only
        have d1' : layL 0 (some (goT met (grp doc i) true T 0 0 ⟨false, List.replicate (grp doc doc.length) 0, [], 0⟩).taken) [⟨T, 0, 0⟩] [] (List.replicate (grp doc doc.length) 0) 0 = _ := d1
        rw [d1']
        simp
        rfl
  · rw [hcond.1] at h1; cases h1
end Go.Proofs.YtgmjpdejfdldlaaDoor

namespace Go.Proofs.YtgmjpdejfdldlaaDoor
open Go.RowKit

theorem grp_mono (doc : List Pc) : ∀ (d i : Nat), i + d ≤ doc.length → grp doc i ≤ grp doc (i + d)
  | 0, i, _ => Nat.le_refl _
  | d + 1, i, h => by
    have h1 := grp_mono doc d i (by omega)
    have h2 := grp_succ doc (i + d) (by omega)
    rw [show i + (d + 1) = i + d + 1 by omega, h2]
    omega
theorem grp_lt {doc : List Pc} {m : Nat} {p : Pc} (hp : doc[m]? = some p) (h8 : p.k = 8) : grp doc m < grp doc doc.length := by
  obtain ⟨hm, hpm⟩ := List.getElem?_eq_some_iff.1 hp
  have h1 := grp_succ doc m hm
  rw [hpm, if_pos h8] at h1
  have h2 := grp_mono doc (doc.length - (m + 1)) (m + 1) (by omega)
  rw [show m + 1 + (doc.length - (m + 1)) = doc.length by omega] at h2
  omega

theorem goes_any {H Wb : Nat} {dv gv : Value} {gs : List Int} {last : Int} {fl : Bool} {doc : List Pc} {st : List Int} {tv : Value} (hn : doc.length ≤ 1048576) (hgl : grp doc doc.length ≤ gs.length) : ∀ {T : Tr} {a b : Nat}, Seg doc st T a b → KOk T → GoAt H Wb dv gv gs last fl doc tv T (grp doc a) b
  | .leaf p, a, b, h, hk => by
    obtain ⟨rfl, hp, _, _⟩ := h
    have := hk.1
    by_cases h1 : p.k = 1
    · exact go_text hn hp h1
    by_cases h5 : p.k = 5
    · exact go_raw hn hp h5
    by_cases h2 : p.k = 2
    · exact go_l2 hn hp h2
    by_cases h3 : p.k = 3
    · exact go_l3 hn hp h3
    by_cases h4 : p.k = 4
    · exact go_l4 hn hp h4
    exact go_nil hn hp (by omega)
  | .un p x, a, b, h, hk => by
    have h0 := h
    obtain ⟨m, rfl, hp, _, _, hx⟩ := h
    have ih := goes_any (H := H) (Wb := Wb) (dv := dv) (gv := gv) (last := last) (fl := fl) (tv := tv) hn hgl hx hk.2
    rcases hk.1 with h7 | h8
    · exact go_nest hn hp h7 ih
    · have hga := grp_seg hx
      have hlt := grp_lt hp h8
      have hg2 : grp doc a + cntG x < gs.length := by omega
      have ihf : ∀ lv, FlAt H Wb dv gv last fl doc tv lv (.un p x) (grp doc a) (m + 1) := fun lv => flats_any hn h0 hk
      intro fr ind S lv w hW hd hgv hH hb0 hb1 hll hg hok hi0 hi1
      cases hpast : S.past with
      | true =>
        by_cases he : ((grp doc a + cntG x : Nat) : Int) = last
        · cases hfl : fl with
          | true => subst hfl; exact gp_pet hn hp h8 hga hg2 ihf fr ind S lv w hW hd hgv hH hb0 hb1 hll hg hok hi0 hi1 hpast he rfl
          | false => subst hfl; exact gp_pef hn hp h8 hga hg2 ih fr ind S lv w hW hd hgv hH hb0 hb1 hll hg hok hi0 hi1 hpast he rfl
        · exact gp_po hn hp h8 hga hg2 ih fr ind S lv w hW hd hgv hH hb0 hb1 hll hg hok hi0 hi1 hpast he
      | false =>
        by_cases hq : gs[grp doc a + cntG x]?.getD 0 = 1
        · by_cases he : ((grp doc a + cntG x : Nat) : Int) = last
          · cases hfl : fl with
            | true => subst hfl; exact gp_qet hn hp h8 hga hg2 ihf fr ind S lv w hW hd hgv hH hb0 hb1 hll hg hok hi0 hi1 hpast hq he rfl
            | false => subst hfl; exact gp_qef hn hp h8 hga hg2 ih fr ind S lv w hW hd hgv hH hb0 hb1 hll hg hok hi0 hi1 hpast hq he rfl
          · exact gp_qo hn hp h8 hga hg2 ihf fr ind S lv w hW hd hgv hH hb0 hb1 hll hg hok hi0 hi1 hpast hq he
        · by_cases he : ((grp doc a + cntG x : Nat) : Int) = last
          · cases hfl : fl with
            | true => subst hfl; exact gp_net hn hp h8 hga hg2 ihf fr ind S lv w hW hd hgv hH hb0 hb1 hll hg hok hi0 hi1 hpast hq he rfl
            | false => subst hfl; exact gp_nef hn hp h8 hga hg2 ih fr ind S lv w hW hd hgv hH hb0 hb1 hll hg hok hi0 hi1 hpast hq he rfl
          · exact gp_no hn hp h8 hga hg2 ih fr ind S lv w hW hd hgv hH hb0 hb1 hll hg hok hi0 hi1 hpast hq he
  | .bin p x y, a, b, h, hk => by
    obtain ⟨c, m, rfl, hp, _, _, hx, hy⟩ := h
    have ihx := goes_any (H := H) (Wb := Wb) (dv := dv) (gv := gv) (last := last) (fl := fl) (tv := tv) hn hgl hx hk.2.1
    have ihy := goes_any (H := H) (Wb := Wb) (dv := dv) (gv := gv) (last := last) (fl := fl) (tv := tv) hn hgl hy hk.2.2
    rw [grp_seg hx] at ihy
    rcases hk.1 with h6 | h9
    · exact go_cat hn hp h6 hy ihx ihy
    · exact go_alt hn hp h9 hy ihx

/-- The walk's beginning. -/
def WS0 (n : Nat) : WS := ⟨false, List.replicate n 0, [], 0⟩
set_option maxHeartbeats 2000000 in
set_option maxRecDepth 100000 in
theorem walked_any (dv gv : Value) (doc : List Pc) (gs : List Int) (last : Int) (fl : Bool) {st : List Int} {T : Tr} (w : World) (hd : RdP w.heap.size w dv doc) (hgv : RdI w.heap.size w gv gs) (hn : doc.length ≤ 1048576) (hgl : grp doc doc.length ≤ gs.length)
    (hs : Seg doc st T 0 doc.length) (hk : KOk T) (hok : okN T) (hnt : nestT T ≤ 4000) (hsz : sz T ≤ 140000) :
    Calls Tryd.prog 10 #[dv, gv, .int .i64 last, .bool fl] w fun e w' => ∃ Wb tv lv, e = .returned (.pointer (some ⟨Wb, 0, none⟩)) ∧ WkR w.heap.size Wb w' dv gv last fl (goT gs last fl T 0 0 (WS0 (grp doc doc.length))) tv lv ∧ w.grownBy w' none := by
  obtain ⟨i0, hi, hz0, hz1, hz2⟩ := info_parts info3
  have hcn := grp_seg hs
  rw [grp_zero, Nat.zero_add] at hcn
  have hgle := grp_le doc doc.length
  have HG := hide (groupsTo_any dv doc doc.length w hd hn (Nat.le_refl _))
  have HGO : Hid (∀ Wb tv, GoAt w.heap.size Wb dv gv gs last fl doc tv T 0 doc.length) := fun Wb tv => by
    have h := goes_any (H := w.heap.size) (Wb := Wb) (dv := dv) (gv := gv) (last := last) (fl := fl) (tv := tv) hn hgl hs hk
    rwa [grp_zero] at h
  have HD := hide hd
  have HV := hide hgv
  have HK := hide (And.intro hok (And.intro hnt hsz))
  have HC := hide hcn
  obtain ⟨a, cap, hdv, hdc, hdm, _⟩ := id hd
  obtain ⟨ga, gc, hgv0, _⟩ := id hgv
  subst hdv hgv0
  generalize hN : grp doc doc.length = N at *
  clear hd hgv hs hk hok hnt hsz hcn
  go_enter Tryd.func10, Tryd.ntmps10
  go_wp2_with fail
  refine HG.out.mono ?_
  rintro e w1 ⟨rfl, rfl⟩
  clear HG
  go_wp2_with (at_make; refine wpList_make_full _ rfl _ _ 26 rfl w.heap.size 3 i0 (.int .i64 0) 1 Tryd.underlying26 hi hz0 hz1 _ _ _ _ N rfl rfl (by omega) (by omega) ?b2 ?b3 (Nat.le_refl _) ?_)
  case b2 => rw [hz2]; omega
  case b3 => unfold maxLen; omega
  intro w0 hown0 hgrow0
  have gW := World.grownBy_alloc w0 (Obj.cells #[Value.slice a doc.length cap, Value.slice ga gs.length gc, Value.int IntKind.i64 last, Value.bool fl, Value.bool false, Value.slice (some { block := w.heap.size, off := 0 }) N N, Value.slice none 0 0, Value.int IntKind.i64 0] 38) none
  have hs0 : w.heap.size < w0.heap.size := (World.ownsRow.lt hown0 w.heap.size rfl).2
  have hrow : Ow .i64 3 w.heap.size w0 (.slice (some ⟨w.heap.size, 0, none⟩) N N) (List.replicate N 0) := by
    unfold Ow
    simpa [toList_madeCells_one, Value.cells] using hown0
  have hW0 : WkR w.heap.size w0.heap.size (w0.alloc (Obj.cells #[Value.slice a doc.length cap, Value.slice ga gs.length gc, Value.int IntKind.i64 last, Value.bool fl, Value.bool false, Value.slice (some { block := w.heap.size, off := 0 }) N N, Value.slice none 0 0, Value.int IntKind.i64 0] 38)) (.slice a doc.length cap) (.slice ga gs.length gc) last fl (WS0 N) (.slice (some ⟨w.heap.size, 0, none⟩) N N) (.slice none 0 0) := by
    refine ⟨heap_alloc_new w0 _, by omega, World.ownsRow.kept hrow gW (.inr (by simp [Value.ownBlock])), ⟨by simp [WS0, cellsM], .inl ⟨rfl, rfl⟩⟩, ?_, ?_, ?_⟩
    · simp [Value.ownBlock]; omega
    · simp [Value.ownBlock]
    · intro g _; simp [Value.ownBlock]
  have g0 := grown_trans hgrow0 gW
  have hsz2 := g0.size
  have HGo := hide (HGO.out w0.heap.size (.slice (some ⟨w.heap.size, 0, none⟩) N N) 0 0 (WS0 N) (.slice none 0 0) _ hW0 (HD.out.keep g0) (HV.out.keep g0) hsz2 (Int.le_refl _) (by have := HK.out.2.2; show (0 : Int) + _ ≤ _; omega) (by have := HK.out.2.2; show 0 + _ ≤ _; omega) (by have := HC.out; show _ ≤ (List.replicate N (0 : Int)).length; rw [List.length_replicate]; omega) HK.out.1 (Int.le_refl _) (by have := HK.out.2.1; omega))
  have HB0 := hide (below_of_grown g0)
  clear HGO hW0 hrow hown0 hgrow0 gW g0 HK
  go_wp2_with fail
  refine HGo.out.mono ?_
  rintro e w2 ⟨rfl, ⟨lv', W2⟩, B2⟩
  have HW2 := hide W2
  have HB2 := hide (grown_of_below (HB0.out.trans B2))
  clear HGo W2 B2
  go_wp2
  go_ret
  exact ⟨_, _, _, rfl, HW2.out, HB2.out⟩
end Go.Proofs.YtgmjpdejfdldlaaDoor

