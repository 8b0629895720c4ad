import Derived.Test.YtakkdniikhgpdaaGreatDoorMAA
import Derived.Test.YtakkdniikhgpdaaGreatDoorMAB
namespace Go.Proofs.YtakkdniikhgpdaaGreatDoor

/-! The same for operations behind a guard that holds. -/

section
variable {P : Program} {ops : Array Oper} {Q : Exit → Act → World → Prop} {md : Region.Mode} {I : World → Prop} {ex : Nat → Bool}

theorem grown_drewG {a b : World} {r : Option Nat} (h : a.grownBy b r) : a.grownBy b.drew r := ⟨h.os, h.tape, h.output, h.size, h.block⟩
theorem wpOp_valG {i : Nat} {o : Oper} {K : Act → World → Prop} {a : Act} {w w' : World} {v : Value} (hi : ops[i]? = some o) (hw : Region.wanted o (yielded ops a.tmps) = true) (hrun : (execOp a.eval o).run P w = .ok (.value v) w') (h : K (a.put o.dst v) w') : wpOp P ops Q i K a w := by
  unfold wpOp
  simp only [hi, hw, if_true]
  refine .inl ?_
  unfold Oper.wp
  rw [hrun]; exact h
theorem wpOp_callG {i : Nat} {o : Oper} {K : Act → World → Prop} {a : Act} {w w1 : World} {f : FuncId} {args : Array Value} {R : Ending → World → Prop} (hi : ops[i]? = some o) (hw : Region.wanted o (yielded ops a.tmps) = true) (hrun : (execOp a.eval o).run P w = .ok (.enter f args) w1)
    (hc : Calls P f args w1 R) (h : ∀ e w', R e w' → ∃ v, e = .returned v ∧ K (a.put o.dst v) w') : wpOp P ops Q i K a w := by
  unfold wpOp
  simp only [hi, hw, if_true]
  refine .inl ?_
  unfold Oper.wp
  rw [hrun]
  refine Calls.mono hc fun e w' hr => ?_
  obtain ⟨v, rfl, hk⟩ := h e w' hr
  exact hk
theorem yldG {o : Oper} {v : Value} {a : Act} (hw : Region.wanted o (yielded ops a.tmps) = true) (h : ∀ w, I w → (execOp a.eval o).run P w = .ok (.value v) w) : YldI P ops I o v a := ⟨hw, h⟩
end
end Go.Proofs.YtakkdniikhgpdaaGreatDoor

namespace Go.Proofs.YtakkdniikhgpdaaGreatDoor

structure Pc where
  k : Int
  t : List Int
  n : Int
deriving Inhabited

def ar (k : Int) : Nat := if k = 6 ∨ k = 9 then 2 else if k = 7 ∨ k = 8 then 1 else 0

def pcOK (p : Pc) : Bool :=
  decide (0 ≤ p.k ∧ p.k ≤ 9) && (if p.k = 1 then !p.t.contains 10 && decide (0 ≤ widthR p.t) else p.t.isEmpty) && (if p.k = 7 then decide (0 ≤ p.n) else decide (p.n = 0))

inductive Tr where
  | leaf (p : Pc)
  | un (p : Pc) (x : Tr)
  | bin (p : Pc) (x y : Tr)

def sumT : List Pc → Int
  | [] => 0
  | p :: ps => p.t.length + sumT ps

/-- The machine of the model: 'op' is what is open, the newest first. -/
def stGo : List Pc → Nat → List Int → List Int → List Int × List Int
  | [], _, op, out => (out, op)
  | p :: ps, i, op, out =>
    if op.length < ar p.k then (out, op)
    else
      let s : Int := if ar p.k = 0 then (i : Int) else op[ar p.k - 1]?.getD 0
      stGo ps (i + 1) (s :: op.drop (ar p.k)) (out ++ [s])

def startsOf (doc : List Pc) : List Int := if (stGo doc 0 [] []).2.length = 1 then (stGo doc 0 [] []).1 else []

def nestS : Tr → Int
  | .leaf _ => 0
  | .un p x => if nestS x > 4000 ∨ p.n > 4000 then 4001 else p.n + nestS x
  | .bin _ x y => if nestS x > nestS y then nestS x else nestS y

def nestT : Tr → Int
  | .leaf _ => 0
  | .un p x => nestT x + p.n
  | .bin _ x y => max (nestT x) (nestT y)

def bdStep (st : List Tr) (p : Pc) : Option (List Tr) :=
  if ar p.k = 0 then some (.leaf p :: st)
  else if ar p.k = 1 then (match st with | x :: r => some (.un p x :: r) | [] => none)
  else (match st with | y :: x :: r => some (.bin p x y :: r) | _ => none)

def bd : List Pc → List Tr → Option (List Tr)
  | [], st => some st
  | p :: ps, st => (bdStep st p).bind (bd ps)

def Seg (doc : List Pc) (st : List Int) : Tr → Nat → Nat → Prop
  | .leaf p, a, b => b = a + 1 ∧ doc[a]? = some p ∧ ar p.k = 0 ∧ st[a]? = some (a : Int)
  | .un p x, a, b => ∃ m, b = m + 1 ∧ doc[m]? = some p ∧ ar p.k = 1 ∧ st[m]? = some (a : Int) ∧ Seg doc st x a m
  | .bin p x y, a, b => ∃ c m, b = m + 1 ∧ doc[m]? = some p ∧ ar p.k = 2 ∧ st[m]? = some (a : Int) ∧ Seg doc st x a c ∧ Seg doc st y c m

theorem Seg.lt {doc : List Pc} {st : List Int} : ∀ {T : Tr} {a b : Nat}, Seg doc st T a b → a < b
  | .leaf _, _, _, h => by obtain ⟨h, _⟩ := h; omega
  | .un _ _, _, _, h => by obtain ⟨m, h, _, _, _, hx⟩ := h; have := hx.lt; omega
  | .bin _ _ _, _, _, h => by obtain ⟨c, m, h, _, _, _, hx, hy⟩ := h; have := hx.lt; have := hy.lt; omega

theorem Seg.last {doc : List Pc} {st : List Int} : ∀ {T : Tr} {a b : Nat}, Seg doc st T a b → st[b - 1]? = some (a : Int)
  | .leaf _, _, _, h => by obtain ⟨h, _, _, hs⟩ := h; subst h; exact hs
  | .un _ _, _, _, h => by obtain ⟨m, h, _, _, hs, hx⟩ := h; subst h; exact hs
  | .bin _ _ _, _, _, h => by obtain ⟨c, m, h, _, _, hs, hx, hy⟩ := h; subst h; exact hs

theorem Seg.le {doc : List Pc} {st : List Int} {T : Tr} {a b : Nat} (h : Seg doc st T a b) : b ≤ st.length := by
  have h1 := h.last; have h2 := h.lt
  have := (List.getElem?_eq_some_iff.1 h1).1
  omega

theorem Seg.more {doc : List Pc} {st : List Int} (xs : List Int) : ∀ {T : Tr} {a b : Nat}, Seg doc st T a b → Seg doc (st ++ xs) T a b
  | .leaf _, _, _, h => by
    obtain ⟨h, h1, h2, hs⟩ := h
    exact ⟨h, h1, h2, by rw [List.getElem?_append_left (List.getElem?_eq_some_iff.1 hs).1]; exact hs⟩
  | .un _ _, _, _, h => by
    obtain ⟨m, h, h1, h2, hs, hx⟩ := h
    exact ⟨m, h, h1, h2, by rw [List.getElem?_append_left (List.getElem?_eq_some_iff.1 hs).1]; exact hs, hx.more xs⟩
  | .bin _ _ _, _, _, h => by
    obtain ⟨c, m, h, h1, h2, hs, hx, hy⟩ := h
    exact ⟨c, m, h, h1, h2, by rw [List.getElem?_append_left (List.getElem?_eq_some_iff.1 hs).1]; exact hs, hx.more xs, hy.more xs⟩

/-- What is open, tree by tree, the newest first, each behind the other. -/
def Stk (doc : List Pc) (out : List Int) : List Tr → List Int → Nat → Prop
  | [], op, e => op = [] ∧ e = 0
  | T :: st, op, e => ∃ (m : Nat) (r : List Int), op = (m : Int) :: r ∧ Seg doc out T m e ∧ Stk doc out st r m

theorem Stk.len {doc : List Pc} {out : List Int} : ∀ {st : List Tr} {op : List Int} {e : Nat}, Stk doc out st op e → op.length = st.length
  | [], _, _, h => by rw [h.1]; rfl
  | _ :: _, _, _, h => by obtain ⟨m, r, rfl, _, h2⟩ := h; simp [h2.len]

theorem Stk.more {doc : List Pc} {out : List Int} (xs : List Int) : ∀ {st : List Tr} {op : List Int} {e : Nat}, Stk doc out st op e → Stk doc (out ++ xs) st op e
  | [], _, _, h => h
  | _ :: _, _, _, h => by obtain ⟨m, r, rfl, h1, h2⟩ := h; exact ⟨m, r, rfl, h1.more xs, h2.more xs⟩

theorem stGo_len : ∀ (ps : List Pc) (i : Nat) (op out : List Int), out.length ≤ (stGo ps i op out).1.length ∧ (stGo ps i op out).1.length ≤ out.length + ps.length
  | [], i, op, out => by simp [stGo]
  | p :: ps, i, op, out => by
    unfold stGo
    split
    · simp
    · have := stGo_len ps (i + 1) ((if ar p.k = 0 then (i : Int) else op[ar p.k - 1]?.getD 0) :: op.drop (ar p.k)) (out ++ [if ar p.k = 0 then (i : Int) else op[ar p.k - 1]?.getD 0])
      simp only [List.length_append, List.length_cons, List.length_nil] at this ⊢
      omega

theorem ar_cases (k : Int) : ar k = 0 ∨ ar k = 1 ∨ ar k = 2 := by
  unfold ar
  split
  · simp
  · split <;> simp

theorem stGo_bd (doc : List Pc) : ∀ (ps pre : List Pc) (op out : List Int) (st : List Tr), doc = pre ++ ps → out.length = pre.length → Stk doc out st op pre.length →
    ((stGo ps pre.length op out).1.length = doc.length ∧ ∃ st', bd ps st = some st' ∧ Stk doc (stGo ps pre.length op out).1 st' (stGo ps pre.length op out).2 doc.length) ∨
    ((stGo ps pre.length op out).1.length < doc.length ∧ bd ps st = none)
  | [], pre, op, out, st, hd, ho, hs => by
    simp only [List.append_nil] at hd
    subst hd
    exact .inl ⟨ho, st, rfl, hs⟩
  | p :: ps, pre, op, out, st, hd, ho, hs => by
    have hl := hs.len
    have hp : doc[pre.length]? = some p := by rw [hd]; simp
    have hdl : doc.length = pre.length + (ps.length + 1) := by rw [hd]; simp
    unfold stGo
    by_cases hb : op.length < ar p.k
    · rw [if_pos hb]
      refine .inr ⟨by show out.length < _; omega, ?_⟩
      rcases ar_cases p.k with h | h | h
      · omega
      · have : st = [] := by rw [← List.length_eq_zero_iff]; omega
        subst this
        simp [bd, bdStep, h]
      · rcases st with _ | ⟨x, _ | ⟨y, r⟩⟩
        · simp [bd, bdStep, h]
        · simp [bd, bdStep, h]
        · simp only [List.length_cons] at hl; omega
    · rw [if_neg hb]
      have hpl : (pre ++ [p]).length = pre.length + 1 := by simp
      have key : ∀ (s : Int) (st1 : List Tr), bdStep st p = some st1 → Stk doc (out ++ [s]) st1 (s :: op.drop (ar p.k)) (pre.length + 1) →
          ((stGo ps (pre.length + 1) (s :: op.drop (ar p.k)) (out ++ [s])).1.length = doc.length ∧ ∃ st', bd (p :: ps) st = some st' ∧ Stk doc (stGo ps (pre.length + 1) (s :: op.drop (ar p.k)) (out ++ [s])).1 st' (stGo ps (pre.length + 1) (s :: op.drop (ar p.k)) (out ++ [s])).2 doc.length) ∨
          ((stGo ps (pre.length + 1) (s :: op.drop (ar p.k)) (out ++ [s])).1.length < doc.length ∧ bd (p :: ps) st = none) := by
        intro s st1 h1 h2
        have := stGo_bd doc ps (pre ++ [p]) (s :: op.drop (ar p.k)) (out ++ [s]) st1 (by rw [hd]; simp) (by simp [ho]) (by rw [hpl]; exact h2)
        rw [hpl] at this
        simpa [bd, h1] using this
      rcases ar_cases p.k with h | h | h
      · simp only [h, if_true]
        have := key (pre.length : Int) (.leaf p :: st) (by simp [bdStep, h]) ⟨pre.length, _, rfl, ⟨rfl, hp, h, by rw [List.getElem?_append_right (by omega)]; simp [ho]⟩, by rw [h]; exact hs.more _⟩
        simpa [h] using this
      · rcases st with _ | ⟨x, r⟩
        · simp only [List.length_nil] at hl; omega
        · obtain ⟨m, ro, rfl, hx, hr⟩ := hs
          have := key (m : Int) (.un p x :: r) (by simp [bdStep, h]) ⟨m, _, rfl, ⟨pre.length, rfl, hp, h, by rw [List.getElem?_append_right (by omega)]; simp [ho], hx.more _⟩, by rw [h]; exact hr.more _⟩
          simpa [h] using this
      · rcases st with _ | ⟨y, _ | ⟨x, r⟩⟩
        · simp only [List.length_nil] at hl; omega
        · simp only [List.length_cons, List.length_nil] at hl; omega
        · obtain ⟨m, ro, rfl, hy, m2, ro2, rfl, hx, hr⟩ := hs
          have := key (m2 : Int) (.bin p x y :: r) (by simp [bdStep, h]) ⟨m2, _, rfl, ⟨m, pre.length, rfl, hp, h, by rw [List.getElem?_append_right (by omega)]; simp [ho], hx.more _, hy.more _⟩, by rw [h]; exact hr.more _⟩
          simpa [h] using this

/-- All elements find their operands, and one document is left: or not. -/
theorem starts_ok (doc : List Pc) (h0 : doc ≠ []) :
    ((startsOf doc).length = doc.length ∧ ∃ T, bd doc [] = some [T] ∧ Seg doc (startsOf doc) T 0 doc.length) ∨ ((startsOf doc).length ≠ doc.length ∧ ∀ T, bd doc [] ≠ some [T]) := by
  have hl : 0 < doc.length := List.length_pos_iff.2 h0
  have := stGo_bd doc doc [] [] [] [] (by simp) rfl ⟨rfl, rfl⟩
  simp only [List.length_nil] at this
  unfold startsOf
  rcases this with ⟨h1, st', h2, h3⟩ | ⟨h1, h2⟩
  · by_cases h : (stGo doc 0 [] []).2.length = 1
    · rw [if_pos h]
      have hl3 := h3.len
      rcases st' with _ | ⟨T, _ | ⟨y, r⟩⟩
      · simp only [List.length_nil] at hl3; omega
      · obtain ⟨m, ro, h4, h5, h6, h7⟩ := h3
        subst h7
        exact .inl ⟨h1, T, h2, h5⟩
      · simp only [List.length_cons] at hl3; omega
    · rw [if_neg h]
      refine .inr ⟨by simp; omega, fun T hT => ?_⟩
      rw [h2] at hT
      have := h3.len
      simp at hT
      subst hT
      simp at this
      omega
  · refine .inr ⟨?_, fun T hT => by rw [h2] at hT; cases hT⟩
    split
    · omega
    · simp; omega

def specV (doc : List Pc) : Bool :=
  decide (1 ≤ doc.length ∧ doc.length ≤ 40000) && doc.all pcOK && decide (sumT doc ≤ 100000) && decide ((startsOf doc).length = doc.length) && (match bd doc [] with | some [T] => decide (nestS T ≤ 4000) | _ => false)

/-- The machine of the program. -/
def imStep (room : Int) (st : List (Tr × Int)) (p : Pc) : Option (Int × List (Tr × Int)) :=
  if (p.k ≠ 1 ∧ 0 < p.t.length) ∨ (p.k ≠ 7 ∧ p.n ≠ 0) then none
  else if p.k = 1 then (if room < p.t.length then none else if widthR p.t < 0 ∨ p.t.contains 10 = true then none else some (room - p.t.length, (.leaf p, 0) :: st))
  else if p.k = 0 ∨ p.k = 2 ∨ p.k = 3 ∨ p.k = 4 ∨ p.k = 5 then some (room, (.leaf p, 0) :: st)
  else if p.k = 6 ∨ p.k = 9 then (match st with | (y, ny) :: (x, nx) :: r => some (room, (.bin p x y, max nx ny) :: r) | _ => none)
  else if p.k = 7 ∨ p.k = 8 then (match st with | (x, nx) :: r => if p.n < 0 ∨ 4000 - nx < p.n then none else some (room, (.un p x, nx + p.n) :: r) | _ => none)
  else none

def imGo : List Pc → Int → List (Tr × Int) → Option (List (Tr × Int))
  | [], _, st => some st
  | p :: ps, room, st => (imStep room st p).bind fun (r, s) => imGo ps r s

def Good (st : List (Tr × Int)) : Prop := ∀ x ∈ st, x.2 = nestT x.1 ∧ 0 ≤ x.2 ∧ x.2 ≤ 4000

def okN : Tr → Prop
  | .leaf _ => True
  | .un p x => 0 ≤ p.n ∧ okN x
  | .bin _ x y => okN x ∧ okN y

theorem nestT_pos : ∀ (T : Tr), okN T → 0 ≤ nestT T
  | .leaf _, _ => by simp [nestT]
  | .un p x, h => by have := nestT_pos x h.2; have := h.1; simp only [nestT]; omega
  | .bin _ x y, h => by have := nestT_pos x h.1; simp only [nestT]; omega

theorem nestS_T : ∀ (T : Tr), okN T → (nestT T ≤ 4000 ∧ nestS T = nestT T) ∨ (4000 < nestT T ∧ 4000 < nestS T)
  | .leaf _, _ => by simp [nestT, nestS]
  | .un p x, h => by
    have h1 := nestS_T x h.2; have h2 := nestT_pos x h.2; have := h.1
    simp only [nestT, nestS]
    split <;> omega
  | .bin _ x y, h => by
    have h1 := nestS_T x h.1; have h2 := nestS_T y h.2
    simp only [nestT, nestS]
    split <;> omega

theorem bd_okN : ∀ (ps : List Pc) (st r : List Tr), ps.all pcOK = true → (∀ x ∈ st, okN x) → bd ps st = some r → ∀ x ∈ r, okN x
  | [], st, r, _, hs, h => by simp [bd] at h; subst h; exact hs
  | p :: ps, st, r, ha, hs, h => by
    simp only [List.all_cons, Bool.and_eq_true] at ha
    simp only [bd] at h
    obtain ⟨s1, h1, h2⟩ := Option.bind_eq_some_iff.1 h
    refine bd_okN ps s1 r ha.2 ?_ h2
    have hn : 0 ≤ p.n := by
      have := ha.1
      simp only [pcOK, Bool.and_eq_true] at this
      have := this.2
      split at this <;> simp at this <;> omega
    unfold bdStep at h1
    split at h1
    · cases h1
      intro x hx
      rcases List.mem_cons.1 hx with rfl | hx
      · trivial
      · exact hs x hx
    · split at h1
      · split at h1
        · cases h1
          intro x hx
          rcases List.mem_cons.1 hx with rfl | hx
          · exact ⟨hn, hs _ (by simp)⟩
          · exact hs x (by simp [hx])
        · cases h1
      · split at h1
        · cases h1
          intro x hx
          rcases List.mem_cons.1 hx with rfl | hx
          · exact ⟨hs _ (by simp), hs _ (by simp)⟩
          · exact hs x (by simp [hx])
        · cases h1

theorem bd_high : ∀ (ps : List Pc) (st r : List Tr), ps.all pcOK = true → (∃ x ∈ st, 4000 < nestT x) → bd ps st = some r → ∃ x ∈ r, 4000 < nestT x
  | [], st, r, _, hs, h => by simp [bd] at h; subst h; exact hs
  | p :: ps, st, r, ha, hs, h => by
    simp only [List.all_cons, Bool.and_eq_true] at ha
    simp only [bd] at h
    obtain ⟨s1, h1, h2⟩ := Option.bind_eq_some_iff.1 h
    refine bd_high ps s1 r ha.2 ?_ h2
    have hn : 0 ≤ p.n := by
      have := ha.1
      simp only [pcOK, Bool.and_eq_true] at this
      have := this.2
      split at this <;> simp at this <;> omega
    obtain ⟨x, hx, h4⟩ := hs
    unfold bdStep at h1
    split at h1
    · cases h1
      exact ⟨x, by simp [hx], h4⟩
    · split at h1
      · split at h1
        · cases h1
          rcases List.mem_cons.1 hx with rfl | hx
          · exact ⟨_, List.mem_cons_self .., by simp only [nestT]; omega⟩
          · exact ⟨x, by simp [hx], h4⟩
        · cases h1
      · split at h1
        · cases h1
          rcases List.mem_cons.1 hx with rfl | hx
          · exact ⟨_, List.mem_cons_self .., by simp only [nestT]; omega⟩
          · rcases List.mem_cons.1 hx with rfl | hx
            · exact ⟨_, List.mem_cons_self .., by simp only [nestT]; omega⟩
            · exact ⟨x, by simp [hx], h4⟩
        · cases h1


theorem pcOK_iff (p : Pc) : pcOK p = true ↔ (0 ≤ p.k ∧ p.k ≤ 9) ∧ (p.k = 1 → p.t.contains 10 = false ∧ 0 ≤ widthR p.t) ∧ (p.k ≠ 1 → p.t.length = 0) ∧ (p.k = 7 → 0 ≤ p.n) ∧ (p.k ≠ 7 → p.n = 0) := by
  unfold pcOK
  by_cases h1 : p.k = 1 <;> by_cases h7 : p.k = 7 <;> simp [h1, h7] <;> grind

/-- One element: what the program does is what the model asks. -/
theorem imStep_eq (room : Int) (st : List (Tr × Int)) (p : Pc) (hr : 0 ≤ room) (hg : Good st) :
    (∃ s, imStep room st p = some (room - p.t.length, s) ∧ pcOK p = true ∧ (p.t.length : Int) ≤ room ∧ bdStep (st.map (·.1)) p = some (s.map (·.1)) ∧ Good s) ∨
    (imStep room st p = none ∧ (pcOK p = false ∨ room < p.t.length ∨ bdStep (st.map (·.1)) p = none ∨ ∃ s, bdStep (st.map (·.1)) p = some s ∧ ∃ x ∈ s, 4000 < nestT x)) := by
  by_cases hA : (p.k ≠ 1 ∧ 0 < p.t.length) ∨ (p.k ≠ 7 ∧ p.n ≠ 0)
  · refine .inr ⟨by unfold imStep; rw [if_pos hA], .inl ?_⟩
    rw [← Bool.not_eq_true, pcOK_iff]
    intro h
    rcases hA with h1 | h1
    · have := h.2.2.1 h1.1; omega
    · exact h1.2 (h.2.2.2.2 h1.1)
  · have hA1 : p.k ≠ 1 → p.t.length = 0 := fun h => by omega
    have hA2 : p.k ≠ 7 → p.n = 0 := fun h => by omega
    unfold imStep
    rw [if_neg hA]
    by_cases k1 : p.k = 1
    · rw [if_pos k1]
      by_cases hB : room < p.t.length
      · rw [if_pos hB]
        exact .inr ⟨rfl, .inr (.inl hB)⟩
      · rw [if_neg hB]
        by_cases hC : widthR p.t < 0 ∨ p.t.contains 10 = true
        · rw [if_pos hC]
          refine .inr ⟨rfl, .inl ?_⟩
          rw [← Bool.not_eq_true, pcOK_iff]
          intro h
          have := h.2.1 k1
          rcases hC with hC | hC
          · omega
          · rw [this.1] at hC; cases hC
        · rw [if_neg hC]
          refine .inl ⟨_, rfl, ?_, by omega, by simp [bdStep, ar, k1], ?_⟩
          · rw [pcOK_iff]
            refine ⟨by omega, fun _ => ⟨?_, by omega⟩, hA1, by omega, hA2⟩
            cases h : p.t.contains 10
            · rfl
            · exact absurd (.inr h) hC
          · intro x hx
            rcases List.mem_cons.1 hx with rfl | hx
            · simp [nestT]
            · exact hg x hx
    · have ht := hA1 k1
      rw [if_neg k1]
      by_cases hL : p.k = 0 ∨ p.k = 2 ∨ p.k = 3 ∨ p.k = 4 ∨ p.k = 5
      · rw [if_pos hL]
        refine .inl ⟨_, by rw [ht]; simp; rfl, ?_, by omega, ?_, ?_⟩
        · rw [pcOK_iff]
          exact ⟨by omega, by omega, hA1, by omega, hA2⟩
        · have : ar p.k = 0 := by unfold ar; rw [if_neg (by omega), if_neg (by omega)]
          simp [bdStep, this]
        · intro x hx
          rcases List.mem_cons.1 hx with rfl | hx
          · simp [nestT]
          · exact hg x hx
      · rw [if_neg hL]
        by_cases hP : p.k = 6 ∨ p.k = 9
        · rw [if_pos hP]
          have har : ar p.k = 2 := by unfold ar; rw [if_pos hP]
          have hok : pcOK p = true := by rw [pcOK_iff]; exact ⟨by omega, by omega, hA1, by omega, hA2⟩
          rcases st with _ | ⟨⟨y, ny⟩, _ | ⟨⟨x, nx⟩, r⟩⟩
          · exact .inr ⟨rfl, .inr (.inr (.inl (by simp [bdStep, har])))⟩
          · exact .inr ⟨rfl, .inr (.inr (.inl (by simp [bdStep, har])))⟩
          · refine .inl ⟨_, by rw [ht]; simp; rfl, hok, by omega, by simp [bdStep, har], ?_⟩
            intro z hz
            rcases List.mem_cons.1 hz with rfl | hz
            · have h1 := hg (x, nx) (by simp)
              have h2 := hg (y, ny) (by simp)
              simp only [nestT] at h1 h2 ⊢
              omega
            · exact hg z (by simp [hz])
        · rw [if_neg hP]
          by_cases hU : p.k = 7 ∨ p.k = 8
          · rw [if_pos hU]
            have har : ar p.k = 1 := by unfold ar; rw [if_neg hP, if_pos hU]
            rcases st with _ | ⟨⟨x, nx⟩, r⟩
            · exact .inr ⟨rfl, .inr (.inr (.inl (by simp [bdStep, har])))⟩
            · have h1 := hg (x, nx) (by simp)
              simp only at h1
              by_cases hN : p.n < 0 ∨ 4000 - nx < p.n
              · simp only [if_pos hN]
                refine .inr ⟨trivial, ?_⟩
                by_cases hn : p.n < 0
                · refine .inl ?_
                  rw [← Bool.not_eq_true, pcOK_iff]
                  intro h
                  by_cases k7 : p.k = 7
                  · have := h.2.2.2.1 k7; omega
                  · have := h.2.2.2.2 k7; omega
                · exact .inr (.inr (.inr ⟨.un p x :: r.map (·.1), by simp [bdStep, har], .un p x, by simp, by simp only [nestT]; omega⟩))
              · simp only [if_neg hN]
                refine .inl ⟨_, by rw [ht]; simp; rfl, ?_, by omega, by simp [bdStep, har], ?_⟩
                · rw [pcOK_iff]; exact ⟨by omega, by omega, hA1, by omega, hA2⟩
                · intro z hz
                  rcases List.mem_cons.1 hz with rfl | hz
                  · simp only [nestT]; omega
                  · exact hg z (by simp [hz])
          · rw [if_neg hU]
            refine .inr ⟨rfl, .inl ?_⟩
            rw [← Bool.not_eq_true, pcOK_iff]
            intro h
            omega

theorem im_bd : ∀ (ps : List Pc) (room : Int) (st : List (Tr × Int)), 0 ≤ room → Good st →
    (∃ s, imGo ps room st = some s ∧ ps.all pcOK = true ∧ sumT ps ≤ room ∧ bd ps (st.map (·.1)) = some (s.map (·.1)) ∧ Good s) ∨
    (imGo ps room st = none ∧ (ps.all pcOK = false ∨ room < sumT ps ∨ bd ps (st.map (·.1)) = none ∨ ∃ s, bd ps (st.map (·.1)) = some s ∧ ∃ x ∈ s, 4000 < nestT x))
  | [], room, st, hr, hg => .inl ⟨st, rfl, rfl, by simp [sumT]; exact hr, rfl, hg⟩
  | p :: ps, room, st, hr, hg => by
    have hsum : ∀ qs : List Pc, 0 ≤ sumT qs := by
      intro qs
      induction qs with
      | nil => simp [sumT]
      | cons q qs ih => simp only [sumT]; omega
    have hs0 := hsum ps
    rcases imStep_eq room st p hr hg with ⟨s, h1, h2, h3, h4, h5⟩ | ⟨h1, h2⟩
    · have ih := im_bd ps (room - p.t.length) s (by omega) h5
      simp only [imGo, h1, Option.bind_some, bd, h4, List.all_cons, h2, Bool.true_and, sumT]
      rcases ih with ⟨s2, i1, i2, i3, i4, i5⟩ | ⟨i1, i2⟩
      · exact .inl ⟨s2, i1, i2, by omega, i4, i5⟩
      · refine .inr ⟨i1, ?_⟩
        rcases i2 with i | i | i | i
        · exact .inl i
        · exact .inr (.inl (by omega))
        · exact .inr (.inr (.inl i))
        · exact .inr (.inr (.inr i))
    · simp only [imGo, h1, Option.bind_none, bd, List.all_cons, sumT]
      refine .inr ⟨trivial, ?_⟩
      rcases h2 with h | h | h | ⟨s, h, h'⟩
      · exact .inl (by rw [h]; rfl)
      · exact .inr (.inl (by omega))
      · exact .inr (.inr (.inl (by rw [h]; rfl)))
      · by_cases ha : ps.all pcOK = true
        · rw [h, Option.bind_some]
          cases hb : bd ps s with
          | none => exact .inr (.inr (.inl rfl))
          | some r => exact .inr (.inr (.inr ⟨r, rfl, bd_high ps s r ha h' hb⟩))
        · exact .inl (by simp [Bool.not_eq_true] at ha ⊢; exact fun _ => ha)

/-- The model's answer and the program's tree. -/
theorem valid_eq (doc : List Pc) :
    (specV doc = true ∧ doc.length ≤ 40000 ∧ ∃ T n, bd doc [] = some [T] ∧ imGo doc 100000 [] = some [(T, n)] ∧ Seg doc (startsOf doc) T 0 doc.length) ∨
    (specV doc = false ∧ (40000 < doc.length ∨ imGo doc 100000 [] = none ∨ ∃ s, imGo doc 100000 [] = some s ∧ s.length ≠ 1)) := by
  by_cases h0 : doc = []
  · subst h0
    exact .inr ⟨rfl, .inr (.inr ⟨[], rfl, by simp⟩)⟩
  have hlen : 1 ≤ doc.length := List.length_pos_iff.2 h0
  by_cases hl : doc.length ≤ 40000
  · have hso := starts_ok doc h0
    rcases im_bd doc 100000 [] (by omega) (fun x hx => by cases hx) with ⟨s, h1, h2, h3, h4, h5⟩ | ⟨h1, h2⟩
    · rcases hso with ⟨k1, T, k2, k3⟩ | ⟨k1, k2⟩
      · simp only [List.map_nil] at h4
        rw [k2] at h4
        rcases s with _ | ⟨⟨T', n⟩, _ | ⟨y, r⟩⟩
        · simp at h4
        · simp at h4
          subst h4
          refine .inl ⟨?_, hl, T, n, k2, h1, k3⟩
          have hok := bd_okN doc [] [T] h2 (fun x hx => by cases hx) k2 T (by simp)
          have hn := h5 (T, n) (by simp)
          simp only at hn
          have := nestS_T T hok
          simp only [specV, k1, k2, h2, hlen, hl, h3]
          simp
          omega
        · simp at h4
      · refine .inr ⟨by simp [specV, k1], .inr (.inr ⟨s, h1, fun hs => ?_⟩)⟩
        rcases s with _ | ⟨⟨T', n⟩, _ | ⟨y, r⟩⟩
        · simp at hs
        · exact k2 T' (by simpa using h4)
        · simp at hs
    · refine .inr ⟨?_, .inr (.inl h1)⟩
      rcases h2 with h | h | h | ⟨s, h, x, hx, hx4⟩
      · simp [specV, h]
      · simp only [specV]
        have : ¬ (sumT doc ≤ 100000) := by omega
        simp [this]
      · simp only [List.map_nil] at h
        simp [specV, h]
      · simp only [List.map_nil] at h
        by_cases ha : doc.all pcOK = true
        · have hok := bd_okN doc [] s ha (fun x hx => by cases hx) h
          rcases s with _ | ⟨T', _ | ⟨y, r⟩⟩
          · simp [specV, h]
          · simp at hx
            subst hx
            have := nestS_T x (hok x (by simp))
            have h6 : ¬ (nestS x ≤ 4000) := by omega
            simp [specV, h, h6]
          · simp [specV, h]
        · simp only [Bool.not_eq_true] at ha
          simp [specV, ha]
  · refine .inr ⟨?_, .inl (by omega)⟩
    simp only [specV]
    have : ¬ (1 ≤ doc.length ∧ doc.length ≤ 40000) := by omega
    simp [this]


/-- How much a tree can bring to a text or to a width. -/
def sz : Tr → Nat
  | .leaf p => p.t.length + 1
  | .un p x => p.t.length + 1 + sz x
  | .bin p x y => p.t.length + 1 + (sz x + sz y)

def szs : List Tr → Nat
  | [] => 0
  | x :: r => sz x + szs r

theorem bd_sz : ∀ (ps : List Pc) (st r : List Tr), bd ps st = some r → (szs r : Int) = szs st + sumT ps + ps.length
  | [], st, r, h => by simp [bd] at h; subst h; simp [sumT]
  | p :: ps, st, r, h => by
    simp only [bd] at h
    obtain ⟨s1, h1, h2⟩ := Option.bind_eq_some_iff.1 h
    have ih := bd_sz ps s1 r h2
    have : (szs s1 : Int) = szs st + p.t.length + 1 := by
      unfold bdStep at h1
      split at h1
      · cases h1; simp only [szs, sz]; omega
      · split at h1
        · split at h1
          · cases h1; simp only [szs, sz]; omega
          · cases h1
        · split at h1
          · cases h1; simp only [szs, sz]; omega
          · cases h1
    simp only [sumT, List.length_cons]
    omega

theorem spec_sz (doc : List Pc) (h : specV doc = true) (T : Tr) (hT : bd doc [] = some [T]) : sz T ≤ 140000 := by
  have := bd_sz doc [] [T] hT
  simp only [specV, Bool.and_eq_true, decide_eq_true_eq] at h
  simp only [szs] at this
  omega

/-- The flat text behind out, if there is one. -/
def flatT : Tr → List Int → Option (List Int)
  | .leaf p, out => if p.k = 0 ∨ p.k = 3 then some out else if p.k = 1 then some (out ++ p.t) else if p.k = 2 then some (out ++ [32]) else none
  | .un _ x, out => flatT x out
  | .bin p x y, out => if p.k = 6 then (flatT x out).bind (flatT y) else flatT y out

theorem flatT_len : ∀ (T : Tr) (out o : List Int), flatT T out = some o → o.length ≤ out.length + sz T
  | .leaf p, out, o, h => by
    unfold flatT at h
    simp only [sz]
    split at h
    · cases h; omega
    · split at h
      · cases h; simp
      · split at h
        · cases h; simp
        · cases h
  | .un p x, out, o, h => by have := flatT_len x out o h; simp only [sz]; omega
  | .bin p x y, out, o, h => by
    unfold flatT at h
    simp only [sz]
    split at h
    · obtain ⟨o1, h1, h2⟩ := Option.bind_eq_some_iff.1 h
      have := flatT_len x out o1 h1; have := flatT_len y o1 o h2; omega
    · have := flatT_len y out o h; omega

def leadT : Tr → Int × Bool
  | .leaf p => if p.k = 0 then (0, false) else if p.k = 1 then (widthR p.t, false) else (0, true)
  | .un _ x => leadT x
  | .bin p x y => if p.k = 9 ∨ (leadT x).2 = true then leadT x else ((leadT x).1 + (leadT y).1, (leadT y).2)

theorem leadT_le (hw : ∀ t, -1 ≤ widthR t ∧ widthR t ≤ t.length) : ∀ (T : Tr), -(sz T : Int) ≤ (leadT T).1 ∧ (leadT T).1 ≤ sz T
  | .leaf p => by
    have := hw p.t
    unfold leadT
    simp only [sz]
    split
    · simp; omega
    · split
      · simp; omega
      · simp; omega
  | .un p x => by have := leadT_le hw x; simp only [sz, leadT]; omega
  | .bin p x y => by
    have := leadT_le hw x; have := leadT_le hw y
    unfold leadT
    simp only [sz]
    split
    · omega
    · simp only; omega

/-- The nodes that are met, in order. -/
def preo (fl : Bool) : Tr → List Tr
  | .leaf p => [.leaf p]
  | .un p x => .un p x :: preo fl x
  | .bin p x y => .bin p x y :: (if p.k = 6 then preo fl x ++ preo fl y else if fl then preo fl y else preo fl x)

/-- What a node puts on the work, its first one first. -/
def kids (fl : Bool) : Tr → List Tr
  | .leaf _ => []
  | .un _ x => [x]
  | .bin p x y => if p.k = 6 then [x, y] else if fl then [y] else [x]

def preos (fl : Bool) : List Tr → List Tr
  | [] => []
  | x :: r => preo fl x ++ preos fl r

theorem preos_cons (fl : Bool) (T : Tr) (r : List Tr) : preos fl (T :: r) = T :: preos fl (kids fl T ++ r) := by
  cases T with
  | leaf p => rfl
  | un p x => rfl
  | bin p x y =>
    simp only [preos, preo, kids]
    split
    · simp [preos]
    · split <;> simp [preos]

theorem kids_sz (fl : Bool) (T : Tr) (r : List Tr) : szs (kids fl T ++ r) + 1 ≤ szs (T :: r) := by
  cases T with
  | leaf p => simp only [kids, szs, sz, List.nil_append]; omega
  | un p x => simp only [kids, szs, sz, List.cons_append, List.nil_append]; omega
  | bin p x y =>
    simp only [kids]
    split
    · simp only [szs, sz, List.cons_append, List.nil_append]; omega
    · split
      · simp only [szs, sz, List.cons_append, List.nil_append]; omega
      · simp only [szs, sz, List.cons_append, List.nil_append]; omega

theorem length_szs : ∀ (r : List Tr), r.length ≤ szs r
  | [] => by simp [szs]
  | x :: r => by
    have := length_szs r
    have : 1 ≤ sz x := by cases x <;> simp only [sz] <;> omega
    simp only [szs, List.length_cons]; omega

def flatF : List Tr → List Int → Option (List Int)
  | [], out => some out
  | .leaf p :: r, out => if p.k = 0 ∨ p.k = 3 then flatF r out else if p.k = 1 then flatF r (out ++ p.t) else if p.k = 2 then flatF r (out ++ [32]) else none
  | .un _ _ :: r, out => flatF r out
  | .bin _ _ _ :: r, out => flatF r out

theorem flatF_T : ∀ (T : Tr) (r : List Tr) (out : List Int), flatF (preo true T ++ r) out = (flatT T out).bind (flatF r)
  | .leaf p, r, out => by
    simp only [preo, List.cons_append, List.nil_append, flatF, flatT]
    split
    · rfl
    · split
      · rfl
      · split <;> rfl
  | .un p x, r, out => by simp only [preo, List.cons_append, flatF, flatT]; exact flatF_T x r out
  | .bin p x y, r, out => by
    simp only [preo, List.cons_append, flatF, flatT]
    split
    · rw [List.append_assoc, flatF_T x]
      cases flatT x out with
      | none => rfl
      | some o => exact flatF_T y r o
    · exact flatF_T y r out

def leadF : List Tr → Int → Int
  | [], w => w
  | .leaf p :: r, w => if p.k = 0 then leadF r w else if p.k = 1 then leadF r (w + widthR p.t) else w
  | .un _ _ :: r, w => leadF r w
  | .bin _ _ _ :: r, w => leadF r w

/-- Each node has as many operands as its kind takes. -/
def okA : Tr → Prop
  | .leaf p => ar p.k = 0
  | .un p x => ar p.k = 1 ∧ okA x
  | .bin p x y => ar p.k = 2 ∧ okA x ∧ okA y

theorem Seg.okA {doc : List Pc} {st : List Int} : ∀ {T : Tr} {a b : Nat}, Seg doc st T a b → okA T
  | .leaf _, _, _, h => h.2.2.1
  | .un _ _, _, _, h => by obtain ⟨m, h, _, h1, hs, hx⟩ := h; exact ⟨h1, hx.okA⟩
  | .bin _ _ _, _, _, h => by obtain ⟨c, m, h, _, h1, hs, hx, hy⟩ := h; exact ⟨h1, hx.okA, hy.okA⟩

theorem ar2 {k : Int} (h : ar k = 2) : k = 6 ∨ k = 9 := by
  unfold ar at h
  split at h
  · assumption
  · split at h <;> cases h

theorem ar1 {k : Int} (h : ar k = 1) : k = 7 ∨ k = 8 := by
  unfold ar at h
  split at h
  · cases h
  · split at h
    · assumption
    · cases h

theorem leadF_T : ∀ (T : Tr) (r : List Tr) (w : Int), okA T → leadF (preo false T ++ r) w = if (leadT T).2 = true then w + (leadT T).1 else leadF r (w + (leadT T).1)
  | .leaf p, r, w, _ => by
    simp only [preo, List.cons_append, List.nil_append, leadF, leadT]
    split
    · simp
    · split <;> simp
  | .un p x, r, w, h => by simp only [preo, List.cons_append, leadF, leadT]; exact leadF_T x r w h.2
  | .bin p x y, r, w, h => by
    simp only [preo, List.cons_append, leadF, leadT]
    by_cases h6 : p.k = 6
    · have h9 : ¬ p.k = 9 := by omega
      simp only [h6, if_true]
      rw [List.append_assoc, leadF_T x _ _ h.2.1]
      cases hx : (leadT x).2
      · simp [leadF_T y _ _ h.2.2, Int.add_assoc]
      · simp [hx]
    · have h9 : p.k = 9 := (ar2 h.1).resolve_left h6
      simp only [h9, true_or, if_true]
      rw [if_neg (by omega), if_neg (by simp), leadF_T x _ _ h.2.1]

end Go.Proofs.YtakkdniikhgpdaaGreatDoor

