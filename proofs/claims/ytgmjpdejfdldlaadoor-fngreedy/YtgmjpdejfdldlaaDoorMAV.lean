import Derived.Test.YtgmjpdejfdldlaaDoorMAH
import Derived.Test.YtgmjpdejfdldlaaDoorMAU
namespace Go.Proofs.YtgmjpdejfdldlaaDoor

/-! The walk of the law, as a plain function; what a line of a text with everything broken behind a group is. -/

structure WS where
  past : Bool
  taken : List Int
  list : List (Int × Int)
  bytes : Int

/-- How many bytes a part has, laid out flat. -/
def flB : Tr → Int
  | .leaf p => if p.k = 1 then p.t.length else if p.k = 2 then 1 else 0
  | .un _ x => flB x
  | .bin p x y => if p.k = 6 then flB x + flB y else flB y
def flS (T : Tr) (n : Nat) (S : WS) : WS := { S with taken := markF T n S.taken, bytes := S.bytes + flB T }
/-- A group is met. -/
def meetS (last : Int) (g : Nat) (S : WS) : WS := { S with list := S.list ++ [((g : Int), S.bytes)], past := S.past || decide ((g : Int) = last) }
def isFl (gs : List Int) (last : Int) (fl : Bool) (g : Nat) (S : WS) : Bool := if (g : Int) = last then fl else (!S.past && decide (gs[g]?.getD 0 = 1))
def putS (g : Nat) (S : WS) : WS := { S with taken := S.taken.set g 2 }
def byS (k : Int) (S : WS) : WS := { S with bytes := S.bytes + k }
def goT (gs : List Int) (last : Int) (fl : Bool) : Tr → Nat → Int → WS → WS
  | .leaf p, _, ind, S => if p.k = 1 then byS p.t.length S else if p.k = 5 then byS 1 S else if p.k = 2 ∨ p.k = 3 ∨ p.k = 4 then byS (1 + ind) S else S
  | .un p x, n, ind, S =>
    if p.k = 7 then goT gs last fl x n (ind + p.n) S
    else if isFl gs last fl (n + cntG x) S = true then flS (.un p x) n (meetS last (n + cntG x) S)
    else goT gs last fl x n ind (putS (n + cntG x) (meetS last (n + cntG x) S))
  | .bin p x y, n, ind, S => if p.k = 6 then goT gs last fl y (n + cntG x) ind (goT gs last fl x n ind S) else goT gs last fl x n ind S
def goI (gs : List Int) (last : Int) (fl : Bool) : List Item → WS → WS
  | [], S => S
  | it :: r, S => goI gs last fl r (goT gs last fl it.T it.n it.ind S)

section
variable {gs : List Int} {last : Int} {fl : Bool}
theorem goI_cat {p : Pc} {x y : Tr} {n : Nat} {ind : Int} {r : List Item} {S : WS} (h : p.k = 6) : goI gs last fl (⟨.bin p x y, n, ind⟩ :: r) S = goI gs last fl (⟨x, n, ind⟩ :: ⟨y, n + cntG x, ind⟩ :: r) S := by
  simp only [goI, goT, if_pos h]
theorem goI_alt {p : Pc} {x y : Tr} {n : Nat} {ind : Int} {r : List Item} {S : WS} (h : ¬ p.k = 6) : goI gs last fl (⟨.bin p x y, n, ind⟩ :: r) S = goI gs last fl (⟨x, n, ind⟩ :: r) S := by
  simp only [goI, goT, if_neg h]
theorem goI_nest {p : Pc} {x : Tr} {n : Nat} {ind : Int} {r : List Item} {S : WS} (h : p.k = 7) : goI gs last fl (⟨.un p x, n, ind⟩ :: r) S = goI gs last fl (⟨x, n, ind + p.n⟩ :: r) S := by
  simp only [goI, goT, if_pos h]
theorem goI_flat {p : Pc} {x : Tr} {n : Nat} {ind : Int} {r : List Item} {S : WS} (h : ¬ p.k = 7) (hf : isFl gs last fl (n + cntG x) S = true) :
    goI gs last fl (⟨.un p x, n, ind⟩ :: r) S = goI gs last fl r (flS (.un p x) n (meetS last (n + cntG x) S)) := by
  simp only [goI, goT, if_neg h, if_pos hf]
theorem goI_brk {p : Pc} {x : Tr} {n : Nat} {ind : Int} {r : List Item} {S : WS} (h : ¬ p.k = 7) (hf : isFl gs last fl (n + cntG x) S = false) :
    goI gs last fl (⟨.un p x, n, ind⟩ :: r) S = goI gs last fl (⟨x, n, ind⟩ :: r) (putS (n + cntG x) (meetS last (n + cntG x) S)) := by
  simp only [goI, goT, if_neg h, hf, Bool.false_eq_true, if_false]

theorem goT_off {g : Nat} : ∀ (T : Tr) (n : Nat) (ind : Int) (S : WS), KOk T → (g < n ∨ n + cntG T ≤ g) → (goT gs last fl T n ind S).taken[g]? = S.taken[g]?
  | .leaf p, n, ind, S, _, _ => by
    simp only [goT]
    by_cases h1 : p.k = 1
    · rw [if_pos h1]; rfl
    · rw [if_neg h1]
      by_cases h5 : p.k = 5
      · rw [if_pos h5]; rfl
      · rw [if_neg h5]
        split <;> rfl
  | .un p x, n, ind, S, hk, h => by
    simp only [goT]
    have h' := h
    simp only [cntG] at h
    rcases hk.1 with h7 | h8
    · rw [if_pos h7]
      exact goT_off x n _ S hk.2 (by split at h <;> omega)
    · rw [if_neg (by omega)]
      rw [if_pos h8] at h
      split
      · show (markF (.un p x) n S.taken)[g]? = _
        exact markF_off _ _ _ h'
      · rw [goT_off x n _ _ hk.2 (by omega)]
        show (S.taken.set (n + cntG x) 2)[g]? = _
        exact List.getElem?_set_ne (by omega)
  | .bin p x y, n, ind, S, hk, h => by
    simp only [cntG] at h
    simp only [goT]
    split
    · rw [goT_off y _ _ _ hk.2.2 (by omega), goT_off x _ _ _ hk.2.1 (by omega)]
    · exact goT_off x _ _ _ hk.2.1 (by omega)
theorem goI_off {g : Nat} : ∀ (its : List Item) (S : WS), (∀ s ∈ its, KOk s.T) → OffI g its → (goI gs last fl its S).taken[g]? = S.taken[g]?
  | [], S, _, _ => rfl
  | it :: r, S, hk, ho => by
    simp only [goI]
    rw [goI_off r _ (fun s hs => hk s (List.mem_cons_of_mem _ hs)) (offI_tail ho), goT_off _ _ _ _ (hk it (by simp)) (ho it (by simp))]
end

/-- Texts without line ends. -/
def NL : Tr → Prop
  | .leaf p => p.k = 1 → (10 : Int) ∉ p.t
  | .un _ x => NL x
  | .bin _ x y => NL x ∧ NL y
theorem nl_seg {doc : List Pc} {st : List Int} (h1 : ∀ p ∈ doc, pcOK p = true) : ∀ {T : Tr} {a b : Nat}, Seg doc st T a b → NL T
  | .leaf p, a, b, h => by
    obtain ⟨_, hp, _, _⟩ := h
    have hk := (pcOK_iff p).1 (h1 p (List.mem_of_getElem? hp))
    intro e
    have := (hk.2.1 e).1
    simpa using this
  | .un p x, a, b, h => by
    obtain ⟨m, _, hp, har, _, hx⟩ := h
    exact nl_seg (T := x) h1 hx
  | .bin p x y, a, b, h => by
    obtain ⟨c, m, _, hp, har, _, hx, hy⟩ := h
    exact ⟨nl_seg h1 hx, nl_seg h1 hy⟩
theorem flat_nl : ∀ (T : Tr) (text : List Int), NL T → flatT T [] = some text → (10 : Int) ∉ text ∧ (text.length : Int) = flB T
  | .leaf p, text, hn, h => by
    simp only [flatT] at h
    simp only [flB]
    by_cases h03 : p.k = 0 ∨ p.k = 3
    · rw [if_pos h03] at h
      cases h
      rw [if_neg (by omega), if_neg (by omega)]
      simp
    · rw [if_neg h03] at h
      by_cases h1 : p.k = 1
      · rw [if_pos h1] at h ⊢
        cases h
        simpa using hn h1
      · rw [if_neg h1] at h ⊢
        by_cases h2 : p.k = 2
        · rw [if_pos h2] at h ⊢
          cases h
          simp
        · rw [if_neg h2] at h
          cases h
  | .un p x, text, hn, h => by
    simp only [flatT] at h
    exact flat_nl x text hn h
  | .bin p x y, text, hn, h => by
    simp only [flatT] at h
    simp only [flB]
    by_cases h6 : p.k = 6
    · rw [if_pos h6] at h ⊢
      cases ex : flatT x [] with
      | none => rw [ex] at h; simp at h
      | some o =>
        rw [ex, Option.bind_some, flatT_acc y o] at h
        cases ey : flatT y [] with
        | none => rw [ey] at h; simp at h
        | some q =>
          rw [ey] at h
          simp at h
          subst h
          have hx := flat_nl x o hn.1 ex
          have hy := flat_nl y q hn.2 ey
          refine ⟨fun hm => ?_, ?_⟩
          · rcases List.mem_append.1 hm with hm | hm
            · exact hx.1 hm
            · exact hy.1 hm
          · rw [List.length_append, ← hx.2, ← hy.2]; omega
    · rw [if_neg h6] at h ⊢
      exact flat_nl y text hn.2 h

/-- An item of a valid document. -/
structure GI (doc : List Pc) (st : List Int) (s : Item) : Prop where
  k : KOk s.T
  nl : NL s.T
  ok : okN s.T
  lo : 0 ≤ s.ind
  hi : s.ind + nestT s.T ≤ 4000
  seg : ∃ a b, Seg doc st s.T a b ∧ grp doc a = s.n
def Its (doc : List Pc) (st : List Int) (L : Nat) : List Item → Prop
  | [] => True
  | it :: r => GI doc st it ∧ it.n + cntG it.T ≤ L ∧ (∀ s ∈ r, it.n + cntG it.T ≤ s.n) ∧ Its doc st L r
section
variable {doc : List Pc} {st : List Int} {L : Nat}
theorem Its.kok : ∀ {its : List Item}, Its doc st L its → ∀ s ∈ its, KOk s.T
  | [], _, s, hs => by cases hs
  | it :: r, h, s, hs => by
    rcases List.mem_cons.1 hs with rfl | hs
    · exact h.1.k
    · exact h.2.2.2.kok s hs
theorem Its.nest {p : Pc} {x : Tr} {n : Nat} {ind : Int} {r : List Item} (h : Its doc st L (⟨.un p x, n, ind⟩ :: r)) (h7 : p.k = 7) : Its doc st L (⟨x, n, ind + p.n⟩ :: r) := by
  obtain ⟨⟨a, b, c, d, e, ⟨f1, f2, f3, f4⟩⟩, g, i, j⟩ := h
  obtain ⟨m, q1, q2, q3, q4, q5⟩ := f3
  simp only [cntG, nestT, okN, KOk, NL] at a b c d e g i
  rw [if_neg (by omega)] at g i
  exact ⟨⟨a.2, b, c.2, by simp only; omega, by simp only; omega, ⟨f1, m, q5, f4⟩⟩, by simpa using g, by simpa using i, j⟩
theorem Its.brk {p : Pc} {x : Tr} {n : Nat} {ind : Int} {r : List Item} (h : Its doc st L (⟨.un p x, n, ind⟩ :: r)) (h8 : p.k = 8) : Its doc st L (⟨x, n, ind⟩ :: r) ∧ n + cntG x < L ∧ OffI (n + cntG x) (⟨x, n, ind⟩ :: r) := by
  obtain ⟨⟨a, b, c, d, e, ⟨f1, f2, f3, f4⟩⟩, g, i, j⟩ := h
  obtain ⟨m, q1, q2, q3, q4, q5⟩ := f3
  simp only [cntG, nestT, okN, KOk, NL] at a b c d e g i
  rw [if_pos h8] at g i
  refine ⟨⟨⟨a.2, b, c.2, d, by simp only; omega, ⟨f1, m, q5, f4⟩⟩, by simp only; omega, fun s hs => by have := i s hs; simp only; omega, j⟩, by omega, offI_cons (.inr (Nat.le_refl _)) fun s hs => .inl (by have := i s hs; omega)⟩
theorem Its.cat {p : Pc} {x y : Tr} {n : Nat} {ind : Int} {r : List Item} (h : Its doc st L (⟨.bin p x y, n, ind⟩ :: r)) : Its doc st L (⟨x, n, ind⟩ :: ⟨y, n + cntG x, ind⟩ :: r) := by
  obtain ⟨⟨a, b, c, d, e, ⟨f1, f2, f3, f4⟩⟩, g, i, j⟩ := h
  obtain ⟨cc, m, q1, q2, q3, q4, q5, q6⟩ := f3
  simp only [cntG, nestT, okN, KOk, NL] at a b c d e g i
  have hg := grp_seg q5
  simp only at f4
  refine ⟨⟨a.2.1, b.1, c.1, d, by simp only; omega, ⟨f1, cc, q5, f4⟩⟩, by simp only; omega, fun s hs => ?_, ⟨a.2.2, b.2, c.2, d, by simp only; omega, ⟨cc, m, q6, by simp only; omega⟩⟩, by simp only; omega, fun s hs => by have := i s hs; simp only; omega, j⟩
  rcases List.mem_cons.1 hs with rfl | hs
  · exact Nat.le_refl _
  · have := i s hs; simp only; omega
theorem Its.alt {p : Pc} {x y : Tr} {n : Nat} {ind : Int} {r : List Item} (h : Its doc st L (⟨.bin p x y, n, ind⟩ :: r)) : Its doc st L (⟨x, n, ind⟩ :: r) := by
  have h' := h.cat
  exact ⟨h'.1, h'.2.1, fun s hs => h'.2.2.1 s (List.mem_cons_of_mem _ hs), h'.2.2.2.2.2.2⟩
end

/-- A text whose first line has this width. -/
def FstLn (s : List Int) (w : Int) : Prop := ∃ a b, s = a ++ b ∧ (10 : Int) ∉ a ∧ (b = [] ∨ ∃ b', b = 10 :: b') ∧ Bys a ∧ 0 ≤ widthR a ∧ widthR a = w
theorem width_nil : widthR [] = 0 := by decide
theorem FstLn.nil : FstLn [] 0 := ⟨[], [], rfl, by simp, .inl rfl, fun z hz => by simp at hz, by rw [width_nil]; omega, width_nil⟩
theorem FstLn.line (s : List Int) : FstLn (10 :: s) 0 := ⟨[], 10 :: s, rfl, by simp, .inr ⟨s, rfl⟩, fun z hz => by simp at hz, by rw [width_nil]; omega, width_nil⟩
theorem bys_app {a b : List Int} (ha : Bys a) (hb : Bys b) : Bys (a ++ b) := fun z hz => by
  rcases List.mem_append.1 hz with hz | hz
  · exact ha z hz
  · exact hb z hz
theorem FstLn.text {t s : List Int} {w : Int} (h : FstLn s w) (ht : (10 : Int) ∉ t) (hb : Bys t) (hw : 0 ≤ widthR t) : FstLn (t ++ s) (widthR t + w) := by
  obtain ⟨a, b, rfl, h1, h2, h3, h4, rfl⟩ := h
  refine ⟨t ++ a, b, by simp, fun hm => ?_, h2, bys_app hb h3, ?_, width_add hb h3 hw h4⟩
  · rcases List.mem_append.1 hm with hm | hm
    · exact ht hm
    · exact h1 hm
  · rw [width_add hb h3 hw h4]; omega

def bnd (a : Int × Bool) (b : Int) : Int := if a.2 = true then a.1 else a.1 + b
theorem behind_cons (T : Tr) (r : List Tr) : behind (T :: r) = bnd (leadT T) (behind r) := rfl
theorem behind_cat {p : Pc} {x y : Tr} {r : List Tr} (h : p.k = 6) : behind (.bin p x y :: r) = behind (x :: y :: r) := by
  have e : leadT (.bin p x y) = if (leadT x).2 = true then leadT x else ((leadT x).1 + (leadT y).1, (leadT y).2) := by
    simp only [leadT]
    simp [h]
  rw [behind_cons, behind_cons, behind_cons, e]
  rcases leadT x with ⟨a, b⟩
  rcases leadT y with ⟨c, d⟩
  cases b <;> cases d <;> simp [bnd] <;> omega
theorem behind_alt {p : Pc} {x y : Tr} {r : List Tr} (h : p.k = 9) : behind (.bin p x y :: r) = behind (x :: r) := by
  have e : leadT (.bin p x y) = leadT x := by
    simp only [leadT]
    simp [h]
  rw [behind_cons, behind_cons, e]
theorem behind_un {p : Pc} {x : Tr} {r : List Tr} : behind (.un p x :: r) = behind (x :: r) := rfl
theorem lead_text {p : Pc} (h : p.k = 1) : leadT (.leaf p) = (widthR p.t, false) := by
  simp only [leadT]
  simp [h]
theorem lead_nil {p : Pc} (h : p.k = 0) : leadT (.leaf p) = (0, false) := by
  simp only [leadT]
  simp [h]
theorem lead_line {p : Pc} (h0 : ¬ p.k = 0) (h1 : ¬ p.k = 1) : leadT (.leaf p) = (0, true) := by
  simp only [leadT]
  simp [h0, h1]

/-- Everything broken behind a group: the text and its first line. -/
theorem broken_lay {doc : List Pc} {st : List Int} {gs : List Int} {last : Nat} {fl : Bool} : ∀ (f : Nat) (its : List Item) (out : List Int) (S : WS) (col : Int), szs (trs its) < f → Its doc st S.taken.length its → S.past = true → OffI last its →
    ∀ tk, tk = (goI gs last fl its S).taken → ∃ s, lay 0 (some tk) f its out S.taken col = some (out ++ s, tk) ∧ FstLn s (behind (its.map (·.T)))
  | 0, _, _, _, _, h, _, _, _, _, _ => by omega
  | f + 1, [], out, S, col, _, _, _, _, tk, htk => by
    subst htk
    exact ⟨[], by simp [lay, goI], FstLn.nil⟩
  | f + 1, ⟨.leaf p, n, ind⟩ :: r, out, S, col, hf, hI, hp, ho, tk, htk => by
    rw [trs_cons] at hf
    simp only [szs, sz] at hf
    obtain ⟨hg, _, _, hr⟩ := hI
    have hk := hg.k
    have hnl := hg.nl
    simp only [KOk, NL] at hk hnl
    simp only [goI, goT] at htk
    simp only [lay, List.map_cons, behind_cons]
    have hS : ∀ k, (byS k S).taken = S.taken := fun k => rfl
    by_cases h1 : p.k = 1
    · rw [if_pos h1] at htk ⊢
      obtain ⟨s, h, hl⟩ := broken_lay f r (out ++ p.t) (byS p.t.length S) (col + widthR p.t) (by omega) hr hp (offI_tail ho) tk htk
      rw [lead_text h1]
      refine ⟨p.t ++ s, by rw [← List.append_assoc]; exact h, ?_⟩
      show FstLn _ (widthR p.t + _)
      exact hl.text (hnl h1) (hk.2 h1).2 (hk.2 h1).1
    · rw [if_neg h1] at htk ⊢
      by_cases h5 : p.k = 5
      · rw [if_pos h5] at htk ⊢
        obtain ⟨s, h, hl⟩ := broken_lay f r (out ++ [10]) (byS 1 S) 0 (by omega) hr hp (offI_tail ho) tk htk
        rw [lead_line (by omega) h1]
        exact ⟨10 :: s, by rw [show out ++ 10 :: s = out ++ [10] ++ s by simp]; exact h, FstLn.line s⟩
      · rw [if_neg h5] at htk ⊢
        by_cases h234 : p.k = 2 ∨ p.k = 3 ∨ p.k = 4
        · rw [if_pos h234] at htk ⊢
          obtain ⟨s, h, hl⟩ := broken_lay f r (out ++ newLine ind) (byS (1 + ind) S) ind (by omega) hr hp (offI_tail ho) tk htk
          rw [lead_line (by omega) h1]
          exact ⟨newLine ind ++ s, by rw [← List.append_assoc]; exact h, FstLn.line _⟩
        · rw [if_neg h234] at htk ⊢
          obtain ⟨s, h, hl⟩ := broken_lay f r out S col (by omega) hr hp (offI_tail ho) tk htk
          rw [lead_nil (by omega)]
          exact ⟨s, h, by show FstLn s (0 + _); rw [Int.zero_add]; exact hl⟩
  | f + 1, ⟨.bin p x y, n, ind⟩ :: r, out, S, col, hf, hI, hp, ho, tk, htk => by
    rw [trs_cons] at hf
    simp only [szs, sz] at hf
    have hk := hI.1.k
    simp only [KOk] at hk
    have h0 := ho ⟨.bin p x y, n, ind⟩ (by simp)
    simp only [cntG] at h0
    simp only [lay, List.map_cons]
    rcases hk.1 with h6 | h9
    · rw [if_pos h6, behind_cat h6]
      rw [goI_cat h6] at htk
      exact broken_lay f (⟨x, n, ind⟩ :: ⟨y, n + cntG x, ind⟩ :: r) out S col (by simp only [trs_cons, szs]; omega) hI.cat hp (offI_cons (by simp only; omega) (offI_cons (by simp only; omega) (offI_tail ho))) tk htk
    · rw [if_neg (by omega), behind_alt h9]
      rw [goI_alt (by omega)] at htk
      exact broken_lay f (⟨x, n, ind⟩ :: r) out S col (by simp only [trs_cons, szs]; omega) hI.alt hp (offI_cons (by simp only; omega) (offI_tail ho)) tk htk
  | f + 1, ⟨.un p x, n, ind⟩ :: r, out, S, col, hf, hI, hp, ho, tk, htk => by
    rw [trs_cons] at hf
    simp only [szs, sz] at hf
    have hk := hI.1.k
    simp only [KOk] at hk
    have h0 := ho ⟨.un p x, n, ind⟩ (by simp)
    simp only [cntG] at h0
    simp only [lay, List.map_cons, behind_un]
    rcases hk.1 with h7 | h8
    · rw [if_pos h7]
      rw [goI_nest h7] at htk
      rw [if_neg (by omega)] at h0
      exact broken_lay f (⟨x, n, ind + p.n⟩ :: r) out S col (by simp only [trs_cons, szs]; omega) (hI.nest h7) hp (offI_cons (by simp only; omega) (offI_tail ho)) tk htk
    · rw [if_pos h8] at h0
      obtain ⟨b1, b2, b3⟩ := hI.brk h8
      have hfl : isFl gs last fl (n + cntG x) S = false := by
        unfold isFl
        rw [if_neg (by omega), hp]
        rfl
      rw [goI_brk (by omega) hfl] at htk
      have e : tk[n + cntG x]?.getD 0 = 2 := by
        rw [htk, goI_off _ _ b1.kok b3]
        show ((S.taken.set (n + cntG x) 2)[n + cntG x]?).getD 0 = 2
        rw [List.getElem?_set_self b2]
        rfl
      rw [if_neg (by omega), e, if_neg (by omega), if_pos rfl]
      exact broken_lay f (⟨x, n, ind⟩ :: r) out (putS (n + cntG x) (meetS last (n + cntG x) S)) col (by simp only [trs_cons, szs]; omega) (by show Its doc st (S.taken.set (n + cntG x) 2).length _; rw [List.length_set]; exact b1) (by show (S.past || _) = true; rw [hp]; rfl) (offI_cons (by simp only; omega) (offI_tail ho)) tk htk

end Go.Proofs.YtgmjpdejfdldlaaDoor

namespace Go.Proofs.YtgmjpdejfdldlaaDoor
open Go.RowKit

set_option maxHeartbeats 1000000 in
set_option maxRecDepth 100000 in
theorem groupsTo_any (v : Value) (doc : List Pc) (to : Nat) (w : World) (hv : RdP w.heap.size w v doc) (hn : doc.length ≤ 1048576) (hto : to ≤ doc.length) :
    Calls Tryd.prog 6 #[v, .int .i64 to] w fun e w' => e = .returned (.int .i64 (grp doc to : Int)) ∧ w = w' := by
  obtain ⟨a, cap, hv0, _⟩ := id hv
  subst hv0
  go_enter Tryd.func6, Tryd.ntmps6
  go_wp2
  go_loopw [5, 6] (fun gv i wr => ∃ k : Nat, k ≤ to ∧ i = .int .i64 k ∧ gv = .int .i64 (grp doc k : Int) ∧ w = wr)
    (fun _ i _ => to - (intOf i).toNat)
  case atStart => exact ⟨0, Nat.zero_le _, rfl, by rw [grp_zero]; rfl, rfl⟩
  case round =>
    obtain ⟨k, hk, rfl, rfl, hg⟩ := hrel
    subst hg
    have hle := grp_le doc k
    by_cases hlt : k < to
    · have hltd : k < doc.length := by omega
      obtain ⟨b, off, cap', tv, hva, hb, hp⟩ := hv.at k hltd
      cases hva
      have hk0 := hp.k
      have hsn := grp_succ doc k hltd
      have hin : (k : Int) < (to : Int) := by omega
      have hin2 : (k : Int) < (doc.length : Int) := by omega
      clear hv hp
      by_cases h8 : doc[k].k = 8
      · have q8 : (doc[k].k == 8) = true := by rw [h8]; rfl
        rw [if_pos h8] at hsn
        have HS := hide hsn
        clear hsn h8
        generalize doc[k].k = kk at *
        generalize grp doc k = gk at *
        go_wp2
        go_roundw
        case rel => exact ⟨k + 1, by omega, by go_num, by rw [HS.out]; go_num, trivial⟩
        case measure => simp [intOf]; omega
      · have q8 : (doc[k].k == 8) = false := by simpa using h8
        rw [if_neg h8] at hsn
        have HS := hide hsn
        clear hsn h8
        generalize doc[k].k = kk at *
        generalize grp doc k = gk at *
        go_wp2
        go_roundw
        case rel => exact ⟨k + 1, by omega, by go_num, by rw [HS.out]; go_num, trivial⟩
        case measure => simp [intOf]; omega
    · have hkn : k = to := by omega
      subst hkn
      clear hv
      go_wp2
      go_ret
      exact ⟨rfl, rfl⟩

/-- Where a document begins, by the kinds alone. -/
def begG (doc : List Pc) : Nat → Nat → Nat
  | 0, _ => 0
  | i + 1, 0 => i + 1
  | i + 1, n + 1 => begG doc i (if ar (doc[i]?.map (·.k) |>.getD 0) = 2 then n + 2 else if ar (doc[i]?.map (·.k) |>.getD 0) = 1 then n + 1 else n)
theorem begG_zero (doc : List Pc) : ∀ a, begG doc a 0 = a
  | 0 => rfl
  | _ + 1 => rfl
theorem begG_seg {doc : List Pc} {st : List Int} : ∀ {T : Tr} {a b : Nat} (n : Nat), Seg doc st T a b → begG doc b (n + 1) = begG doc a n
  | .leaf p, a, b, n, h => by
    obtain ⟨rfl, hp, har, _⟩ := h
    simp only [begG, hp, Option.map_some, Option.getD_some, har]
    simp
  | .un p x, a, b, n, h => by
    obtain ⟨m, rfl, hp, har, _, hx⟩ := h
    simp only [begG, hp, Option.map_some, Option.getD_some, har]
    simp only [Nat.reduceEqDiff, if_false, if_true]
    exact begG_seg n hx
  | .bin p x y, a, b, n, h => by
    obtain ⟨c, m, rfl, hp, har, _, hx, hy⟩ := h
    simp only [begG, hp, Option.map_some, Option.getD_some, har]
    simp only [if_true]
    rw [begG_seg (n + 1) hy, begG_seg n hx]

set_option maxHeartbeats 1000000 in
set_option maxRecDepth 100000 in
theorem begin_gen (v : Value) (doc : List Pc) (to : Nat) (w : World) (hv : RdP w.heap.size w v doc) (hn : doc.length ≤ 1048576) (hto : to ≤ doc.length) :
    Calls Tryd.prog 13 #[v, .int .i64 to] w fun e w' => e = .returned (.int .i64 (begG doc to 1 : Int)) ∧ w = w' := by
  obtain ⟨a, cap, hv0, _⟩ := id hv
  subst hv0
  go_enter Tryd.func13, Tryd.ntmps13
  go_wp2
  go_loopw [5, 6] (fun nd i wr => ∃ k n : Nat, k ≤ to ∧ n + k ≤ to + 1 + (to - k) + (to - k) ∧ i = .int .i64 k ∧ nd = .int .i64 n ∧ begG doc to 1 = begG doc k n ∧ w = wr)
    (fun _ i _ => (intOf i).toNat)
  case atStart => exact ⟨to, 1, Nat.le_refl _, by omega, rfl, rfl, rfl, rfl⟩
  case round =>
    obtain ⟨k, n, hk, hnk, rfl, rfl, he, hg⟩ := hrel
    subst hg
    rcases k with _ | k
    · have HE := hide (show begG doc to 1 = 0 by rw [he]; rfl)
      clear he hv
      go_wp2
      go_ret
      exact ⟨by rw [HE.out]; rfl, rfl⟩
    · rcases n with _ | n
      · have HE := hide (show begG doc to 1 = k + 1 by rw [he]; rfl)
        have h1 : (0 : Int) < ((k + 1 : Nat) : Int) := by omega
        clear he hv
        go_wp2
        go_ret
        exact ⟨by rw [HE.out]; rfl, rfl⟩
      · have hltd : k < doc.length := by omega
        obtain ⟨b, off, cap', tv, hva, hb, hp⟩ := hv.at k hltd
        cases hva
        have hk0 := hp.k
        have h1 : (0 : Int) < ((k + 1 : Nat) : Int) := by omega
        have h2 : (0 : Int) < ((n + 1 : Nat) : Int) := by omega
        have h3 : ((k + 1 : Nat) : Int) - 1 = (k : Int) := by omega
        have hin2 : (k : Int) < (doc.length : Int) := by omega
        have he2 : begG doc to 1 = begG doc k (if ar doc[k].k = 2 then n + 2 else if ar doc[k].k = 1 then n + 1 else n) := by
          rw [he, begG, List.getElem?_eq_getElem hltd]
          rfl
        clear hv hp he
        generalize doc[k].k = kk at *
        by_cases h6 : kk = 6
        · have q6 : (kk == 6) = true := by simpa using h6
          have HE := hide (show begG doc to 1 = begG doc k (n + 2) by rw [he2, if_pos (by rw [h6]; rfl)])
          clear he2 h6
          go_wp2
          go_roundw
          case rel => exact ⟨k, n + 2, by omega, by omega, by go_num, by go_num, HE.out, trivial⟩
          case measure => simp [intOf]
        · have q6 : (kk == 6) = false := by simpa using h6
          by_cases h9 : kk = 9
          · have q9 : (kk == 9) = true := by simpa using h9
            have HE := hide (show begG doc to 1 = begG doc k (n + 2) by rw [he2, if_pos (by rw [h9]; rfl)])
            clear he2 h6 h9
            go_wp2
            go_roundw
            case rel => exact ⟨k, n + 2, by omega, by omega, by go_num, by go_num, HE.out, trivial⟩
            case measure => simp [intOf]
          · have q9 : (kk == 9) = false := by simpa using h9
            have ha2 : ar kk ≠ 2 := by unfold ar; rw [if_neg (by omega)]; split <;> omega
            by_cases h7 : kk = 7
            · have q7 : (kk != 7) = false := by simpa using h7
              have HE := hide (show begG doc to 1 = begG doc k (n + 1) by rw [he2, if_neg ha2, if_pos (by rw [h7]; rfl)])
              clear he2 h6 h9 h7 ha2
              go_wp2
              go_roundw
              case rel => exact ⟨k, n + 1, by omega, by omega, by go_num, by go_num, HE.out, trivial⟩
              case measure => simp [intOf]
            · have q7 : (kk != 7) = true := by simpa using h7
              by_cases h8 : kk = 8
              · have q8 : (kk != 8) = false := by simpa using h8
                have HE := hide (show begG doc to 1 = begG doc k (n + 1) by rw [he2, if_neg ha2, if_pos (by rw [h8]; rfl)])
                clear he2 h6 h9 h7 h8 ha2
                go_wp2
                go_roundw
                case rel => exact ⟨k, n + 1, by omega, by omega, by go_num, by go_num, HE.out, trivial⟩
                case measure => simp [intOf]
              · have q8 : (kk != 8) = true := by simpa using h8
                have ha1 : ar kk ≠ 1 := by unfold ar; rw [if_neg (by omega), if_neg (by omega)]; omega
                have HE := hide (show begG doc to 1 = begG doc k n by rw [he2, if_neg ha2, if_neg ha1])
                clear he2 h6 h9 h7 h8 ha2 ha1
                go_wp2
                go_roundw
                case rel => exact ⟨k, n, by omega, by omega, by go_num, by go_num, HE.out, trivial⟩
                case measure => simp [intOf]

theorem begin_any (v : Value) (doc : List Pc) {st : List Int} {T : Tr} {a b : Nat} (w : World) (hv : RdP w.heap.size w v doc) (hn : doc.length ≤ 1048576) (hb : b ≤ doc.length) (hs : Seg doc st T a b) :
    Calls Tryd.prog 13 #[v, .int .i64 b] w fun e w' => e = .returned (.int .i64 (a : Int)) ∧ w = w' := by
  have h := begin_gen v doc b w hv hn hb
  rw [begG_seg 0 hs, begG_zero] at h
  exact h
end Go.Proofs.YtgmjpdejfdldlaaDoor

