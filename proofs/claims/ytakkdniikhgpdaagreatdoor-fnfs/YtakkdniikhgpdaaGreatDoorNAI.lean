import Derived.Deep.RegionWith
import Derived.Laws.BytesArg
import Derived.Laws.IdiomStrings
import Derived.Lib.AppendStr
import Derived.Test.YtakkdniikhgpdaaGreatDoorMAA
import Derived.Test.YtakkdniikhgpdaaGreatDoorMAB
import Derived.Test.YtakkdniikhgpdaaGreatDoorNAA
namespace Go.Proofs.YtakkdniikhgpdaaGreatDoor
open Go.RowKit

/-- The value of a hexadecimal digit, or -1. -/
def hexV (c : Int) : Int := if isDig c then c - 48 else if 97 ≤ c ∧ c ≤ 102 then c - 97 + 10 else if 65 ≤ c ∧ c ≤ 70 then c - 65 + 10 else -1
def isHex (c : Int) : Bool := decide (0 ≤ hexV c)
def isE (c : Int) : Bool := decide (c = 101 ∨ c = 69)
def isSign (c : Int) : Bool := decide (c = 43 ∨ c = 45)
def allDig (s : List Int) : Bool := s.all isDig
def headDig : List Int → Bool
  | [] => false
  | c :: _ => isDig c
def headHex : List Int → Bool
  | [] => false
  | c :: _ => isHex c
def strip : List Int → List Int
  | [] => []
  | c :: r => if isSign c then r else c :: r

/-- The model: a decimal without its exponent. -/
def mantS (s : List Int) : Bool :=
  let w := s.takeWhile (· != 46)
  let p := (s.dropWhile (· != 46)).tail
  if !allDig w || !allDig p then false
  else if w = [] then decide (w.length < s.length) && decide (p ≠ [])
  else decide (w = [48]) || decide (w[0]?.getD 0 ≠ 48)
def expS (s : List Int) : Bool := decide (strip s ≠ []) && allDig (strip s)
def infin : List Int := [73, 110, 102, 105, 110, 105, 116, 121]
def nan : List Int := [78, 97, 78]
def isX (c : Int) : Bool := decide (c = 120 ∨ c = 88)
def unsS (s : List Int) : Bool :=
  if s = infin ∨ s = nan then true
  else if 2 < s.length ∧ s[0]?.getD 0 = 48 ∧ isX (s[1]?.getD 0) = true then (s.drop 2).all isHex
  else if s.any isE then mantS (s.takeWhile (fun c => !isE c)) && expS (s.dropWhile (fun c => !isE c)).tail
  else mantS s
/-- What IsNumber answers, by the model. -/
def numS (s : List Int) : Bool := unsS (strip s)

/-- The program: what is read, and what is left. -/
def mantI (s : List Int) : Bool × List Int :=
  let a : Bool × List Int := match s with
    | [] => (false, [])
    | c :: r => if c = 48 then (true, r) else (isDig c, (c :: r).dropWhile isDig)
  match a.2 with
  | [] => (a.1, [])
  | c :: r => if c = 46 then (a.1 || headDig r, r.dropWhile isDig) else (a.1, c :: r)
def decOf (a : Bool × List Int) : Bool × List Int :=
  if !a.1 then (false, a.2)
  else match a.2 with
    | [] => (true, [])
    | c :: r => if isE c then (headDig (strip r), (strip r).dropWhile isDig) else (true, c :: r)
def decI (s : List Int) : Bool × List Int := decOf (mantI s)
def unsI (s : List Int) : Bool × List Int :=
  if infin <+: s then (true, s.drop 8)
  else if nan <+: s then (true, s.drop 3)
  else match s with
    | c :: x :: r => if c = 48 ∧ isX x = true then (headHex r, r.dropWhile isHex) else decI s
    | _ => decI s
/-- What IsNumber answers, by the program. -/
def numI (s : List Int) : Bool := (unsI (strip s)).1 && decide ((unsI (strip s)).2 = [])

theorem drop_nil_iff (p : Int → Bool) (s : List Int) : s.dropWhile p = [] ↔ s.all p = true := by
  induction s with
  | nil => simp
  | cons c s ih =>
    rw [List.dropWhile_cons]
    by_cases h : p c = true
    · simp [h, ih]
    · simp [h]
theorem head_all (s : List Int) (h : allDig s = true) (hne : s ≠ []) : headDig s = true := by
  cases s with
  | nil => exact absurd rfl hne
  | cons c r => simp [allDig] at h; exact h.1

theorem dig_dot {c : Int} (h : isDig c = true) : c ≠ 46 := by simp [isDig] at h; omega
theorem dig_e {c : Int} (h : isDig c = true) : isE c = false := by simp [isDig] at h; simp [isE]; omega
theorem drop_head {p : Int → Bool} {s : List Int} {c : Int} {r : List Int} (h : s.dropWhile p = c :: r) : p c = false ∧ c ∈ s := by
  induction s with
  | nil => simp at h
  | cons x s ih =>
    rw [List.dropWhile_cons] at h
    by_cases hx : p x = true
    · rw [if_pos hx] at h; exact ⟨(ih h).1, List.mem_cons_of_mem _ (ih h).2⟩
    · rw [if_neg hx] at h; cases h; exact ⟨by simpa using hx, List.mem_cons_self⟩

theorem span_no {p : Int → Bool} {s : List Int} (h : ∀ c ∈ s, p c = true) : s.takeWhile p = s ∧ s.dropWhile p = [] := by
  have : s.dropWhile p = [] := (drop_nil_iff p s).2 (by simpa using h)
  exact ⟨by have := List.takeWhile_append_dropWhile (p := p) (l := s); simp_all, this⟩
theorem span_at {p : Int → Bool} {a b : List Int} {c : Int} (h : ∀ x ∈ a, p x = true) (hc : p c = false) : (a ++ c :: b).takeWhile p = a ∧ (a ++ c :: b).dropWhile p = c :: b := by
  induction a with
  | nil => simp [hc]
  | cons x a ih =>
    have hx := h x List.mem_cons_self
    have := ih (fun y hy => h y (List.mem_cons_of_mem _ hy))
    simp [hx, this.1, this.2]

/-- Every list is cut at its first element that is not p, or has none. -/
theorem cut_first (p : Int → Bool) (s : List Int) : (∀ c ∈ s, p c = true) ∨ ∃ a c b, s = a ++ c :: b ∧ (∀ x ∈ a, p x = true) ∧ p c = false := by
  induction s with
  | nil => left; simp
  | cons x s ih =>
    by_cases hx : p x = true
    · rcases ih with h | ⟨a, c, b, rfl, h1, h2⟩
      · left
        intro c hc
        rcases List.mem_cons.1 hc with rfl | hc
        · exact hx
        · exact h c hc
      · right
        refine ⟨x :: a, c, b, rfl, fun y hy => ?_, h2⟩
        rcases List.mem_cons.1 hy with rfl | hy
        · exact hx
        · exact h1 y hy
    · right; exact ⟨[], x, s, rfl, by simp, by simpa using hx⟩

theorem mant_eq (s : List Int) : mantS s = ((mantI s).1 && decide ((mantI s).2 = [])) := by
  rcases cut_first (fun c => c != 46) s with h | ⟨w, c, p, rfl, hw, hc⟩
  · have hs := span_no h
    simp only [mantS, hs.1, hs.2, List.tail_nil]
    cases s with
    | nil => simp [mantI, allDig]
    | cons c r =>
      by_cases h48 : c = 48
      · subst h48
        cases r with
        | nil => simp [mantI, allDig, isDig]
        | cons x r =>
          have hx : x ≠ 46 := by have := h x (by simp); simpa using this
          simp [mantI, hx]
      · have hD : ∀ x, (c :: r).dropWhile isDig = x → (match x with | [] => (isDig c, ([] : List Int)) | y :: t => if y = 46 then (isDig c || headDig t, t.dropWhile isDig) else (isDig c, y :: t)) = (isDig c, x) := by
          intro x hx
          cases x with
          | nil => rfl
          | cons y t =>
            have := h y (drop_head hx).2
            have hy : y ≠ 46 := by simpa using this
            simp [hy]
        have hm : mantI (c :: r) = (isDig c, (c :: r).dropWhile isDig) := by
          simp only [mantI, if_neg h48]
          exact hD _ rfl
        rw [hm]
        by_cases ha : allDig (c :: r) = true
        · have : (c :: r).dropWhile isDig = [] := (drop_nil_iff _ _).2 ha
          have hc2 : isDig c = true := head_all _ ha (by simp)
          rw [ha, this, hc2]
          simp [h48, allDig]
        · have : (c :: r).dropWhile isDig ≠ [] := fun e => ha ((drop_nil_iff _ _).1 e)
          simp only [ha, this]
          simp
  · have hc' : c = 46 := by simpa using hc
    subst hc'
    have hs := span_at (b := p) hw hc
    simp only [mantS, hs.1, hs.2, List.tail_cons]
    cases w with
    | nil =>
      have hm : mantI ([] ++ 46 :: p) = (headDig p, p.dropWhile isDig) := by simp [mantI, show isDig 46 = false by decide]
      rw [hm, show allDig [] = true from rfl]
      by_cases ha : allDig p = true
      · rw [(drop_nil_iff _ _).2 ha, ha]
        by_cases hp : p = []
        · simp [hp, headDig]
        · simp [hp, head_all _ ha hp]
      · have : p.dropWhile isDig ≠ [] := fun e => ha ((drop_nil_iff _ _).1 e)
        simp [ha, this]
    | cons c r =>
      by_cases h48 : c = 48
      · subst h48
        cases r with
        | nil =>
          have hm : mantI ([48] ++ 46 :: p) = (true, p.dropWhile isDig) := by simp [mantI]
          rw [hm, show allDig [48] = true from by decide]
          by_cases ha : allDig p = true
          · rw [(drop_nil_iff _ _).2 ha, ha]; simp
          · have : p.dropWhile isDig ≠ [] := fun e => ha ((drop_nil_iff _ _).1 e)
            simp [ha, this]
        | cons x r =>
          have hx : x ≠ 46 := by have := hw x (by simp); simpa using this
          simp [mantI, hx]
      · by_cases ha : allDig (c :: r) = true
        · have hd := (span_at (p := isDig) (a := c :: r) (c := 46) (b := p) (by simpa [allDig] using ha) (by decide)).2
          have hc2 : isDig c = true := head_all _ ha (by simp)
          have hm : mantI ((c :: r) ++ 46 :: p) = (true, p.dropWhile isDig) := by
            simp only [mantI, List.cons_append, if_neg h48]
            rw [show c :: (r ++ 46 :: p) = (c :: r) ++ 46 :: p from rfl, hd]
            simp [hc2]
          rw [hm]
          by_cases hp : allDig p = true
          · have := (drop_nil_iff _ _).2 hp
            simp [ha, hp, this, h48]
          · have : p.dropWhile isDig ≠ [] := fun e => hp ((drop_nil_iff _ _).1 e)
            simp [ha, hp, this]
        · rcases cut_first isDig (c :: r) with h | ⟨a, y, b, he, h1, h2⟩
          · exact absurd (by simpa [allDig] using h) ha
          · have hd := (span_at (p := isDig) (a := a) (c := y) (b := b ++ 46 :: p) h1 h2).2
            have hy : y ≠ 46 := by have := hw y (by rw [he]; simp); simpa using this
            have hm : mantI ((c :: r) ++ 46 :: p) = (isDig c, y :: (b ++ 46 :: p)) := by
              simp only [mantI, List.cons_append, if_neg h48]
              rw [show c :: (r ++ 46 :: p) = (c :: r) ++ 46 :: p from rfl, he, List.append_assoc, List.cons_append, hd]
              simp [hy]
            rw [hm]
            simp [ha]

theorem mant_bad (c : Int) (r : List Int) (h1 : isDig c = false) (h2 : c ≠ 46) : mantS (c :: r) = false := by
  have h48 : c ≠ 48 := fun e => by rw [e] at h1; exact absurd h1 (by decide)
  have hm : mantI (c :: r) = (false, c :: r) := by simp [mantI, h48, h1, h2]
  rw [mant_eq, hm]; rfl

theorem dw_app {e : Int} (he : isDig e = false) (s x : List Int) : (s ++ e :: x).dropWhile isDig = s.dropWhile isDig ++ e :: x := by
  induction s with
  | nil => simp [he]
  | cons c s ih =>
    by_cases h : isDig c = true
    · simp [h, ih]
    · simp [h]
theorem hd_app {e : Int} (he : isDig e = false) (s x : List Int) : headDig (s ++ e :: x) = headDig s := by
  cases s with
  | nil => simp [headDig, he]
  | cons c s => rfl
theorem mant_app {e : Int} (he : isE e = true) (m x : List Int) : mantI (m ++ e :: x) = ((mantI m).1, (mantI m).2 ++ e :: x) := by
  have he' : e = 101 ∨ e = 69 := by simpa [isE] using he
  have hd : isDig e = false := by rcases he' with rfl | rfl <;> decide
  have h46 : e ≠ 46 := by omega
  have h48 : e ≠ 48 := by omega
  cases m with
  | nil => simp [mantI, h48, hd, h46]
  | cons c r =>
    by_cases hc : c = 48
    · subst hc
      cases r with
      | nil => simp [mantI, h46]
      | cons y t =>
        by_cases hy : y = 46
        · simp [mantI, hy, dw_app hd]
        · simp [mantI, hy]
    · have h1 := dw_app hd (c :: r) x
      simp only [mantI, List.cons_append, if_neg hc]
      rw [show c :: (r ++ e :: x) = (c :: r) ++ e :: x from rfl, h1]
      cases (c :: r).dropWhile isDig with
      | nil => simp [h46]
      | cons y t =>
        by_cases hy : y = 46
        · simp [hy, dw_app hd, hd_app hd]
        · simp [hy]
theorem mant_mem (s : List Int) : ∀ y ∈ (mantI s).2, y ∈ s := by
  have hdw : ∀ (t : List Int), ∀ y ∈ t.dropWhile isDig, y ∈ t := fun t y hy => (List.dropWhile_sublist isDig).subset hy
  cases s with
  | nil => simp [mantI]
  | cons c r =>
    by_cases hc : c = 48
    · subst hc
      cases r with
      | nil => simp [mantI]
      | cons y t =>
        intro z hz
        by_cases hy : y = 46
        · simp only [mantI, hy, if_true] at hz
          have := hdw t z hz
          simp [this]
        · simp only [mantI, if_neg hy, if_true] at hz
          exact List.mem_cons_of_mem _ hz
    · intro z hz
      simp only [mantI, if_neg hc] at hz
      cases h : (c :: r).dropWhile isDig with
      | nil => rw [h] at hz; simp at hz
      | cons y t =>
        rw [h] at hz
        have hsub : ∀ y' ∈ y :: t, y' ∈ c :: r := fun y' hy' => hdw _ _ (by rw [h]; exact hy')
        by_cases hy : y = 46
        · simp only [hy, if_true] at hz
          exact hsub z (List.mem_cons_of_mem _ (hdw t z hz))
        · simp only [if_neg hy] at hz
          exact hsub z hz

theorem exp_eq (x : List Int) : expS x = (headDig (strip x) && decide ((strip x).dropWhile isDig = [])) := by
  unfold expS
  by_cases h : allDig (strip x) = true
  · rw [(drop_nil_iff _ _).2 h, h]
    by_cases hn : strip x = []
    · simp [hn, headDig]
    · simp [hn, head_all _ h hn]
  · have : (strip x).dropWhile isDig ≠ [] := fun e => h ((drop_nil_iff _ _).1 e)
    simp [h, this]

theorem dec_of : ∀ a : Bool × List Int, (∀ y ∈ a.2, isE y = false) → (a.1 && decide (a.2 = [])) = ((decOf a).1 && decide ((decOf a).2 = []))
  | (false, r), _ => by simp [decOf]
  | (true, []), _ => by simp [decOf]
  | (true, c :: r), h => by simp [decOf, h c (by simp)]
theorem dec_of2 {e : Int} (he : isE e = true) : ∀ (a : Bool × List Int), (∀ y ∈ a.2, isE y = false) → ∀ x : List Int, (a.1 && decide (a.2 = []) && (headDig (strip x) && decide ((strip x).dropWhile isDig = []))) = ((decOf (a.1, a.2 ++ e :: x)).1 && decide ((decOf (a.1, a.2 ++ e :: x)).2 = []))
  | (false, r), _, x => by simp [decOf]
  | (true, []), _, x => by simp [decOf, he]
  | (true, c :: r), h, x => by simp [decOf, h c (by simp)]
theorem dec_eq (s : List Int) : (if s.any isE then mantS (s.takeWhile (fun c => !isE c)) && expS (s.dropWhile (fun c => !isE c)).tail else mantS s) = ((decI s).1 && decide ((decI s).2 = [])) := by
  rcases cut_first (fun c => !isE c) s with h | ⟨m, e, x, rfl, hm, he⟩
  · have hany : s.any isE = false := by simpa using h
    rw [hany, if_neg (by simp), mant_eq]
    exact dec_of _ (fun y hy => by simpa using h y (mant_mem s y hy))
  · have he' : isE e = true := by simpa using he
    have hany : (m ++ e :: x).any isE = true := by simp [he']
    have hs := span_at (p := fun c => !isE c) (a := m) (c := e) (b := x) hm he
    rw [hany, if_pos rfl, hs.1, hs.2, List.tail_cons, mant_eq, exp_eq]
    rw [decI, mant_app he']
    exact dec_of2 he' _ (fun y hy => by simpa using hm y (mant_mem m y hy)) x

theorem uns_bad (c : Int) (r : List Int) (h1 : isDig c = false) (h2 : c ≠ 46) (h3 : isE c = false) (h4 : c :: r ≠ infin) (h5 : c :: r ≠ nan) : unsS (c :: r) = false := by
  have h48 : c ≠ 48 := fun e => by rw [e] at h1; exact absurd h1 (by decide)
  unfold unsS
  rw [if_neg (by simp [h4, h5]), if_neg (by simp [h48])]
  have ht : (c :: r).takeWhile (fun c => !isE c) = c :: r.takeWhile (fun c => !isE c) := by simp [h3]
  rw [ht, mant_bad c _ h1 h2, mant_bad c _ h1 h2]
  simp

theorem uns_eq (s : List Int) : unsS s = ((unsI s).1 && decide ((unsI s).2 = [])) := by
  by_cases hi : infin <+: s
  · obtain ⟨t, rfl⟩ := hi
    have hI : unsI (infin ++ t) = (true, t) := by
      unfold unsI
      rw [if_pos (List.prefix_append _ _)]
      rfl
    rw [hI]
    by_cases ht : t = []
    · subst ht; simp [unsS]
    · rw [show infin ++ t = 73 :: ([110, 102, 105, 110, 105, 116, 121] ++ t) from rfl, uns_bad 73 _ (by decide) (by decide) (by decide) (by simp [infin, ht]) (by simp [nan])]
      simp [ht]
  · by_cases hn : nan <+: s
    · obtain ⟨t, rfl⟩ := hn
      have hI : unsI (nan ++ t) = (true, t) := by
        unfold unsI
        rw [if_neg hi, if_pos (List.prefix_append _ _)]
        rfl
      rw [hI]
      by_cases ht : t = []
      · subst ht; simp [unsS]
      · rw [show nan ++ t = 78 :: ([97, 78] ++ t) from rfl, uns_bad 78 _ (by decide) (by decide) (by decide) (by simp [infin]) (by simp [nan, ht])]
        simp [ht]
    · have e1 : ¬ (s = infin ∨ s = nan) := by
        rintro (rfl | rfl)
        · exact hi (List.prefix_refl _)
        · exact hn (List.prefix_refl _)
      by_cases hx : ∃ x r, s = 48 :: x :: r ∧ isX x = true
      · obtain ⟨x, r, rfl, hx⟩ := hx
        have hI : unsI (48 :: x :: r) = (headHex r, r.dropWhile isHex) := by
          unfold unsI
          rw [if_neg hi, if_neg hn]
          simp [hx]
        rw [hI]
        unfold unsS
        rw [if_neg e1]
        have hx' : x = 120 ∨ x = 88 := by simpa [isX] using hx
        cases r with
        | nil =>
          rw [if_neg (by simp), mant_eq]
          clear hi hn e1 hI hx
          rcases hx' with rfl | rfl <;> decide
        | cons h r =>
          rw [if_pos (by simp [hx])]
          by_cases ha : (h :: r).all isHex = true
          · rw [(drop_nil_iff _ _).2 ha]
            simp only [List.drop_succ_cons, List.drop_zero, ha]
            simp at ha
            simp [headHex, ha.1]
          · have : (h :: r).dropWhile isHex ≠ [] := fun e => ha ((drop_nil_iff _ _).1 e)
            simp only [List.drop_succ_cons, List.drop_zero, ha, this]
            simp
      · have hI : unsI s = decI s := by
          unfold unsI
          rw [if_neg hi, if_neg hn]
          match s, hx with
          | [], _ => rfl
          | [c], _ => rfl
          | c :: x :: r, hx =>
            simp only
            rw [if_neg (fun h => hx ⟨x, r, by rw [h.1], h.2⟩)]
        rw [hI, ← dec_eq]
        unfold unsS
        rw [if_neg e1, if_neg]
        rintro ⟨h1, h2, h3⟩
        match s, hx, h1, h2, h3 with
        | c :: x :: r, hx, h1, h2, h3 => exact hx ⟨x, r, by simp at h2; rw [h2], by simpa using h3⟩
theorem num_eq (s : List Int) : numS s = numI s := uns_eq _

end Go.Proofs.YtakkdniikhgpdaaGreatDoor

namespace Go.Proofs.YtakkdniikhgpdaaGreatDoor
open Go.RowKit

/-- The point at place n, or -1; how many bytes it takes. -/
def nxP (zs : List Int) (n : Nat) : Int := if n < zs.length then fpP (zs.drop n) else -1
def nxS (zs : List Int) (n : Nat) : Nat := if n < zs.length then fsize (zs.drop n) else 0
theorem nxP_end {zs : List Int} {n : Nat} (h : ¬ n < zs.length) : nxP zs n = -1 := by simp [nxP, h]
theorem nxS_end {zs : List Int} {n : Nat} (h : ¬ n < zs.length) : nxS zs n = 0 := by simp [nxS, h]
theorem nxP_in {zs : List Int} {n : Nat} (h : n < zs.length) : nxP zs n = fpP (zs.drop n) := by simp [nxP, h]
theorem nxS_in {zs : List Int} {n : Nat} (h : n < zs.length) : nxS zs n = fsize (zs.drop n) := by simp [nxS, h]

theorem nxS_le (zs : List Int) (n : Nat) (h : n ≤ zs.length) : n + nxS zs n ≤ zs.length := by
  unfold nxS
  split
  · have := fsize_le (zs.drop n)
    rw [List.length_drop] at this
    omega
  · omega
theorem nxS_pos {zs : List Int} {n : Nat} (h : nxP zs n ≠ -1) : 0 < nxS zs n ∧ n < zs.length := by
  by_cases hn : n < zs.length
  · refine ⟨?_, hn⟩
    rw [nxP_in hn] at h
    rw [nxS_in hn]
    rcases Nat.eq_zero_or_pos (fsize (zs.drop n)) with e | e
    · exact absurd (fp_none e) h
    · exact e
  · exact absurd (nxP_end hn) h

/-- Where the points that belong end. -/
def skN (P : Int → Bool) (zs : List Int) : Nat → Nat → Nat
  | 0, n => n
  | f + 1, n => if nxP zs n ≠ -1 ∧ P (nxP zs n) = true then skN P zs f (n + nxS zs n) else n
theorem skN_go {P : Int → Bool} {zs : List Int} {f n : Nat} (h1 : nxP zs n ≠ -1) (h2 : P (nxP zs n) = true) : skN P zs (f + 1) n = skN P zs f (n + nxS zs n) := by
  rw [skN, if_pos ⟨h1, h2⟩]
theorem skN_stop {P : Int → Bool} {zs : List Int} {f n : Nat} (h : nxP zs n = -1 ∨ P (nxP zs n) = false) : skN P zs f n = n := by
  cases f with
  | zero => rfl
  | succ f =>
    rw [skN, if_neg]
    rintro ⟨h1, h2⟩
    rcases h with h | h
    · exact h1 h
    · rw [h] at h2; cases h2

/-- An ASCII byte is a point of its own; another one is none, or begins a greater one. -/
theorem nx_ascii {zs : List Int} (hby : Bys zs) {n : Nat} (hn : n < zs.length) (h : zs[n]?.getD 0 < 128) : nxP zs n = zs[n]?.getD 0 ∧ nxS zs n = 1 := by
  have hcb := hby.get n
  have hd : (zs.drop n)[0]?.getD 0 = zs[n]?.getD 0 := by simp [List.getElem?_drop]
  have hlen : 1 ≤ (zs.drop n).length := by rw [List.length_drop]; omega
  generalize hs : zs.drop n = s at hd hlen
  rw [nxP_in hn, nxS_in hn, hs, ← hd]
  rw [← hd] at h hcb
  have hlv : lv s 1 = s[0]?.getD 0 := by
    rw [lv_fold (by omega) (by rw [lead_one _ h]; omega), lead_one _ h]; rfl
  have hok : okPt (s[0]?.getD 0) = true := by simp [okPt]; omega
  have hneed : need (s[0]?.getD 0) = 1 := by unfold need; rw [if_pos hok, if_pos h]
  have hhit : hit s 1 = true := (hit_val hlv hcb.1).2 hneed
  have hz : fsize s = 1 := by unfold fsize; rw [if_pos hhit]
  exact ⟨fp_some (by omega) hz hlv, hz⟩
theorem hit_fsize {s : List Int} (h : fsize s ≠ 0) : hit s (fsize s) = true := by
  unfold fsize at h ⊢
  split
  · assumption
  · split
    · assumption
    · split
      · assumption
      · split
        · assumption
        · simp_all
theorem nx_high {zs : List Int} {n : Nat} (hn : n < zs.length) (h : ¬ zs[n]?.getD 0 < 128) : nxP zs n = -1 ∨ 128 ≤ nxP zs n := by
  have hd : (zs.drop n)[0]?.getD 0 = zs[n]?.getD 0 := by simp [List.getElem?_drop]
  rw [nxP_in hn]
  rw [← hd] at h
  generalize zs.drop n = s at h
  by_cases hf : fsize s = 0
  · exact .inl (fp_none hf)
  · right
    have h1 : hit s 1 = false := hit_lead (by simp [lead, h])
    have hh := hit_fsize hf
    have hp : fpP s = lv s (fsize s) := by simp [fpP, hf]
    rw [hp]
    have h2 : fsize s ≠ 1 := fun e => by rw [e, h1] at hh; cases hh
    simp only [hit, Bool.and_eq_true, decide_eq_true_eq, beq_iff_eq] at hh
    apply Classical.byContradiction
    intro hlt
    have hok : okPt (lv s (fsize s)) = true := by simp [okPt]; omega
    have := hh.2
    rw [need, if_pos hok, if_pos (by omega)] at this
    omega

/-- A predicate of ASCII points. -/
def Asc (P : Int → Bool) : Prop := ∀ p, P p = true → 0 ≤ p ∧ p < 128
theorem sk_ascii {P : Int → Bool} (hP : Asc P) {zs : List Int} (hby : Bys zs) : ∀ (f n : Nat), n ≤ zs.length → zs.length - n < f →
    zs.drop (skN P zs f n) = (zs.drop n).dropWhile P ∧ n ≤ skN P zs f n ∧ skN P zs f n ≤ zs.length ∧ (n < skN P zs f n ↔ (n < zs.length ∧ P (zs[n]?.getD 0) = true)) := by
  intro f
  induction f with
  | zero => intro n h1 h2; omega
  | succ f ih =>
    intro n h1 h2
    by_cases hn : n < zs.length
    · have hc := List.drop_eq_getElem_cons hn
      have hg : zs[n]?.getD 0 = zs[n] := by simp [hn]
      by_cases hp : P (zs[n]?.getD 0) = true
      · have ha := nx_ascii hby hn (hP _ hp).2
        have hne : nxP zs n ≠ -1 := by rw [ha.1]; have := (hP _ hp).1; omega
        have := ih (n + 1) (by omega) (by omega)
        rw [skN_go hne (by rw [ha.1]; exact hp), ha.2]
        refine ⟨?_, by omega, this.2.2.1, fun _ => ⟨hn, hp⟩, fun _ => by omega⟩
        rw [this.1, hc, List.dropWhile_cons, if_pos (by rw [← hg]; exact hp)]
      · have hst : nxP zs n = -1 ∨ P (nxP zs n) = false := by
          by_cases h128 : zs[n]?.getD 0 < 128
          · right; rw [(nx_ascii hby hn h128).1]; simpa using hp
          · rcases nx_high hn h128 with e | e
            · exact .inl e
            · right
              cases hq : P (nxP zs n)
              · rfl
              · have := (hP _ hq).2; omega
        rw [skN_stop hst]
        refine ⟨?_, Nat.le_refl _, h1, by simp [hp]⟩
        rw [hc, List.dropWhile_cons, if_neg (by rw [← hg]; simpa using hp)]
    · rw [skN_stop (.inl (nxP_end hn))]
      refine ⟨?_, Nat.le_refl _, h1, by omega⟩
      rw [List.drop_of_length_le (by omega)]
      rfl

end Go.Proofs.YtakkdniikhgpdaaGreatDoor

namespace Go.Proofs.YtakkdniikhgpdaaGreatDoor
open Go.RowKit

/-- The scanner at block sb: its text, its place. -/
structure Sc (sb : Nat) (w : World) (tv : Value) (n : Nat) : Prop where
  c0 : w.cell? ⟨sb, 0, none⟩ = some tv
  c1 : w.cell? ⟨sb, 1, none⟩ = some (.int .i64 n)
  fz : ∀ j, w.frozen? ⟨sb, j, none⟩ = false
theorem Sc.lt {sb : Nat} {w : World} {tv : Value} {n : Nat} (h : Sc sb w tv n) : sb < w.heap.size := World.block_lt_of_cell? w _ h.c0
theorem Sc.keep {sb : Nat} {w w' : World} {tv : Value} {n : Nat} (h : Sc sb w tv n) (hg : w.grownBy w' none) : Sc sb w' tv n :=
  ⟨hg.cell h.c0 (by simp), hg.cell h.c1 (by simp), fun j => (World.frozen?_of_block (hg.block sb h.lt (by simp))).trans (h.fz j)⟩
theorem Sc.put {sb : Nat} {w : World} {tv : Value} {n : Nat} (h : Sc sb w tv n) (m : Int) (k : Nat) (hk : m = k) : Sc sb (w.setCell ⟨sb, 1, none⟩ (.int .i64 m)) tv k := by
  subst hk
  have h0 := h.c0
  have h1 := h.c1
  have hf := h.fz
  exact ⟨by simp [go_sem, h0], by simp [go_sem, h1], fun j => by simpa using hf j⟩

/-- The text, in blocks below B. -/
structure Tx (B : Nat) (w : World) (tv : Value) (zs : List Int) : Prop where
  rd : RdB B w tv zs
  sl : Sl tv zs.length
  by_ : Bys zs
  len : zs.length ≤ 1048576
theorem Tx.keep {B : Nat} {w w' : World} {tv : Value} {zs : List Int} (h : Tx B w tv zs) (hg : w.grownBy w' none) : Tx B w' tv zs := ⟨h.rd.keep hg, h.sl, h.by_, h.len⟩
theorem Tx.beside {B sb : Nat} {w w' : World} {tv : Value} {zs : List Int} (h : Tx B w tv zs) (hB : B ≤ sb) (hg : w.grownBy w' (some sb)) : Tx B w' tv zs :=
  ⟨h.rd.beside hg (fun k e => by cases e; exact hB), h.sl, h.by_, h.len⟩
theorem grown_set1 (w : World) (sb j : Nat) (x : Value) : w.grownBy (w.setCell ⟨sb, j, none⟩ x) (some sb) := by
  refine ⟨rfl, rfl, rfl, by simp, fun i hi hn => ?_⟩
  exact Below.heap_setCell _ _ _ _ (fun e => hn (by rw [e]))

theorem grown_drew1 {a b : World} {r : Option Nat} (h : a.grownBy b r) : a.grownBy b.drew r := ⟨h.os, h.tape, h.output, h.size, h.block⟩
theorem grown_row {a b : World} {r : Option Nat} (h : a.grownBy b none) : a.grownBy b r := ⟨h.os, h.tape, h.output, h.size, fun i hi _ => h.block i hi (by simp)⟩

end Go.Proofs.YtakkdniikhgpdaaGreatDoor

namespace Go.Proofs.YtakkdniikhgpdaaGreatDoor
open Go.RowKit

theorem strOfNums_list (xs : List Int) : (strOfNums xs).toList = xs.map fun n => UInt8.ofNat n.toNat := by
  rw [ByteArray.toList_eq]; rfl
theorem u8_inj {x y : Int} (hx : 0 ≤ x ∧ x ≤ 255) (hy : 0 ≤ y ∧ y ≤ 255) (h : UInt8.ofNat x.toNat = UInt8.ofNat y.toNat) : x = y := by
  have := congrArg UInt8.toNat h
  simp only [UInt8.toNat_ofNat'] at this
  omega
theorem map_inj : ∀ {xs ys : List Int}, Bys xs → Bys ys → (xs.map (fun n => UInt8.ofNat n.toNat)) = (ys.map (fun n => UInt8.ofNat n.toNat)) → xs = ys
  | [], [], _, _, _ => rfl
  | [], _ :: _, _, _, h => by simp at h
  | _ :: _, [], _, _, h => by simp at h
  | x :: xs, y :: ys, hx, hy, h => by
    simp only [List.map_cons, List.cons.injEq] at h
    rw [u8_inj (hx x (by simp)) (hy y (by simp)) h.1, map_inj (fun z hz => hx z (by simp [hz])) (fun z hz => hy z (by simp [hz])) h.2]
theorem eqBytes {xs ys : List Int} (hx : Bys xs) (hy : Bys ys) : ((strOfNums xs).toList == (strOfNums ys).toList) = decide (xs = ys) := by
  rw [strOfNums_list, strOfNums_list]
  by_cases h : xs = ys
  · subst h; simp
  · have : ¬ (xs.map (fun n => UInt8.ofNat n.toNat)) = (ys.map (fun n => UInt8.ofNat n.toNat)) := fun e => h (map_inj hx hy e)
    simp [h, this]

theorem conv_rd {B : Nat} {w : World} {v : Value} {xs : List Int} (h : Rd .u8 B w v xs) : (convert 22 9 v).run Tryz.prog w = .ok (.string (strOfNums xs)) w := by
  obtain ⟨a, cap, rfl, hr⟩ := h
  by_cases hx : xs = []
  · subst hx
    cases a with
    | none => exact run_convert_bytes_nil w 22 5 Tryz.underlying22 Tryz.underlying5 _ _ 9 Tryz.underlying9
    | some x =>
      rw [run_convert_bytes_string w 22 9 5 _ _ cap Tryz.underlying22 Tryz.underlying5 Tryz.underlying9]
      have := run_bytesToString (P := Tryz.prog) w x 0 cap [] (run_loadCells_list (P := Tryz.prog) w x [] (fun j v hj => by simp at hj))
      rw [show ([] : List Int).length = 0 from rfl, this]
      rfl
  · obtain ⟨b, off, rfl, hb, hc⟩ := hr hx
    exact run_convert_bytes_arg w 22 5 Tryz.underlying22 Tryz.underlying5 b off xs.length cap xs rfl (fun i hi => by rw [hc i hi]; simp [List.getD]) 9 Tryz.underlying9

theorem prefix_take (xs ys : List Int) : decide (ys <+: xs) = decide (xs.take ys.length = ys) := by
  exact decide_eq_decide.2 (List.prefix_iff_eq_take.trans eq_comm)

end Go.Proofs.YtakkdniikhgpdaaGreatDoor

namespace Go.Proofs.YtakkdniikhgpdaaGreatDoor
open Go.RowKit

theorem Tx.wide {B B' : Nat} {w : World} {tv : Value} {zs : List Int} (h : Tx B w tv zs) (hB : B ≤ B') : Tx B' w tv zs := by
  obtain ⟨⟨a, cap, hv, hr⟩, h2, h3, h4⟩ := h
  refine ⟨⟨a, cap, hv, fun h0 => ?_⟩, h2, h3, h4⟩
  obtain ⟨b, off, ha, hb, hc⟩ := hr h0
  exact ⟨b, off, ha, by omega, hc⟩
/-- A row that was laid since: nothing of w has turned. -/
theorem grown_over {a b c : World} {k : Nat} (h : a.grownBy b none) (hk : a.heap.size ≤ k) (g : b.grownBy c (some k)) : a.grownBy c none := grown_new h g (fun j e => by cases e; exact hk)

end Go.Proofs.YtakkdniikhgpdaaGreatDoor

namespace Go.Proofs.YtakkdniikhgpdaaGreatDoor
open Go.RowKit

theorem bytes_row_rd (w : World) (wl : List Int) (hb : Bys wl) (c : Nat) :
    RdB (w.alloc (.cells (bytesRow (strOfNums wl) c) 5 ((bytesRow (strOfNums wl) c).size, (bytesRow (strOfNums wl) c).size + 1))).heap.size (w.alloc (.cells (bytesRow (strOfNums wl) c) 5 ((bytesRow (strOfNums wl) c).size, (bytesRow (strOfNums wl) c).size + 1))) (.slice (some ⟨w.heap.size, 0, none⟩) wl.length c) wl := by
  refine ⟨_, c, rfl, fun _ => ⟨w.heap.size, 0, rfl, by simp, fun j hj => ?_⟩⟩
  have := World.cell?_alloc_mark w (bytesRow (strOfNums wl) c) 5 ((bytesRow (strOfNums wl) c).size, (bytesRow (strOfNums wl) c).size + 1) j
  rw [Nat.zero_add, this]
  have hz := hb _ (List.getElem_mem hj)
  unfold bytesRow
  rw [Array.getElem?_append_left (by simp [strOfNums, hj])]
  simp [strOfNums, hj]
  omega
theorem Rd.heap {q : IntKind} {B : Nat} {w w' : World} {v : Value} {zs : List Int} (h : Rd q B w v zs) (e : w'.heap = w.heap) : Rd q B w' v zs := by
  obtain ⟨a, cap, hv, hr⟩ := h
  refine ⟨a, cap, hv, fun h0 => ?_⟩
  obtain ⟨b, off, ha, hb, hc⟩ := hr h0
  exact ⟨b, off, ha, hb, fun j hj => by rw [← hc j hj]; unfold World.cell?; rw [e]⟩
/-- The text from place n on. -/
theorem Tx.from_ {B : Nat} {w : World} {a : Option Addr} {cap : Nat} {zs : List Int} (h : Tx B w (.slice a zs.length cap) zs) (n : Nat) (hn : n ≤ zs.length) :
    RdB B w (.slice (if cap = n then a else Option.map (fun x => x.add n) a) (zs.length - n) (cap - n)) (zs.drop n) ∧ Sl (.slice (if cap = n then a else Option.map (fun x => x.add n) a) (zs.length - n) (cap - n)) (zs.drop n).length ∧ Bys (zs.drop n) := by
  obtain ⟨a2, cap2, hv, hr⟩ := h.rd
  obtain ⟨a', cap', hve, hcap, hcm⟩ := h.sl
  have e1 : a = a2 ∧ cap = cap2 := by simpa using hv
  have e2 : a = a' ∧ cap = cap' := by simpa using hve
  obtain ⟨rfl, rfl⟩ := e1
  obtain ⟨_, rfl⟩ := e2
  refine ⟨⟨_, cap - n, by rw [List.length_drop], fun h0 => ?_⟩, ⟨_, cap - n, by rw [List.length_drop], by rw [List.length_drop]; omega, by omega⟩, fun z hz => h.by_ z (List.mem_of_mem_drop hz)⟩
  have hlt : n < zs.length := by
    apply Classical.byContradiction
    intro hc
    exact h0 (List.drop_of_length_le (by omega))
  obtain ⟨b, off, rfl, hb, hc⟩ := hr (fun e => by simp [e] at hlt)
  rw [if_neg (by omega)]
  refine ⟨b, off + n, by simp [Addr.add], hb, fun j hj => ?_⟩
  rw [List.length_drop] at hj
  rw [Nat.add_assoc, hc (n + j) (by omega), drop_at]

theorem Sc.drew {sb : Nat} {w : World} {tv : Value} {n : Nat} (h : Sc sb w tv n) : Sc sb w.drew tv n := ⟨h.c0, h.c1, h.fz⟩

end Go.Proofs.YtakkdniikhgpdaaGreatDoor

namespace Go.Proofs.YtakkdniikhgpdaaGreatDoor
open Go.RowKit
attribute [-go_sem] run_index_string

/-- A row of bytes over an append of the string of xs. -/
theorem own_str {B : Nat} {w1 : World} {v' : Value} {ys xs : List Int} (s : ByteArray) (hx : Lib.strCells s = xs.map (Value.int .u8)) (n : Nat) (hn : n = (ys ++ xs).length)
    (hown' : w1.ownsRow B 5 1 v' n (ys.map (Value.int .u8) ++ Lib.strCells s)) : OwB B w1 v' (ys ++ xs) := by
  subst hn
  unfold OwB Ow
  rw [List.map_append, ← hx]
  exact hown'

theorem below_own8 {B : Nat} {w w' : World} {v : Value} {zs : List Int} (hB : B ≤ w.heap.size) (h : OwB B w v zs) (hg : w.grownBy w' v.ownBlock) : Below B w w' :=
  ⟨hg.os, hg.tape, hg.output, hg.size, fun k hk => hg.block k (by omega) (fun e => by have := (World.ownsRow.lt h k e.symm).1; omega)⟩

end Go.Proofs.YtakkdniikhgpdaaGreatDoor

namespace Go.Proofs.YtakkdniikhgpdaaGreatDoor
open Go.RowKit

theorem onByte_val (p : Int) (h0 : 0 ≤ p) (h1 : p ≤ 1114111) : bits .or .u8 128 (bits .and .i32 p 63 % 256) = 128 + p % 64 := by
  rw [and63 p h0 (by omega), show p % 64 % 256 = p % 64 by omega, or128 _ (by omega) (by omega)]

end Go.Proofs.YtakkdniikhgpdaaGreatDoor

namespace Go.Proofs.YtakkdniikhgpdaaGreatDoor
open Go.RowKit

theorem cells_two (w : World) (x y : Value) (t : TypeId) : ∀ j u, [x, y][j]? = some u → (w.alloc (.cells #[x, y] t)).cell? ((⟨w.heap.size, 0, none⟩ : Addr).add j) = some u := by
  intro j u hj
  match j, hj with
  | 0, hj => simp at hj; subst hj; simp [Addr.add]
  | 1, hj => simp at hj; subst hj; simp [Addr.add]
theorem cells_three (w : World) (x y z : Value) (t : TypeId) : ∀ j u, [x, y, z][j]? = some u → (w.alloc (.cells #[x, y, z] t)).cell? ((⟨w.heap.size, 0, none⟩ : Addr).add j) = some u := by
  intro j u hj
  match j, hj with
  | 0, hj => simp at hj; subst hj; simp [Addr.add]
  | 1, hj => simp at hj; subst hj; simp [Addr.add]
  | 2, hj => simp at hj; subst hj; simp [Addr.add]
theorem cells_four (w : World) (x y z s : Value) (t : TypeId) : ∀ j u, [x, y, z, s][j]? = some u → (w.alloc (.cells #[x, y, z, s] t)).cell? ((⟨w.heap.size, 0, none⟩ : Addr).add j) = some u := by
  intro j u hj
  match j, hj with
  | 0, hj => simp at hj; subst hj; simp [Addr.add]
  | 1, hj => simp at hj; subst hj; simp [Addr.add]
  | 2, hj => simp at hj; subst hj; simp [Addr.add]
  | 3, hj => simp at hj; subst hj; simp [Addr.add]

end Go.Proofs.YtakkdniikhgpdaaGreatDoor

namespace Go.Proofs.YtakkdniikhgpdaaGreatDoor
open Go.RowKit

theorem qOne_hex {p : Int} (h1 : short p = []) (h2 : byHex p = true) : qOne p = hex4 p := by simp [qOne, h1, h2]
theorem qOne_enc {p : Int} (h1 : short p = []) (h2 : byHex p = false) : qOne p = enc p := by simp [qOne, h1, h2]
theorem short_no {p : Int} (a : p ≠ 8) (b : p ≠ 12) (c : p ≠ 10) (d : p ≠ 13) (e : p ≠ 9) (f : p ≠ 34) (g : p ≠ 92) : short p = [] := by simp [short, a, b, c, d, e, f, g]

end Go.Proofs.YtakkdniikhgpdaaGreatDoor

namespace Go.Proofs.YtakkdniikhgpdaaGreatDoor
open Go.RowKit

end Go.Proofs.YtakkdniikhgpdaaGreatDoor

namespace Go.Proofs.YtakkdniikhgpdaaGreatDoor
open Go.RowKit

end Go.Proofs.YtakkdniikhgpdaaGreatDoor

namespace Go.Proofs.YtakkdniikhgpdaaGreatDoor
open Go.RowKit

theorem fu_bds : ∀ (n : Nat) (zs : List Int), zs.length ≤ n → zs.all isUn = true → ∀ p ∈ fu zs, 0 ≤ p ∧ p ≤ 1114111
  | _, [], _, _ => by simp [fu]
  | _, [u], _, h => by
    simp [isUn] at h
    simp [fu]
    omega
  | 0, _ :: _ :: _, hl, _ => by simp at hl
  | n + 1, u :: x :: r, hl, h => by
    simp only [List.all_cons, Bool.and_eq_true] at h
    obtain ⟨hu, hx, hr⟩ := h
    have hu' : 0 ≤ u ∧ u < 65536 := by simpa [isUn] using hu
    intro p hp
    simp only [fu] at hp
    split at hp
    · rename_i hh
      simp only [Bool.and_eq_true] at hh
      have h1 : 55296 ≤ u ∧ u < 56320 := by simpa [isHi] using hh.1
      have h2 : 56320 ≤ x ∧ x ≤ 57343 := by simpa [isLo] using hh.2
      rcases List.mem_cons.1 hp with rfl | hp
      · unfold pairOf; omega
      · exact fu_bds n r (by simp at hl; omega) hr p hp
    · rcases List.mem_cons.1 hp with rfl | hp
      · omega
      · exact fu_bds n (x :: r) (by simp at hl ⊢; omega) (by simp only [List.all_cons, hx, hr]; rfl) p hp
theorem fu_bd (us : List Int) (h : (fuR us).2 = 0) : ∀ p ∈ (fuR us).1, 0 ≤ p ∧ p ≤ 1114111 := by
  unfold fuR at h ⊢
  split at h
  · rename_i ha
    rw [if_pos ha]
    exact fu_bds _ us (Nat.le_refl _) ha
  · simp at h
theorem own_one (w : World) (z : Int) : OwB w.heap.size (w.alloc (.cells #[.int .u8 z] 5)) (.slice (some ⟨w.heap.size, 0, none⟩) 1 1) [z] :=
  ⟨rfl, .inr ⟨w.heap.size, 1, #[.int .u8 z], rfl, Nat.le_refl _, heap_alloc_new w _, Nat.le_refl _, by unfold maxLen; omega, rfl, rfl⟩⟩

end Go.Proofs.YtakkdniikhgpdaaGreatDoor

