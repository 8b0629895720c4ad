import Derived.Test.YtkkcnpokobndcaaDoorBase
namespace Go.Proofs.YtkkcnpokobndcaaDoor
open Go.RowKit

/-- Bytes. -/
def Byt (zs : List Int) : Prop := ∀ z ∈ zs, 0 ≤ z ∧ z ≤ 255
theorem Byt.take {zs : List Int} (h : Byt zs) (n : Nat) : Byt (zs.take n) := fun z hz => h z (List.mem_of_mem_take hz)

/-- A file. -/
structure Fl where
  n : List Int
  d : List Int
  s : Int

/-- The order of names. -/
def ltB : List Int → List Int → Bool
  | _, [] => false
  | [], _ :: _ => true
  | a :: x, b :: y => decide (a < b) || (decide (a = b) && ltB x y)

theorem ltB_less : ∀ (xs ys : List Int), Byt xs → Byt ys → Op.bytesLess (xs.map fun n => UInt8.ofNat n.toNat) (ys.map fun n => UInt8.ofNat n.toNat) = ltB xs ys
  | xs, [], _, _ => by cases xs <;> rfl
  | [], _ :: _, _, _ => rfl
  | a :: x, b :: y, hx, hy => by
    have ha := hx a (by simp)
    have hb := hy b (by simp)
    have ih := ltB_less x y (fun z hz => hx z (by simp [hz])) (fun z hz => hy z (by simp [hz]))
    have h1 : (UInt8.ofNat a.toNat < UInt8.ofNat b.toNat) ↔ a < b := by
      rw [UInt8.lt_iff_toNat_lt]
      simp only [UInt8.toNat_ofNat']
      omega
    have h2 : (UInt8.ofNat a.toNat = UInt8.ofNat b.toNat) ↔ a = b := by
      rw [← UInt8.toNat_inj]
      simp only [UInt8.toNat_ofNat']
      omega
    simp only [List.map_cons, Op.bytesLess, ltB, ih]
    congr 1
    · exact decide_eq_decide.2 h1
    · congr 1
      exact decide_eq_decide.2 h2

def nameOK (n : List Int) : Bool := decide (1 ≤ n.length ∧ n.length ≤ 100)
def okF (f : Fl) : Bool := nameOK f.n && decide (0 ≤ f.s ∧ f.s ≤ (f.d.length : Int))
/-- The file at a place is in order, and behind the one before it. -/
def okAt (fs : List Fl) (i : Nat) : Bool :=
  match fs[i]? with
  | none => false
  | some f => okF f && (match i with
    | 0 => true
    | j + 1 => match fs[j]? with
      | none => false
      | some e => ltB e.n f.n)
def validF (fs : List Fl) : Bool := decide (fs.length ≤ 50) && (List.range fs.length).all (okAt fs)

theorem valid_long {fs : List Fl} (h : 50 < fs.length) : validF fs = false := by simp [validF]; omega
theorem valid_all {fs : List Fl} (h : fs.length ≤ 50) (ha : (List.range fs.length).all (okAt fs) = true) : validF fs = true := by unfold validF; rw [ha]; simp [h]
theorem valid_not {fs : List Fl} (k : Nat) (hk : k < fs.length) (ha : okAt fs k = false) : validF fs = false := by
  have : (List.range fs.length).all (okAt fs) = false := by
    rw [List.all_eq_false]
    exact ⟨k, by simpa using hk, by rw [ha]; simp⟩
  simp [validF, this]
theorem all_rangeS {fs : List Fl} {k : Nat} (h : (List.range k).all (okAt fs) = true) (ha : okAt fs k = true) : (List.range (k + 1)).all (okAt fs) = true := by
  rw [List.range_succ, List.all_append, h]; simp [ha]
theorem okAt_zero {fs : List Fl} (h : 0 < fs.length) : okAt fs 0 = okF fs[0] := by unfold okAt; simp [h]
theorem okAt_succ {fs : List Fl} {j : Nat} (h : j + 1 < fs.length) : okAt fs (j + 1) = (okF fs[j + 1] && ltB (fs[j]'(by omega)).n fs[j + 1].n) := by
  unfold okAt; simp [h, show j < fs.length by omega]

/-- The file with a name. -/
def findF (fs : List Fl) (n : List Int) : Option Fl := fs.find? fun f => decide (f.n = n)
def withoutF (fs : List Fl) (n : List Int) : List Fl := fs.filter fun f => decide (f.n ≠ n)
def insF (f : Fl) : List Fl → List Fl
  | [] => [f]
  | r :: rs => if ltB r.n f.n || decide (r.n = f.n) then r :: insF f rs else f :: r :: rs
def withF (fs : List Fl) (f : Fl) : List Fl := insF f (withoutF fs f.n)
def crashed (keep : Int) (f : Fl) : Fl :=
  if (f.d.length : Int) - f.s > keep then ⟨f.n, f.d.take (f.s + keep).toNat, f.s + keep⟩ else ⟨f.n, f.d, f.d.length⟩
def crashF (keep : Int) (fs : List Fl) : List Fl := fs.map (crashed keep)

theorem insF_length (f : Fl) : ∀ rs, (insF f rs).length = rs.length + 1
  | [] => rfl
  | r :: rs => by unfold insF; split <;> simp [insF_length f rs]
theorem insF_mem (f : Fl) : ∀ rs x, x ∈ insF f rs → x = f ∨ x ∈ rs
  | [], x, h => by simp [insF] at h; exact .inl h
  | r :: rs, x, h => by
    unfold insF at h
    split at h
    · simp only [List.mem_cons] at h
      rcases h with h | h
      · exact .inr (by simp [h])
      · rcases insF_mem f rs x h with h | h
        · exact .inl h
        · exact .inr (by simp [h])
    · simp only [List.mem_cons] at h
      rcases h with h | h | h
      · exact .inl h
      · exact .inr (by simp [h])
      · exact .inr (by simp [h])
theorem without_len (fs : List Fl) (n : List Int) : (withoutF fs n).length ≤ fs.length := List.length_filter_le _ _
theorem without_mem {fs : List Fl} {n : List Int} {x : Fl} (h : x ∈ withoutF fs n) : x ∈ fs := (List.mem_filter.1 h).1
theorem without_take (fs : List Fl) (n : List Int) (k : Nat) (hk : k < fs.length) : withoutF (fs.take (k + 1)) n = if fs[k].n = n then withoutF (fs.take k) n else withoutF (fs.take k) n ++ [fs[k]] := by
  rw [List.take_add_one, List.getElem?_eq_getElem hk]
  unfold withoutF
  rw [List.filter_append]
  by_cases h : fs[k].n = n
  · simp [h]
  · simp [h]
theorem find_yes {fs : List Fl} {n : List Int} (k : Nat) (hk : k < fs.length) (hb : ∀ j (hj : j < k), (fs[j]'(by omega)).n ≠ n) (h : fs[k].n = n) : findF fs n = some fs[k] := by
  unfold findF
  rw [List.find?_eq_some_iff_getElem]
  exact ⟨by simp [h], k, hk, rfl, fun j hj => by simpa using hb j hj⟩
theorem find_no {fs : List Fl} {n : List Int} (hb : ∀ j (hj : j < fs.length), fs[j].n ≠ n) : findF fs n = none := by
  unfold findF
  rw [List.find?_eq_none]
  intro x hx
  obtain ⟨j, hj, rfl⟩ := List.getElem_of_mem hx
  simpa using hb j hj
theorem find_mem {fs : List Fl} {n : List Int} {f : Fl} (h : findF fs n = some f) : f ∈ fs ∧ f.n = n := by
  unfold findF at h
  exact ⟨List.mem_of_find?_eq_some h, by simpa using List.find?_some h⟩

theorem ins_pass (f : Fl) : ∀ (rest : List Fl) (k : Nat), k ≤ rest.length → (∀ j (_ : j < k) (hl : j < rest.length), (ltB rest[j].n f.n || decide (rest[j].n = f.n)) = true) → insF f rest = rest.take k ++ insF f (rest.drop k)
  | _, 0, _, _ => by simp
  | [], k + 1, h, _ => by simp at h
  | r :: rs, k + 1, h, hb => by
    have h0 := hb 0 (by omega) (by simp)
    simp only [List.getElem_cons_zero] at h0
    rw [insF, if_pos h0, ins_pass f rs k (by simpa using h) (fun j hj hl => by have := hb (j + 1) (by omega) (by simpa using hl); simpa using this)]
    simp
end Go.Proofs.YtkkcnpokobndcaaDoor
