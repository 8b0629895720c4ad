import Derived.Test.YtbiiopiaglkicaaDoorMet
import Derived.Test.YtbiiopiaglkicaaDoorSpecLead
namespace Go.Proofs.YtbiiopiaglkicaaDoor
open Go.RowKit Go.Shelf
attribute [local go_sem] Oper.semAt_some

/-- What a node brings to the width: a text its width; a line of whatever make stops. -/
def wOf : Tr → Int
  | .leaf p => if p.k = 1 then widthR p.t else 0
  | _ => 0
def stops : Tr → Bool
  | .leaf p => !(p.k == 0 || p.k == 1)
  | _ => false
def wSum : List Tr → Int
  | [] => 0
  | x :: r => wOf x + wSum r
theorem wSum_snoc : ∀ (r : List Tr) (x : Tr), wSum (r ++ [x]) = wSum r + wOf x
  | [], x => by simp [wSum]
  | y :: r, x => by simp only [List.cons_append, wSum, wSum_snoc r x]; omega

theorem leadF_go : ∀ (r s : List Tr) (w : Int), (∀ x ∈ r, stops x = false) → leadF (r ++ s) w = leadF s (w + wSum r)
  | [], s, w, _ => by simp [wSum]
  | .leaf p :: r, s, w, h => by
    have h1 := h (.leaf p) (by simp)
    simp [stops] at h1
    simp only [List.cons_append, leadF, wSum, wOf]
    by_cases k0 : p.k = 0
    · rw [if_pos k0, if_neg (by omega), leadF_go r s w (fun x hx => h x (by simp [hx]))]; congr 1; omega
    · have k1 := h1 k0
      rw [if_neg k0, if_pos k1, if_pos k1, leadF_go r s _ (fun x hx => h x (by simp [hx]))]; congr 1; omega
  | .un p x :: r, s, w, h => by
    simp only [List.cons_append, leadF, wSum, wOf]
    rw [leadF_go r s w (fun x hx => h x (by simp [hx]))]; congr 1; omega
  | .bin p x y :: r, s, w, h => by
    simp only [List.cons_append, leadF, wSum, wOf]
    rw [leadF_go r s w (fun x hx => h x (by simp [hx]))]; congr 1; omega

theorem leadF_all (T : Tr) (h : okA T) : leadF (preo false T) 0 = (leadT T).1 := by
  have := leadF_T T [] 0 h
  simp only [List.append_nil, leadF, Int.zero_add] at this
  rw [this]; split <;> rfl

theorem lead_done {T : Tr} {ys : List Tr} (hT : okA T) (hy : ys = preo false T) (h : ∀ x ∈ ys, stops x = false) : wSum ys = (leadT T).1 := by
  rw [← leadF_all T hT, ← hy]
  have := leadF_go ys [] 0 h
  simp only [List.append_nil, leadF] at this
  rw [this]; omega
theorem lead_stop {T : Tr} {q : List Tr} {x : Tr} (hT : okA T) (hy : q ++ [x] <+: preo false T) (h : ∀ x ∈ q, stops x = false) (hx : stops x = true) : wSum q = (leadT T).1 := by
  obtain ⟨s, hs⟩ := hy
  rw [← leadF_all T hT, ← hs, List.append_assoc, leadF_go q _ 0 h]
  match x, hx with
  | .leaf p, hx =>
    simp [stops] at hx
    simp only [List.cons_append, List.nil_append, leadF]
    rw [if_neg hx.1, if_neg hx.2]; omega

theorem wrap_add (a b : Int) : wrap64 (wrap64 a + b) = wrap64 (a + b) := by
  unfold wrap64; omega

end Go.Proofs.YtbiiopiaglkicaaDoor
