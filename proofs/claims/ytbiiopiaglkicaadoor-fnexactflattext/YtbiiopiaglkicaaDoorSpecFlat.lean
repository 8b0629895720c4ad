import Derived.Test.YtbiiopiaglkicaaDoorL2flat
namespace Go.Proofs.YtbiiopiaglkicaaDoor
open Go.RowKit

/-- The flat text of a valid document that has one. -/
def flatR (doc : List Pc) : Option (List Int) := if specV doc = true then (match bd doc [] with | some [T] => flatT T [] | _ => none) else none

def flatL (doc : List Pc) : List Int := (flatR doc).getD []
def flatB (doc : List Pc) : Bool := (flatR doc).isSome

set_option maxHeartbeats 2000000 in
set_option maxRecDepth 100000 in
theorem specFlat_any (v : Value) (doc : List Pc) (w : World) (hv : RdP w.heap.size w v doc) (hd : Doc doc) :
    Calls Tryd.prog 36 #[v] w fun e w' => ∃ v', e = .returned (.tuple #[v', .bool (flatB doc)]) ∧ OwB w.heap.size w' v' (flatL doc) ∧ w.grownBy w' none := by
  have hV := specValid_any v doc w hv hd
  obtain ⟨a, cap, hv0, _⟩ := id hv
  rcases valid_eq doc with ⟨h1, _, T, n, h3, _, h5⟩ | ⟨h1, _⟩
  · have HF : Hid (flatR doc = flatT T []) := by unfold Hid flatR; rw [if_pos h1, h3]
    have hsz := spec_sz doc h1 T h3
    have hall : ∀ p ∈ doc, pcOK p = true := by
      have h := h1
      simp only [specV, Bool.and_eq_true] at h
      exact fun p hp => List.all_eq_true.1 h.1.1.1.2 p hp
    have HL : Hid (∀ (va sv : Value) (B : Nat), FlatSays va sv B doc (startsOf doc) T doc.length) := fun va sv B => l2flat_any va sv B doc (startsOf doc) hd hall T 0 doc.length h5
    have hl := hd.len
    have HV : Hid (RdP w.heap.size w v doc) := hv
    rw [h1] at hV
    have HST : Hid (∀ (w : World), RdP w.heap.size w v doc → Calls Tryd.prog 57 #[v] w fun e w' => ∃ v', e = .returned v' ∧ OwI w.heap.size w' v' (startsOf doc) ∧ w.grownBy w' none) := fun w h => l2starts_any v doc w h hl
    clear h3 h5 h1 hv hall
    subst hv0
    go_enter Tryd.func36, Tryd.ntmps36
    go_wp2_with fail
    refine hV.mono ?_
    rintro e w1 ⟨rfl, g1⟩
    have hst := HST.out w1 ((HV.out.keep g1).wide g1.size)
    clear hV
    go_wp2_with fail
    refine hst.mono ?_
    rintro e w2 ⟨sv, rfl, o2, g2⟩
    have t2 := grown_trans g1 g2
    have hflat := HL.out (.slice a doc.length cap) sv w2.heap.size w2 (.slice none 0 0) [] (Nat.le_refl _) ((HV.out.keep t2).wide t2.size) o2.rd (World.ownsRow_nil _ _ _ _) (by simp; omega)
    obtain ⟨sa, scap, hsv, _, _⟩ := row_form o2
    subst hsv
    clear o2 HV hst g1 g2
    go_wp2_with fail
    refine hflat.mono ?_
    intro e w3 h6
    obtain ⟨b3, h7⟩ := h6
    have HG : Hid (w.grownBy w3 none) := grown_trans t2 (grown_of_below b3)
    have hs2 := t2.size
    clear hflat
    cases hfy : flatT T [] with
    | none =>
      rw [hfy] at h7
      simp only at h7
      subst h7
      have H1 : Hid (flatB doc = false ∧ flatL doc = []) := by unfold Hid flatB flatL; rw [HF.out, hfy]; exact ⟨rfl, rfl⟩
      clear hfy b3 t2
      go_wp2
      go_ret2
      exact ⟨_, by rw [H1.out.1]; rfl, by rw [H1.out.2]; exact World.ownsRow_nil _ _ _ _, HG.out⟩
    | some o =>
      rw [hfy] at h7
      obtain ⟨v2, h8, h9⟩ := h7
      subst h8
      have H1 : Hid (flatB doc = true ∧ flatL doc = o) := by unfold Hid flatB flatL; rw [HF.out, hfy]; exact ⟨rfl, rfl⟩
      clear hfy b3 t2
      go_wp2
      go_ret2
      exact ⟨v2, by rw [H1.out.1]; rfl, by rw [H1.out.2]; exact row_base hs2 h9, HG.out⟩
  · have H1 : Hid (flatB doc = false ∧ flatL doc = []) := by unfold Hid flatB flatL flatR; rw [if_neg (by rw [h1]; simp)]; exact ⟨rfl, rfl⟩
    rw [h1] at hV
    subst hv0
    clear hv h1
    go_enter Tryd.func36, Tryd.ntmps36
    go_wp2_with fail
    refine hV.mono ?_
    rintro e w1 ⟨rfl, g1⟩
    go_wp2
    go_ret2
    exact ⟨_, by rw [H1.out.1]; rfl, by rw [H1.out.2]; exact World.ownsRow_nil _ _ _ _, g1⟩

theorem flatL_len (doc : List Pc) : (flatL doc).length ≤ 140000 := by
  unfold flatL
  cases h : flatR doc with
  | none => simp
  | some o =>
    unfold flatR at h
    split at h
    · rename_i hs
      split at h
      · rename_i T hT
        have := flatT_len T [] o h
        have := spec_sz doc hs T hT
        simp at *
        omega
      · cases h
    · cases h

/-- What a node brings to the flat text, and which nodes it can't hold. -/
def txOf : Tr → List Int
  | .leaf p => if p.k = 1 then p.t else if p.k = 2 then [32] else []
  | _ => []
def bars : Tr → Bool
  | .leaf p => !(p.k == 0 || p.k == 3 || p.k == 1 || p.k == 2)
  | _ => false
def txs : List Tr → List Int
  | [] => []
  | x :: r => txOf x ++ txs r
theorem txs_snoc : ∀ (r : List Tr) (x : Tr), txs (r ++ [x]) = txs r ++ txOf x
  | [], x => by simp [txs]
  | y :: r, x => by simp only [List.cons_append, txs, txs_snoc r x, List.append_assoc]

theorem flatF_go : ∀ (r s : List Tr) (o : List Int), (∀ x ∈ r, bars x = false) → flatF (r ++ s) o = flatF s (o ++ txs r)
  | [], s, o, _ => by simp [txs]
  | .leaf p :: r, s, o, h => by
    have h1 := h (.leaf p) (by simp)
    simp [bars] at h1
    simp only [List.cons_append, flatF, txs, txOf]
    by_cases k0 : p.k = 0 ∨ p.k = 3
    · rw [if_pos k0, if_neg (by omega), if_neg (by omega), flatF_go r s o (fun x hx => h x (by simp [hx]))]; simp
    · by_cases k1 : p.k = 1
      · rw [if_neg k0, if_pos k1, if_pos k1, flatF_go r s _ (fun x hx => h x (by simp [hx]))]; simp
      · have k2 : p.k = 2 := by omega
        rw [if_neg k0, if_neg k1, if_pos k2, if_neg k1, if_pos k2, flatF_go r s _ (fun x hx => h x (by simp [hx]))]; simp
  | .un p x :: r, s, o, h => by
    simp only [List.cons_append, flatF, txs, txOf]
    rw [flatF_go r s o (fun x hx => h x (by simp [hx]))]; simp
  | .bin p x y :: r, s, o, h => by
    simp only [List.cons_append, flatF, txs, txOf]
    rw [flatF_go r s o (fun x hx => h x (by simp [hx]))]; simp

theorem flatF_all (T : Tr) : flatF (preo true T) [] = flatT T [] := by
  have := flatF_T T [] []
  simp only [List.append_nil] at this
  rw [this]
  cases flatT T [] <;> rfl
theorem flat_done {T : Tr} {ys : List Tr} (hy : ys = preo true T) (h : ∀ x ∈ ys, bars x = false) : flatT T [] = some (txs ys) := by
  rw [← flatF_all T, ← hy]
  have := flatF_go ys [] [] h
  simpa [flatF] using this
theorem flat_stop {T : Tr} {q : List Tr} {x : Tr} (hy : q ++ [x] <+: preo true T) (h : ∀ x ∈ q, bars x = false) (hx : bars x = true) : flatT T [] = none := by
  obtain ⟨s, hs⟩ := hy
  rw [← flatF_all T, ← hs, List.append_assoc, flatF_go q _ [] h]
  match x, hx with
  | .leaf p, hx =>
    simp [bars] at hx
    simp only [List.cons_append, List.nil_append, flatF]
    rw [if_neg (by omega), if_neg (by omega), if_neg (by omega)]

end Go.Proofs.YtbiiopiaglkicaaDoor
