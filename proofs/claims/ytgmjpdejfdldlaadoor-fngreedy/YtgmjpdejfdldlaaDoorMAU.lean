import Derived.Test.YtgmjpdejfdldlaaDoorMAJ
import Derived.Test.YtgmjpdejfdldlaaDoorMAT
namespace Go.Proofs.YtgmjpdejfdldlaaDoor
open Go.RowKit

/-- The width of two texts, one behind the other. -/
theorem width_split {a : List Int} (hb : Bys a) (h : 0 ≤ widthR a) : ∃ q, q.all okPt = true ∧ a = encAll q ∧ widthR a = q.length := by
  have h0 : (decR a).2.1 = 0 := by
    apply Classical.byContradiction
    intro hn
    rw [width_bad hn] at h
    omega
  have hq := bytes_back hb h0
  have hw : widthR a = (decR a).1.length := by unfold widthR; rw [if_pos h0]
  by_cases hall : (decR a).1.all okPt = true
  · rw [encR_ok _ hall] at hq
    exact ⟨_, hall, (by simpa using congrArg Prod.fst hq.symm), hw⟩
  · rw [encR_bad _ (by simpa using hall)] at hq
    simp at hq
theorem width_add {a b : List Int} (ha : Bys a) (hb : Bys b) (h1 : 0 ≤ widthR a) (h2 : 0 ≤ widthR b) : widthR (a ++ b) = widthR a + widthR b := by
  obtain ⟨q, q1, q2, q3⟩ := width_split ha h1
  obtain ⟨r, r1, r2, r3⟩ := width_split hb h2
  have hall : (q ++ r).all okPt = true := by rw [List.all_append, q1, r1]; rfl
  have := width_back hall
  rw [encR_ok _ hall] at this
  simp only at this
  rw [show encAll (q ++ r) = a ++ b by rw [q2, r2]; simp [encAll]] at this
  rw [this, q3, r3]
  simp

/-- The kinds and texts of a tree that was read. -/
def KOk : Tr → Prop
  | .leaf p => (0 ≤ p.k ∧ p.k ≤ 5) ∧ (p.k = 1 → 0 ≤ widthR p.t ∧ Bys p.t)
  | .un p x => (p.k = 7 ∨ p.k = 8) ∧ KOk x
  | .bin p x y => (p.k = 6 ∨ p.k = 9) ∧ KOk x ∧ KOk y
theorem kok_seg {doc : List Pc} {st : List Int} (h1 : ∀ p ∈ doc, pcOK p = true) (h2 : ∀ p ∈ doc, Bys p.t) : ∀ {T : Tr} {a b : Nat}, Seg doc st T a b → KOk T
  | .leaf p, a, b, h => by
    obtain ⟨_, hp, har, _⟩ := h
    have hm := List.mem_of_getElem? hp
    have hk := (pcOK_iff p).1 (h1 p hm)
    refine ⟨⟨hk.1.1, ?_⟩, fun e => ⟨(hk.2.1 e).2, h2 p hm⟩⟩
    have := hk.1
    unfold ar at har
    repeat' split at har
    all_goals omega
  | .un p x, a, b, h => by
    obtain ⟨m, _, hp, har, _, hx⟩ := h
    refine ⟨?_, kok_seg h1 h2 hx⟩
    unfold ar at har
    repeat' split at har
    all_goals omega
  | .bin p x y, a, b, h => by
    obtain ⟨c, m, _, hp, har, _, hx, hy⟩ := h
    refine ⟨?_, kok_seg h1 h2 hx, kok_seg h1 h2 hy⟩
    unfold ar at har
    repeat' split at har
    all_goals omega

theorem flatT_acc : ∀ (T : Tr) (out : List Int), flatT T out = (flatT T []).map (out ++ ·)
  | .leaf p, out => by
    simp only [flatT]
    repeat' split
    all_goals simp
  | .un p x, out => by simp only [flatT]; exact flatT_acc x out
  | .bin p x y, out => by
    simp only [flatT]
    split
    · rw [flatT_acc x out]
      cases flatT x [] with
      | none => rfl
      | some o => simp only [Option.map_some, Option.bind_some]; rw [flatT_acc y (out ++ o), flatT_acc y o]; cases flatT y [] <;> simp
    · exact flatT_acc y out

theorem flat_w : ∀ (T : Tr), KOk T → (∀ text, flatT T [] = some text → flatW T = widthR text ∧ 0 ≤ flatW T ∧ Bys text) ∧ (flatT T [] = none → flatW T = -1)
  | .leaf p, h => by
    simp only [KOk] at h
    simp only [flatT, flatW]
    by_cases h1 : p.k = 1
    · have := h.2 h1
      simp only [h1]
      simp
      exact ⟨this.1, this.2⟩
    · by_cases h2 : p.k = 2
      · simp only [h2]
        simp
        refine ⟨by decide, fun z hz => by simp at hz; omega⟩
      · by_cases h03 : p.k = 0 ∨ p.k = 3
        · rw [if_pos h03, if_neg h1, if_neg h2, if_neg (by omega)]
          refine ⟨fun text e => ?_, by simp⟩
          cases e
          exact ⟨by decide, by omega, fun z hz => by simp at hz⟩
        · rw [if_neg h03, if_neg h1, if_neg h2, if_neg h1, if_neg h2, if_pos (by omega)]
          simp
  | .un p x, h => by
    simp only [KOk] at h
    simp only [flatT, flatW]
    exact flat_w x h.2
  | .bin p x y, h => by
    simp only [KOk] at h
    have hx := flat_w x h.2.1
    have hy := flat_w y h.2.2
    simp only [flatT, flatW]
    by_cases h6 : p.k = 6
    · rw [if_pos h6, if_pos h6]
      cases ex : flatT x [] with
      | none => simp [hx.2 ex]
      | some o =>
        have hxo := hx.1 o ex
        simp only [Option.bind_some]
        rw [flatT_acc y o]
        cases ey : flatT y [] with
        | none => simp [hy.2 ey]
        | some q =>
          have hyo := hy.1 q ey
          rw [if_neg (by omega)]
          refine ⟨fun text e => ?_, by simp⟩
          simp at e
          subst e
          refine ⟨?_, by omega, fun z hz => ?_⟩
          · rw [width_add hxo.2.2 hyo.2.2 (by omega) (by omega)]; omega
          · rcases List.mem_append.1 hz with hz | hz
            · exact hxo.2.2 z hz
            · exact hyo.2.2 z hz
    · rw [if_neg h6, if_neg h6]
      exact hy

def szP (its : List PT) : Nat := szs (its.map (·.T))
theorem szP_cons (t : PT) (r : List PT) : szP (t :: r) = sz t.T + szP r := rfl
theorem szP_pt (its : List Tk) : szP (its.map Tk.pt) = szS its := by unfold szP szS; rw [List.map_map]; rfl

theorem pm_fuel (d : Nat → Int → Bool) : ∀ (f f' : Nat) (its : List PT) (tx : List Int) (col : Int) (ch : List Int), szP its < f → szP its < f' → pm d f its tx col ch = pm d f' its tx col ch
  | 0, _, _, _, _, _, h, _ => by omega
  | _ + 1, 0, _, _, _, _, _, h => by omega
  | f + 1, f' + 1, [], _, _, _, _, _ => rfl
  | f + 1, f' + 1, ⟨.leaf p, n, ind, fl, bw, be⟩ :: r, tx, col, ch, h1, h2 => by
    rw [szP_cons] at h1 h2
    simp only [sz] at h1 h2
    have hr : ∀ a b c, pm d f r a b c = pm d f' r a b c := fun a b c => pm_fuel d f f' r a b c (by omega) (by omega)
    simp only [pm, hr]
  | f + 1, f' + 1, ⟨.un p x, n, ind, fl, bw, be⟩ :: r, tx, col, ch, h1, h2 => by
    rw [szP_cons] at h1 h2
    simp only [sz] at h1 h2
    have hr : ∀ i g e a b c, pm d f (⟨x, n, i, g, bw, e⟩ :: r) a b c = pm d f' (⟨x, n, i, g, bw, e⟩ :: r) a b c := fun i g e a b c => pm_fuel d f f' _ a b c (by rw [szP_cons]; simp only; omega) (by rw [szP_cons]; simp only; omega)
    simp only [pm, hr]
  | f + 1, f' + 1, ⟨.bin p x y, n, ind, fl, bw, be⟩ :: r, tx, col, ch, h1, h2 => by
    rw [szP_cons] at h1 h2
    simp only [sz] at h1 h2
    have hr : ∀ b1 e1 a b c, pm d f (⟨x, n, ind, fl, b1, e1⟩ :: ⟨y, n + cntG x, ind, fl, bw, be⟩ :: r) a b c = pm d f' (⟨x, n, ind, fl, b1, e1⟩ :: ⟨y, n + cntG x, ind, fl, bw, be⟩ :: r) a b c :=
      fun b1 e1 a b c => pm_fuel d f f' _ a b c (by rw [szP_cons, szP_cons]; simp only; omega) (by rw [szP_cons, szP_cons]; simp only; omega)
    have hq : ∀ a b c, pm d f (⟨if fl then y else x, if fl then n + cntG x else n, ind, fl, bw, be⟩ :: r) a b c = pm d f' (⟨if fl then y else x, if fl then n + cntG x else n, ind, fl, bw, be⟩ :: r) a b c :=
      fun a b c => pm_fuel d f f' _ a b c (by rw [szP_cons]; cases fl <;> simp <;> omega) (by rw [szP_cons]; cases fl <;> simp <;> omega)
    simp only [pm, hr, hq]

/-- The machine, with fuel enough. -/
def pmL (d : Nat → Int → Bool) (its : List PT) (tx : List Int) (col : Int) (ch : List Int) : List Int × List Int := pm d (szP its + 1) its tx col ch
theorem pmL_fuel {d : Nat → Int → Bool} {f : Nat} {its : List PT} {tx : List Int} {col : Int} {ch : List Int} (h : szP its < f) : pm d f its tx col ch = pmL d its tx col ch := pm_fuel d f _ its tx col ch h (by omega)

section
variable (d : Nat → Int → Bool)

theorem pmL_nil (tx : List Int) (col : Int) (ch : List Int) : pmL d [] tx col ch = (tx, ch) := rfl
theorem pmL_leaf (p : Pc) (n : Nat) (ind : Int) (fl : Bool) (bw : Int) (be : Bool) (r : List PT) (tx : List Int) (col : Int) (ch : List Int) : pmL d (⟨.leaf p, n, ind, fl, bw, be⟩ :: r) tx col ch =
    if (brk (.leaf p) ind fl).2 = true then pmL d r (tx ++ [10] ++ List.replicate (brk (.leaf p) ind fl).1.toNat 32) (brk (.leaf p) ind fl).1 ch
    else if p.k = 1 then pmL d r (tx ++ p.t) (col + widthR p.t) ch
    else if p.k = 2 then pmL d r (tx ++ [32]) (col + 1) ch
    else pmL d r tx col ch := by
  rw [pmL, szP_cons]
  simp only [pm, sz]
  have h : ∀ a b c, pm d (p.t.length + 1 + szP r) r a b c = pmL d r a b c := fun a b c => pmL_fuel (by omega)
  simp only [h]
theorem pmL_un (p : Pc) (x : Tr) (n : Nat) (ind : Int) (fl : Bool) (bw : Int) (be : Bool) (r : List PT) (tx : List Int) (col : Int) (ch : List Int) : pmL d (⟨.un p x, n, ind, fl, bw, be⟩ :: r) tx col ch =
    if p.k = 7 then pmL d (⟨x, n, ind + p.n, fl, bw, be⟩ :: r) tx col ch
    else pmL d (⟨x, n, ind, fl || canR (flatW x) col bw (d (n + cntG x)), bw, be⟩ :: r) tx col (ch.set (n + cntG x) (if (fl || canR (flatW x) col bw (d (n + cntG x))) = true then 1 else 2)) := by
  rw [pmL, szP_cons]
  simp only [pm, sz]
  have h : ∀ i g a b c, pm d (p.t.length + 1 + sz x + szP r) (⟨x, n, i, g, bw, be⟩ :: r) a b c = pmL d (⟨x, n, i, g, bw, be⟩ :: r) a b c := fun i g a b c => pmL_fuel (by rw [szP_cons]; simp only; omega)
  simp only [h]
theorem pmL_bin (p : Pc) (x y : Tr) (n : Nat) (ind : Int) (fl : Bool) (bw : Int) (be : Bool) (r : List PT) (tx : List Int) (col : Int) (ch : List Int) : pmL d (⟨.bin p x y, n, ind, fl, bw, be⟩ :: r) tx col ch =
    if p.k = 6 then pmL d (⟨x, n, ind, fl, if (leadT y).2 = true then (leadT y).1 else (leadT y).1 + bw, if (leadT y).2 = true then (leadT y).2 else be⟩ :: ⟨y, n + cntG x, ind, fl, bw, be⟩ :: r) tx col ch
    else pmL d (⟨if fl then y else x, if fl then n + cntG x else n, ind, fl, bw, be⟩ :: r) tx col ch := by
  rw [pmL, szP_cons]
  simp only [pm, sz]
  have h1 : ∀ b1 e1 a b c, pm d (p.t.length + 1 + (sz x + sz y) + szP r) (⟨x, n, ind, fl, b1, e1⟩ :: ⟨y, n + cntG x, ind, fl, bw, be⟩ :: r) a b c = pmL d (⟨x, n, ind, fl, b1, e1⟩ :: ⟨y, n + cntG x, ind, fl, bw, be⟩ :: r) a b c :=
    fun b1 e1 a b c => pmL_fuel (by rw [szP_cons, szP_cons]; simp only; omega)
  have h2 : ∀ a b c, pm d (p.t.length + 1 + (sz x + sz y) + szP r) (⟨if fl then y else x, if fl then n + cntG x else n, ind, fl, bw, be⟩ :: r) a b c = pmL d (⟨if fl then y else x, if fl then n + cntG x else n, ind, fl, bw, be⟩ :: r) a b c :=
    fun a b c => pmL_fuel (by rw [szP_cons]; cases fl <;> simp <;> omega)
  simp only [h1, h2]

/-- A flat part. -/
theorem pm_flat : ∀ (T : Tr) (n : Nat) (ind bw : Int) (be : Bool) (r : List PT) (tx : List Int) (col : Int) (ch text : List Int), KOk T → flatT T [] = some text →
    pmL d (⟨T, n, ind, true, bw, be⟩ :: r) tx col ch = pmL d r (tx ++ text) (col + flatW T) (markF T n ch)
  | .leaf p, n, ind, bw, be, r, tx, col, ch, text, hk, ht => by
    simp only [KOk] at hk
    rw [pmL_leaf]
    simp only [flatT] at ht
    have hb : (brk (.leaf p) ind true).2 = false := by
      simp only [brk]
      by_cases h45 : p.k = 4 ∨ p.k = 5
      · rw [if_neg (by omega), if_neg (by omega), if_neg (by omega)] at ht
        cases ht
      · by_cases h23 : p.k = 2 ∨ p.k = 3
        · simp [h23]
        · rw [if_neg h23, if_neg (by omega), if_neg (by omega)]
    rw [if_neg (by rw [hb]; simp)]
    simp only [flatW, markF]
    by_cases h1 : p.k = 1
    · rw [if_pos h1]
      simp only [h1] at ht ⊢
      simp at ht
      subst ht
      simp
    · rw [if_neg h1]
      by_cases h2 : p.k = 2
      · rw [if_pos h2]
        simp only [h2] at ht ⊢
        simp at ht
        subst ht
        simp
      · rw [if_neg h2, if_neg h1, if_neg h2]
        by_cases h03 : p.k = 0 ∨ p.k = 3
        · rw [if_pos h03] at ht
          cases ht
          rw [if_neg (by omega)]
          simp
        · rw [if_neg h03, if_neg h1, if_neg h2] at ht
          cases ht
  | .un p x, n, ind, bw, be, r, tx, col, ch, text, hk, ht => by
    simp only [KOk] at hk
    simp only [flatT] at ht
    rw [pmL_un]
    simp only [flatW, markF]
    rcases hk.1 with h7 | h8
    · rw [if_pos h7, if_neg (by omega)]
      exact pm_flat x n _ bw be r tx col ch text hk.2 ht
    · rw [if_neg (by omega), if_pos h8]
      simp only [Bool.true_or, if_true]
      exact pm_flat x n _ bw be r tx col _ text hk.2 ht
  | .bin p x y, n, ind, bw, be, r, tx, col, ch, text, hk, ht => by
    simp only [KOk] at hk
    simp only [flatT] at ht
    rw [pmL_bin]
    simp only [flatW, markF]
    rcases hk.1 with h6 | h9
    · rw [if_pos h6] at ht
      rw [if_pos h6, if_pos h6, if_pos h6]
      cases ex : flatT x [] with
      | none => rw [ex] at ht; simp at ht
      | some o =>
        rw [ex, Option.bind_some, flatT_acc y o] at ht
        cases ey : flatT y [] with
        | none => rw [ey] at ht; simp at ht
        | some q =>
          rw [ey] at ht
          simp at ht
          subst ht
          have hx := (flat_w x hk.2.1).1 o ex
          have hy := (flat_w y hk.2.2).1 q ey
          rw [pm_flat x n ind _ _ _ tx col ch o hk.2.1 ex, pm_flat y (n + cntG x) ind bw be r _ _ _ q hk.2.2 ey, if_neg (by omega)]
          rw [List.append_assoc, Int.add_assoc]
    · rw [if_neg (by omega)] at ht
      have h6n : ¬ p.k = 6 := by omega
      simp only [if_neg h6n, if_true]
      exact pm_flat y (n + cntG x) ind bw be r tx col ch text hk.2.2 ht
end

end Go.Proofs.YtgmjpdejfdldlaaDoor

namespace Go.Proofs.YtgmjpdejfdldlaaDoor

/-! A layout made again with the choices that it made is the same. -/

def OffI (g : Nat) (its : List Item) : Prop := ∀ s ∈ its, g < s.n ∨ s.n + cntG s.T ≤ g
def OrdI' : List Item → Prop
  | [] => True
  | it :: r => (∀ s ∈ r, it.n + cntG it.T ≤ s.n) ∧ OrdI' r
theorem offI_tail {g : Nat} {it : Item} {r : List Item} (h : OffI g (it :: r)) : OffI g r := fun s hs => h s (List.mem_cons_of_mem _ hs)
theorem offI_cons {g : Nat} {it : Item} {r : List Item} (h : g < it.n ∨ it.n + cntG it.T ≤ g) (h' : OffI g r) : OffI g (it :: r) := fun s hs => by
  rcases List.mem_cons.1 hs with rfl | hs
  · exact h
  · exact h' s hs
theorem markF_off {g : Nat} : ∀ (T : Tr) (n : Nat) (met : List Int), (g < n ∨ n + cntG T ≤ g) → (markF T n met)[g]? = met[g]?
  | .leaf _, _, _, _ => rfl
  | .un p x, n, met, h => by
    simp only [markF, cntG] at h ⊢
    rw [markF_off x n _ (by split at h <;> omega)]
    split
    · rename_i hk
      rw [if_pos hk] at h
      rw [List.getElem?_set_ne (by omega)]
    · rfl
  | .bin p x y, n, met, h => by
    simp only [markF, cntG] at h ⊢
    rw [markF_off y (n + cntG x) _ (by omega)]
    split
    · exact markF_off x n met (by omega)
    · rfl
theorem lay_off {width : Int} {g : Nat} : ∀ (f : Nat) (its : List Item) (out met : List Int) (col : Int) (r : List Int × List Int), OffI g its → (∀ s ∈ its, KOk s.T) → lay width none f its out met col = some r → r.2[g]? = met[g]?
  | 0, _, _, _, _, _, _, _, h => by simp [lay] at h
  | f + 1, [], out, met, col, r, _, _, h => by simp only [lay, Option.some.injEq] at h; subst h; rfl
  | f + 1, ⟨.leaf p, n, ind⟩ :: rest, out, met, col, r, ho, hk, h => by
    have ho' := offI_tail ho
    have hk' : ∀ s ∈ rest, KOk s.T := fun s hs => hk s (List.mem_cons_of_mem _ hs)
    simp only [lay] at h
    split at h
    · exact lay_off f _ _ _ _ _ ho' hk' h
    · split at h
      · exact lay_off f _ _ _ _ _ ho' hk' h
      · split at h
        · exact lay_off f _ _ _ _ _ ho' hk' h
        · exact lay_off f _ _ _ _ _ ho' hk' h
  | f + 1, ⟨.bin p x y, n, ind⟩ :: rest, out, met, col, r, ho, hk, h => by
    have ho' := offI_tail ho
    have h0 := ho ⟨.bin p x y, n, ind⟩ (by simp)
    have hk0 : KOk (.bin p x y) := hk ⟨.bin p x y, n, ind⟩ (by simp)
    have hk' : ∀ s ∈ rest, KOk s.T := fun s hs => hk s (List.mem_cons_of_mem _ hs)
    simp only [cntG] at h0
    simp only [lay] at h
    split at h
    · refine lay_off f _ _ _ _ _ (offI_cons (by simp only; omega) (offI_cons (by simp only; omega) ho')) (fun s hs => ?_) h
      rcases List.mem_cons.1 hs with rfl | hs
      · exact hk0.2.1
      · rcases List.mem_cons.1 hs with rfl | hs
        · exact hk0.2.2
        · exact hk' s hs
    · refine lay_off f _ _ _ _ _ (offI_cons (by simp only; omega) ho') (fun s hs => ?_) h
      rcases List.mem_cons.1 hs with rfl | hs
      · exact hk0.2.1
      · exact hk' s hs
  | f + 1, ⟨.un p x, n, ind⟩ :: rest, out, met, col, r, ho, hk, h => by
    have ho' := offI_tail ho
    have h0 := ho ⟨.un p x, n, ind⟩ (by simp)
    have hk0 : KOk (.un p x) := hk ⟨.un p x, n, ind⟩ (by simp)
    have hk' : ∀ s ∈ rest, KOk s.T := fun s hs => hk s (List.mem_cons_of_mem _ hs)
    have hkx : ∀ i : Int, ∀ s ∈ (⟨x, n, i⟩ : Item) :: rest, KOk s.T := fun i s hs => by
      rcases List.mem_cons.1 hs with rfl | hs
      · exact hk0.2
      · exact hk' s hs
    have h0' := h0
    simp only [cntG] at h0
    simp only [lay] at h
    by_cases h7 : p.k = 7
    · rw [if_pos h7] at h
      exact lay_off f _ _ _ _ _ (offI_cons (by simp only; split at h0 <;> omega) ho') (hkx _) h
    · have h8 : p.k = 8 := by have := hk0.1; omega
      rw [if_pos h8] at h0
      rw [if_neg h7] at h
      have hset : ∀ v : Int, (met.set (n + cntG x) v)[g]? = met[g]? := fun v => List.getElem?_set_ne (by omega)
      cases hx : flatT x [] with
      | none =>
        rw [hx] at h
        rw [lay_off f _ _ _ _ _ (offI_cons (by simp only; omega) ho') (hkx _) h, hset]
      | some text =>
        rw [hx] at h
        simp only at h
        split at h
        · rw [lay_off f _ _ _ _ _ ho' hk' h, markF_off _ _ _ h0']
        · rw [lay_off f _ _ _ _ _ (offI_cons (by simp only; omega) ho') (hkx _) h, hset]
theorem lay_metlen {width : Int} : ∀ (f : Nat) (its : List Item) (out met : List Int) (col : Int) (r : List Int × List Int), lay width none f its out met col = some r → r.2.length = met.length
  | 0, _, _, _, _, _, h => by simp [lay] at h
  | f + 1, [], out, met, col, r, h => by simp only [lay, Option.some.injEq] at h; subst h; rfl
  | f + 1, ⟨.leaf p, n, ind⟩ :: rest, out, met, col, r, h => by
    simp only [lay] at h
    split at h
    · exact lay_metlen f _ _ _ _ _ h
    · split at h
      · exact lay_metlen f _ _ _ _ _ h
      · split at h
        · exact lay_metlen f _ _ _ _ _ h
        · exact lay_metlen f _ _ _ _ _ h
  | f + 1, ⟨.bin p x y, n, ind⟩ :: rest, out, met, col, r, h => by
    simp only [lay] at h
    split at h
    · exact lay_metlen f _ _ _ _ _ h
    · exact lay_metlen f _ _ _ _ _ h
  | f + 1, ⟨.un p x, n, ind⟩ :: rest, out, met, col, r, h => by
    simp only [lay] at h
    split at h
    · exact lay_metlen f _ _ _ _ _ h
    · cases hx : flatT x [] with
      | none =>
        rw [hx] at h
        have := lay_metlen f _ _ _ _ _ h
        simpa using this
      | some text =>
        rw [hx] at h
        simp only at h
        split at h
        · have := lay_metlen f _ _ _ _ _ h
          rw [markF_len] at this
          exact this
        · have := lay_metlen f _ _ _ _ _ h
          simpa using this

theorem lay_again {width w2 : Int} : ∀ (f : Nat) (its : List Item) (out met : List Int) (col col2 : Int) (r : List Int × List Int), OrdI' its → (∀ s ∈ its, KOk s.T) → (∀ s ∈ its, s.n + cntG s.T ≤ met.length) → lay width none f its out met col = some r → lay w2 (some r.2) f its out met col2 = some r
  | 0, _, _, _, _, _, _, _, _, _, h => by simp [lay] at h
  | f + 1, [], out, met, col, col2, r, _, _, _, h => by simpa only [lay] using h
  | f + 1, ⟨.leaf p, n, ind⟩ :: rest, out, met, col, col2, r, ho, hk, hl, h => by
    have hk' : ∀ s ∈ rest, KOk s.T := fun s hs => hk s (List.mem_cons_of_mem _ hs)
    have hl' : ∀ s ∈ rest, s.n + cntG s.T ≤ met.length := fun s hs => hl s (List.mem_cons_of_mem _ hs)
    simp only [lay] at h ⊢
    split at h
    · rename_i c1; rw [if_pos c1]; exact lay_again f _ _ _ _ _ _ ho.2 hk' hl' h
    · rename_i c1; rw [if_neg c1]
      split at h
      · rename_i c2; rw [if_pos c2]; exact lay_again f _ _ _ _ _ _ ho.2 hk' hl' h
      · rename_i c2; rw [if_neg c2]
        split at h
        · rename_i c3; rw [if_pos c3]; exact lay_again f _ _ _ _ _ _ ho.2 hk' hl' h
        · rename_i c3; rw [if_neg c3]; exact lay_again f _ _ _ _ _ _ ho.2 hk' hl' h
  | f + 1, ⟨.bin p x y, n, ind⟩ :: rest, out, met, col, col2, r, ho, hk, hl, h => by
    have hk0 : KOk (.bin p x y) := hk ⟨.bin p x y, n, ind⟩ (by simp)
    have hl0 := hl ⟨.bin p x y, n, ind⟩ (by simp)
    have hk' : ∀ s ∈ rest, KOk s.T := fun s hs => hk s (List.mem_cons_of_mem _ hs)
    have hl' : ∀ s ∈ rest, s.n + cntG s.T ≤ met.length := fun s hs => hl s (List.mem_cons_of_mem _ hs)
    simp only [cntG] at hl0
    have ho1 : ∀ s ∈ rest, n + (cntG x + cntG y) ≤ s.n := ho.1
    simp only [lay] at h ⊢
    split at h
    · rename_i c1
      rw [if_pos c1]
      refine lay_again f _ _ _ _ _ _ ⟨fun s hs => ?_, fun s hs => ?_, ho.2⟩ (fun s hs => ?_) (fun s hs => ?_) h
      · rcases List.mem_cons.1 hs with rfl | hs
        · exact Nat.le_refl _
        · have := ho1 s hs; simp only; omega
      · have := ho1 s hs; simp only; omega
      · rcases List.mem_cons.1 hs with rfl | hs
        · exact hk0.2.1
        · rcases List.mem_cons.1 hs with rfl | hs
          · exact hk0.2.2
          · exact hk' s hs
      · rcases List.mem_cons.1 hs with rfl | hs
        · simp only; omega
        · rcases List.mem_cons.1 hs with rfl | hs
          · simp only; omega
          · exact hl' s hs
    · rename_i c1
      rw [if_neg c1]
      refine lay_again f _ _ _ _ _ _ ⟨fun s hs => ?_, ho.2⟩ (fun s hs => ?_) (fun s hs => ?_) h
      · have := ho1 s hs; simp only; omega
      · rcases List.mem_cons.1 hs with rfl | hs
        · exact hk0.2.1
        · exact hk' s hs
      · rcases List.mem_cons.1 hs with rfl | hs
        · simp only; omega
        · exact hl' s hs
  | f + 1, ⟨.un p x, n, ind⟩ :: rest, out, met, col, col2, r, ho, hk, hl, h => by
    have hk0 : KOk (.un p x) := hk ⟨.un p x, n, ind⟩ (by simp)
    have hl0 := hl ⟨.un p x, n, ind⟩ (by simp)
    have hk' : ∀ s ∈ rest, KOk s.T := fun s hs => hk s (List.mem_cons_of_mem _ hs)
    have hl' : ∀ s ∈ rest, s.n + cntG s.T ≤ met.length := fun s hs => hl s (List.mem_cons_of_mem _ hs)
    have ho1 : ∀ s ∈ rest, n + (cntG x + (if p.k = 8 then 1 else 0)) ≤ s.n := ho.1
    have hkx : ∀ i : Int, ∀ s ∈ (⟨x, n, i⟩ : Item) :: rest, KOk s.T := fun i s hs => by
      rcases List.mem_cons.1 hs with rfl | hs
      · exact hk0.2
      · exact hk' s hs
    have hox : ∀ i : Int, OrdI' ((⟨x, n, i⟩ : Item) :: rest) := fun i => ⟨fun s hs => by have := ho1 s hs; simp only; split at this <;> omega, ho.2⟩
    simp only [cntG] at hl0
    simp only [lay] at h ⊢
    by_cases h7 : p.k = 7
    · rw [if_pos h7] at h ⊢
      refine lay_again f _ _ _ _ _ _ (hox _) (hkx _) (fun s hs => ?_) h
      rcases List.mem_cons.1 hs with rfl | hs
      · simp only; split at hl0 <;> omega
      · exact hl' s hs
    · have h8 : p.k = 8 := by have := hk0.1; omega
      rw [if_pos h8] at hl0
      have ho8 : ∀ s ∈ rest, n + (cntG x + 1) ≤ s.n := fun s hs => by have := ho1 s hs; rwa [if_pos h8] at this
      rw [if_neg h7] at h ⊢
      have hbrk : ∀ c, lay width none f (⟨x, n, ind⟩ :: rest) out (met.set (n + cntG x) 2) c = some r → r.2[n + cntG x]?.getD 0 = 2 ∧ lay w2 (some r.2) f (⟨x, n, ind⟩ :: rest) out (met.set (n + cntG x) 2) col2 = some r := fun c hh => by
        have hoff : OffI (n + cntG x) (⟨x, n, ind⟩ :: rest) := offI_cons (.inr (Nat.le_refl _)) (fun s hs => .inl (by have := ho8 s hs; omega))
        have e := lay_off f _ _ _ _ _ hoff (hkx _) hh
        refine ⟨by rw [e, List.getElem?_set_self (by omega)]; rfl, lay_again f _ _ _ _ _ _ (hox _) (hkx _) (fun s hs => ?_) hh⟩
        rw [List.length_set]
        rcases List.mem_cons.1 hs with rfl | hs
        · simp only; omega
        · exact hl' s hs
      cases hx : flatT x [] with
      | none =>
        rw [hx] at h
        obtain ⟨e1, e2⟩ := hbrk _ h
        rw [e1]
        simpa using e2
      | some text =>
        rw [hx] at h
        simp only at h
        split at h
        · have hoff : OffI (n + cntG x) rest := fun s hs => .inl (by have := ho8 s hs; omega)
          have e := lay_off f _ _ _ _ _ hoff hk' h
          have e1 : (markF (.un p x) n met)[n + cntG x]?.getD 0 = 1 := by
            simp only [markF, if_pos h8]
            rw [markF_off x n _ (.inr (Nat.le_refl _)), List.getElem?_set_self (by omega)]
            rfl
          rw [e, e1]
          simp only [if_true]
          refine lay_again f _ _ _ _ _ _ ho.2 hk' (fun s hs => ?_) h
          rw [markF_len]
          exact hl' s hs
        · obtain ⟨e1, e2⟩ := hbrk _ h
          rw [e1]
          simpa using e2

end Go.Proofs.YtgmjpdejfdldlaaDoor

