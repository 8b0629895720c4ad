import Derived.Test.YtbiiopiaglkicaaDoorMAW
import Derived.Test.YtbiiopiaglkicaaDoorMAY
namespace Go.Proofs.YtbiiopiaglkicaaDoor

/-- An item of the layout that ends at place b of the document. -/
structure FitI (doc : List Pc) (st : List Int) (it : Item) (b : Nat) : Prop where
  seg : ∃ a, Seg doc st it.T a b ∧ it.n = grp doc a
  ok : okN it.T
  lo : 0 ≤ it.ind
  hi : it.ind + nestT it.T ≤ 4000

theorem FitI.ind_le {doc : List Pc} {st : List Int} {it : Item} {b : Nat} (h : FitI doc st it b) : it.ind ≤ 4000 := by
  have := nestT_pos it.T h.ok; have := h.hi; omega

theorem fit_leaf {doc : List Pc} {st : List Int} {p : Pc} {n b : Nat} {ind : Int} (h : FitI doc st ⟨.leaf p, n, ind⟩ b) : ∃ m, b = m + 1 ∧ doc[m]? = some p ∧ ar p.k = 0 := by
  obtain ⟨a, ⟨hb, hp, har, _⟩, _⟩ := h.seg
  exact ⟨a, hb, hp, har⟩

theorem fit_un {doc : List Pc} {st : List Int} {p : Pc} {x : Tr} {n b : Nat} {ind : Int} (h : FitI doc st ⟨.un p x, n, ind⟩ b) :
    ∃ m, b = m + 1 ∧ doc[m]? = some p ∧ ar p.k = 1 ∧ 0 ≤ p.n ∧ FitI doc st ⟨x, n, ind + p.n⟩ m ∧ FitI doc st ⟨x, n, ind⟩ m ∧ grp doc m = n + cntG x := by
  obtain ⟨a, ⟨m, hb, hp, har, _, hx⟩, hn⟩ := h.seg
  have h1 := h.hi; have h2 := h.lo; have h3 := h.ok
  simp only [nestT, okN] at h1 h2 h3
  have h4 := nestT_pos x h3.2
  have hg := grp_seg hx
  simp only at hn
  exact ⟨m, hb, hp, har, h3.1, ⟨⟨a, hx, hn⟩, h3.2, by simp only; omega, by simp only; omega⟩, ⟨⟨a, hx, hn⟩, h3.2, h2, by simp only; omega⟩, by rw [hg, hn]⟩

theorem fit_bin {doc : List Pc} {st : List Int} {p : Pc} {x y : Tr} {n b : Nat} {ind : Int} (h : FitI doc st ⟨.bin p x y, n, ind⟩ b) :
    ∃ (c m : Nat), b = m + 2 ∧ doc[m + 1]? = some p ∧ ar p.k = 2 ∧ st[m]? = some (c : Int) ∧ c ≤ m ∧ FitI doc st ⟨x, n, ind⟩ c ∧ FitI doc st ⟨y, n + cntG x, ind⟩ (m + 1) := by
  obtain ⟨a, ⟨c, m0, hb, hp, har, _, hx, hy⟩, hn⟩ := h.seg
  have h1 := h.hi; have h2 := h.lo; have h3 := h.ok
  simp only [nestT, okN] at h1 h2 h3
  have hlt := hy.lt
  obtain ⟨m, rfl⟩ : ∃ m, m0 = m + 1 := ⟨m0 - 1, by omega⟩
  have hg := grp_seg hx
  have hl := hy.last
  simp only [Nat.add_sub_cancel] at hl
  simp only at hn
  exact ⟨c, m, hb, hp, har, hl, by omega, ⟨⟨a, hx, hn⟩, h3.1, h2, by simp only; omega⟩, ⟨⟨c, hy, by simp only; rw [hg, hn]⟩, h3.2, h2, by simp only; omega⟩⟩

/-- The trees of the items. -/
def trs (its : List Item) : List Tr := its.map (·.T)

theorem newLine_len (ind : Int) (h1 : ind ≤ 4000) : (newLine ind).length ≤ 4001 := by
  unfold newLine; simp; omega

/-- The layout of a stack whose size is below the fuel does not hang on the fuel. -/
theorem lay_fuel (width : Int) (given : Option (List Int)) : ∀ (f f' : Nat) (its : List Item) (out met : List Int) (col : Int), szs (trs its) < f → szs (trs its) < f' → lay width given f its out met col = lay width given f' its out met col
  | 0, _, _, _, _, _, h, _ => by omega
  | _ + 1, 0, _, _, _, _, _, h => by omega
  | f + 1, f' + 1, [], out, met, col, _, _ => by simp only [lay]
  | f + 1, f' + 1, ⟨.leaf p, n, ind⟩ :: rest, out, met, col, h1, h2 => by
    simp only [trs, List.map_cons, szs, sz] at h1 h2
    have hr : ∀ o m c, lay width given f rest o m c = lay width given f' rest o m c := fun o m c => lay_fuel width given f f' rest o m c (by unfold trs; omega) (by unfold trs; omega)
    simp only [lay, hr]
  | f + 1, f' + 1, ⟨.bin p x y, n, ind⟩ :: rest, out, met, col, h1, h2 => by
    simp only [trs, List.map_cons, szs, sz] at h1 h2
    have hr : ∀ o m c, lay width given f (⟨x, n, ind⟩ :: ⟨y, n + cntG x, ind⟩ :: rest) o m c = lay width given f' (⟨x, n, ind⟩ :: ⟨y, n + cntG x, ind⟩ :: rest) o m c :=
      fun o m c => lay_fuel width given f f' _ o m c (by simp only [trs, List.map_cons, szs]; omega) (by simp only [trs, List.map_cons, szs]; omega)
    have hr2 : ∀ o m c, lay width given f (⟨x, n, ind⟩ :: rest) o m c = lay width given f' (⟨x, n, ind⟩ :: rest) o m c :=
      fun o m c => lay_fuel width given f f' _ o m c (by simp only [trs, List.map_cons, szs]; omega) (by simp only [trs, List.map_cons, szs]; omega)
    simp only [lay, hr, hr2]
  | f + 1, f' + 1, ⟨.un p x, n, ind⟩ :: rest, out, met, col, h1, h2 => by
    simp only [trs, List.map_cons, szs, sz] at h1 h2
    have hr : ∀ o m c, lay width given f rest o m c = lay width given f' rest o m c := fun o m c => lay_fuel width given f f' rest o m c (by unfold trs; omega) (by unfold trs; omega)
    have hr2 : ∀ i o m c, lay width given f (⟨x, n, i⟩ :: rest) o m c = lay width given f' (⟨x, n, i⟩ :: rest) o m c :=
      fun i o m c => lay_fuel width given f f' _ o m c (by simp only [trs, List.map_cons, szs]; omega) (by simp only [trs, List.map_cons, szs]; omega)
    simp only [lay, hr, hr2]

end Go.Proofs.YtbiiopiaglkicaaDoor

namespace Go.Proofs.YtbiiopiaglkicaaDoor
open Go.RowKit

theorem infoIt : (Tryd.prog.info? 106).map (fun i => (i.zero, i.size, i.bytes)) = some (some (.agg #[.int .i64 0, .int .i64 0]), 2, 16) := by kernel_rfl

def cells2 : List (Nat × Int) → List Value
  | [] => []
  | x :: r => .int .i64 (x.1 : Int) :: .int .i64 x.2 :: cells2 r

theorem cells2_len : ∀ (its : List (Nat × Int)), (cells2 its).length = its.length * 2
  | [] => rfl
  | x :: r => by simp only [cells2, List.length_cons, cells2_len r]; omega

theorem cells2_snoc : ∀ (its : List (Nat × Int)) (x : Nat × Int), cells2 (its ++ [x]) = cells2 its ++ [.int .i64 (x.1 : Int), .int .i64 x.2]
  | [], x => rfl
  | y :: r, x => by simp only [List.cons_append, cells2, cells2_snoc r x]

theorem cells2_at : ∀ (its : List (Nat × Int)) (j : Nat) (x : Nat × Int), its[j]? = some x → (cells2 its)[j * 2]? = some (.int .i64 (x.1 : Int)) ∧ (cells2 its)[j * 2 + 1]? = some (.int .i64 x.2)
  | [], j, x, h => by simp at h
  | y :: r, 0, x, h => by
    simp only [List.getElem?_cons_zero, Option.some.injEq] at h
    subst h
    simp [cells2]
  | y :: r, j + 1, x, h => by
    rw [List.getElem?_cons_succ] at h
    have := cells2_at r j x h
    rw [show (j + 1) * 2 = j * 2 + 1 + 1 by omega, show j * 2 + 1 + 1 + 1 = (j * 2 + 1) + 1 + 1 by omega]
    simp only [cells2, List.getElem?_cons_succ]
    exact this

/-- A row of items of one's own. -/
def OwT (B : Nat) (w : World) (v : Value) (its : List (Nat × Int)) : Prop := w.ownsRow B 106 2 v its.length (cells2 its)

theorem OwT.later {B : Nat} {w w' : World} {v : Value} {its : List (Nat × Int)} (h : OwT B w v its) (hg : w.grownBy w' none) : OwT B w' v its :=
  World.ownsRow.kept h hg (by cases v.ownBlock <;> simp)

theorem OwT.rd {B : Nat} {w : World} {v : Value} {its : List (Nat × Int)} (h : OwT B w v its) : RdT w.heap.size w v its := by
  rcases h.2 with ⟨hv, hn⟩ | ⟨g, cap, cur, hv, hb, hg, hnc, hcm, hcs, ht⟩
  · refine ⟨none, 0, by rw [hv, hn], by omega, by unfold maxLen; omega, fun h0 => ?_⟩
    exact absurd (List.length_eq_zero_iff.1 hn) h0
  · have hlt := World.ownsRow.lt h g (by rw [hv]; rfl)
    refine ⟨_, cap, hv, hnc, hcm, fun _ => ⟨g, 0, rfl, hlt.2, fun j x hx => ?_⟩⟩
    have hj := (List.getElem?_eq_some_iff.1 hx).1
    obtain ⟨h1, h2⟩ := cells2_at its j x hx
    have h' : w.ownsRow B 106 2 (.slice (some ⟨g, 0, none⟩) its.length cap) its.length (cells2 its) := by rw [← hv]; exact h
    refine ⟨?_, ?_⟩
    · rw [Nat.zero_add, World.ownsRow.cellAt h' (j * 2) (by omega)]; exact h1
    · rw [Nat.zero_add, World.ownsRow.cellAt h' (j * 2 + 1) (by omega)]; exact h2

/-- The last item taken off. -/
theorem OwT.pop {B : Nat} {w : World} {g cap : Nat} {its : List (Nat × Int)} {x : Nat × Int} {n : Nat} (h : OwT B w (.slice (some ⟨g, 0, none⟩) n cap) (its ++ [x])) (hn : n = its.length + 1) :
    OwT B w (.slice (some ⟨g, 0, none⟩) its.length cap) its := by
  subst hn
  have h' : w.ownsRow B 106 2 (.slice (some ⟨g, 0, none⟩) (its.length + 1) cap) (its.length + 1) (cells2 (its ++ [x])) := by
    have := h
    unfold OwT at this
    rw [List.length_append, List.length_singleton] at this
    exact this
  have := row_cut h' (m := its.length) (by omega)
  unfold OwT
  rw [cells2_snoc, List.take_append_of_le_length (by rw [cells2_len]; omega), List.take_of_length_le (by rw [cells2_len]; omega)] at this
  exact this

/-- An item put on. -/
theorem own_item {B : Nat} {w w1 : World} {v v' : Value} {its : List (Nat × Int)} (x : Nat × Int) {o : Obj} (n : Nat) (hB : B ≤ w.heap.size)
    (hv : OwT B w v its) (hown' : w1.ownsRow B 106 2 v' n (cells2 its ++ [.int .i64 (x.1 : Int), .int .i64 x.2])) (hn : n = its.length + 1) (hgrow : (w.alloc o).grownBy w1 v.ownBlock) :
    OwT B w1 v' (its ++ [x]) ∧ Below B w w1 := by
  subst hn
  refine ⟨by unfold OwT; rw [cells2_snoc, List.length_append, List.length_singleton]; exact hown', ((Below.refl B w).alloc hB o).grown hgrow (by simp; omega) (fun k hk => (World.ownsRow.lt hv k hk).1)⟩

end Go.Proofs.YtbiiopiaglkicaaDoor

namespace Go.Proofs.YtbiiopiaglkicaaDoor
open Go.RowKit

/-- Where the items end, read off the memory: the measure of the layout's loop. -/
def tos (w : World) (v : Value) : List Nat :=
  match v with
  | .slice (some a) n _ => (List.range n).map fun j => match w.cell? ⟨a.block, a.off + j * 2, none⟩ with
    | some u => (intOf u).toNat
    | none => 0
  | _ => []

theorem tos_rd {B : Nat} {w : World} {v : Value} {its : List (Nat × Int)} (h : RdT B w v its) : tos w v = its.map (·.1) := by
  obtain ⟨a, cap, hv, h1, h2, hh⟩ := h
  subst hv
  by_cases h0 : its = []
  · subst h0
    cases a <;> simp [tos]
  · obtain ⟨b, off, ha, hb, hc⟩ := hh h0
    subst ha
    refine List.ext_getElem? fun j => ?_
    simp only [tos, List.getElem?_map]
    by_cases hj : j < its.length
    · rw [List.getElem?_range hj, List.getElem?_eq_getElem hj]
      have := (hc j its[j] (List.getElem?_eq_getElem hj)).1
      simp only [Option.map_some, this]
      simp [intOf]
    · rw [List.getElem?_eq_none (by simp; omega), List.getElem?_eq_none (by omega)]
      rfl

theorem OwT.tos {B : Nat} {w : World} {v : Value} {its : List (Nat × Int)} (h : OwT B w v its) : tos w v = its.map (·.1) := tos_rd h.rd

/-- How many elements the item that ends at b covers. -/
def wtS (st : List Int) (b : Nat) : Nat := b - (st[b - 1]?.getD 0).toNat
def wts (st : List Int) : List Nat → Nat
  | [] => 0
  | b :: r => wtS st b + wts st r

theorem wts_append (st : List Int) : ∀ (a b : List Nat), wts st (a ++ b) = wts st a + wts st b
  | [], b => by simp [wts]
  | x :: a, b => by simp only [List.cons_append, wts, wts_append st a b]; omega

theorem wt_seg {doc : List Pc} {st : List Int} {T : Tr} {a b : Nat} (h : Seg doc st T a b) : wtS st b = b - a := by
  unfold wtS; rw [h.last]; simp

end Go.Proofs.YtbiiopiaglkicaaDoor

namespace Go.Proofs.YtbiiopiaglkicaaDoor
open Go.RowKit

/-- The items as they lie in memory: the next one last. -/
def rowOf (its : List (Item × Nat)) : List (Nat × Int) := its.reverse.map fun x => (x.2, x.1.ind)
theorem rowOf_cons (x : Item × Nat) (its : List (Item × Nat)) : rowOf (x :: its) = rowOf its ++ [(x.2, x.1.ind)] := by simp [rowOf]
theorem rowOf_len (its : List (Item × Nat)) : (rowOf its).length = its.length := by simp [rowOf]
theorem rowOf_nil : rowOf [] = [] := rfl

def itT (its : List (Item × Nat)) : List Item := its.map (·.1)
theorem itT_cons (x : Item × Nat) (its : List (Item × Nat)) : itT (x :: its) = x.1 :: itT its := rfl
theorem trs_cons (x : Item) (its : List Item) : trs (x :: its) = x.T :: trs its := rfl
/-- The size of what is left. -/
def sI (its : List (Item × Nat)) : Nat := szs (trs (itT its))
theorem sI_cons (x : Item × Nat) (its : List (Item × Nat)) : sI (x :: its) = sz x.1.T + sI its := rfl
theorem sI_nil : sI [] = 0 := rfl
theorem sI_len (its : List (Item × Nat)) : its.length ≤ sI its := by
  have := length_szs (trs (itT its))
  simpa [trs, itT, sI] using this

/-- The measure. -/
def muS (st : List Int) (its : List (Item × Nat)) : Nat := wts st (its.map (·.2))
theorem wts_rev (st : List Int) : ∀ (l : List Nat), wts st l.reverse = wts st l
  | [] => rfl
  | x :: l => by rw [List.reverse_cons, wts_append, wts_rev st l]; simp [wts]; omega
theorem mu_tos {B : Nat} {w : World} {v : Value} {its : List (Item × Nat)} (st : List Int) (h : OwT B w v (rowOf its)) : wts st (tos w v) = muS st its := by
  rw [h.tos]
  unfold rowOf muS
  rw [List.map_map, ← wts_rev st (its.map (·.2)), ← List.map_reverse]
  congr 1
theorem muS_cons (st : List Int) (x : Item × Nat) (its : List (Item × Nat)) : muS st (x :: its) = wtS st x.2 + muS st its := rfl

structure LInv (doc : List Pc) (st : List Int) (gn : Nat) (its : List (Item × Nat)) (out met : List Int) (col : Int) : Prop where
  fit : ∀ x ∈ its, FitI doc st x.1 x.2
  tot : sI its ≤ 140000
  ml : met.length = gn
  lo : -(140000 - (sI its : Int)) ≤ col
  hi : col ≤ 4000 + (140000 - (sI its : Int))
  ol : out.length + 4001 * sI its ≤ 4001 * 140000

/-- The layout, with fuel enough. -/
def layL (width : Int) (gs : Option (List Int)) (its : List Item) (out met : List Int) (col : Int) : Option (List Int × List Int) := lay width gs (szs (trs its) + 1) its out met col

theorem layL_fuel {width : Int} {gs : Option (List Int)} {f : Nat} {its : List Item} {out met : List Int} {col : Int} (h : szs (trs its) < f) : lay width gs f its out met col = layL width gs its out met col :=
  lay_fuel width gs f _ its out met col h (by omega)

theorem layL_nil (width : Int) (gs : Option (List Int)) (out met : List Int) (col : Int) : layL width gs [] out met col = some (out, met) := by simp [layL, lay]

theorem layL_leaf (width : Int) (gs : Option (List Int)) (p : Pc) (n : Nat) (ind : Int) (rest : List Item) (out met : List Int) (col : Int) : layL width gs (⟨.leaf p, n, ind⟩ :: rest) out met col =
    if p.k = 1 then layL width gs rest (out ++ p.t) met (col + widthR p.t) else if p.k = 5 then layL width gs rest (out ++ [10]) met 0
    else if p.k = 2 ∨ p.k = 3 ∨ p.k = 4 then layL width gs rest (out ++ newLine ind) met ind else layL width gs rest out met col := by
  rw [layL, trs_cons]
  simp only [lay, szs, sz]
  have h : ∀ o m c, lay width gs (p.t.length + 1 + szs (trs rest)) rest o m c = layL width gs rest o m c := fun o m c => layL_fuel (by omega)
  simp only [h]

theorem layL_bin (width : Int) (gs : Option (List Int)) (p : Pc) (x y : Tr) (n : Nat) (ind : Int) (rest : List Item) (out met : List Int) (col : Int) : layL width gs (⟨.bin p x y, n, ind⟩ :: rest) out met col =
    if p.k = 6 then layL width gs (⟨x, n, ind⟩ :: ⟨y, n + cntG x, ind⟩ :: rest) out met col else layL width gs (⟨x, n, ind⟩ :: rest) out met col := by
  rw [layL, trs_cons]
  simp only [lay, szs, sz]
  have h1 : ∀ o m c, lay width gs (p.t.length + 1 + (sz x + sz y) + szs (trs rest)) (⟨x, n, ind⟩ :: ⟨y, n + cntG x, ind⟩ :: rest) o m c = layL width gs (⟨x, n, ind⟩ :: ⟨y, n + cntG x, ind⟩ :: rest) o m c :=
    fun o m c => layL_fuel (by simp only [trs_cons, szs]; omega)
  have h2 : ∀ o m c, lay width gs (p.t.length + 1 + (sz x + sz y) + szs (trs rest)) (⟨x, n, ind⟩ :: rest) o m c = layL width gs (⟨x, n, ind⟩ :: rest) o m c :=
    fun o m c => layL_fuel (by simp only [trs_cons, szs]; omega)
  simp only [h1, h2]

theorem layL_un (width : Int) (gs : Option (List Int)) (p : Pc) (x : Tr) (n : Nat) (ind : Int) (rest : List Item) (out met : List Int) (col : Int) : layL width gs (⟨.un p x, n, ind⟩ :: rest) out met col =
    if p.k = 7 then layL width gs (⟨x, n, ind + p.n⟩ :: rest) out met col
    else
      match gs with
      | none =>
        match flatT x [] with
        | some text =>
          if col + widthR text + behind (rest.map (·.T)) ≤ width then layL width gs rest (out ++ text) (markF (.un p x) n met) (col + widthR text)
          else layL width gs (⟨x, n, ind⟩ :: rest) out (met.set (n + cntG x) 2) col
        | none => layL width gs (⟨x, n, ind⟩ :: rest) out (met.set (n + cntG x) 2) col
      | some g =>
        if g[n + cntG x]?.getD 0 = 1 then
          match flatT x [] with
          | some text => layL width gs rest (out ++ text) (markF (.un p x) n met) (col + widthR text)
          | none => none
        else if g[n + cntG x]?.getD 0 = 2 then layL width gs (⟨x, n, ind⟩ :: rest) out (met.set (n + cntG x) 2) col
        else none := by
  rw [layL, trs_cons]
  simp only [lay, szs, sz]
  have h1 : ∀ i o m c, lay width gs (p.t.length + 1 + sz x + szs (trs rest)) (⟨x, n, i⟩ :: rest) o m c = layL width gs (⟨x, n, i⟩ :: rest) o m c :=
    fun i o m c => layL_fuel (by simp only [trs_cons, szs]; omega)
  have h2 : ∀ o m c, lay width gs (p.t.length + 1 + sz x + szs (trs rest)) rest o m c = layL width gs rest o m c :=
    fun o m c => layL_fuel (by omega)
  simp only [h1, h2]
  cases gs with
  | none => cases flatT x [] <;> rfl
  | some g => cases flatT x [] <;> rfl

section
variable {doc : List Pc} {st : List Int} {gn : Nat} {its : List (Item × Nat)} {out met : List Int} {col : Int} {n b : Nat} {ind : Int}

theorem LInv.pop {X : Tr} (h : LInv doc st gn ((⟨X, n, ind⟩, b) :: its) out met col) {o : List Int} {c : Int} (hs : 1 ≤ sz X) (ho : o.length ≤ out.length + 4001 * sz X) (h1 : (col - sz X ≤ c ∧ c ≤ col + sz X) ∨ (0 ≤ c ∧ c ≤ 4000)) : LInv doc st gn its o met c := by
  have a1 := h.tot; have a2 := h.lo; have a3 := h.hi; have a4 := h.ol
  rw [sI_cons] at a1 a2 a3 a4
  simp only at a1 a2 a3 a4
  exact ⟨fun x hx => h.fit x (List.mem_cons_of_mem _ hx), by omega, h.ml, by omega, by omega, by omega⟩

theorem LInv.turn {X : Tr} (h : LInv doc st gn ((⟨X, n, ind⟩, b) :: its) out met col) {xs : List (Item × Nat)} (hf : ∀ x ∈ xs, FitI doc st x.1 x.2) (hs : sI xs ≤ sz X) {m : List Int} (hm : m.length = met.length) : LInv doc st gn (xs ++ its) out m col := by
  have a1 := h.tot; have a2 := h.lo; have a3 := h.hi; have a4 := h.ol
  have e : sI (xs ++ its) = sI xs + sI its := by
    have := szs_append (trs (itT xs)) (trs (itT its))
    simpa [sI, trs, itT] using this
  rw [sI_cons] at a1 a2 a3 a4
  simp only at a1 a2 a3 a4
  refine ⟨?_, by omega, by rw [hm]; exact h.ml, by omega, by omega, by omega⟩
  intro x hx
  rcases List.mem_append.1 hx with hx | hx
  · exact hf x hx
  · exact h.fit x (List.mem_cons_of_mem _ hx)
end

theorem LInv.met {doc : List Pc} {st : List Int} {gn : Nat} {its : List (Item × Nat)} {out met m : List Int} {col : Int} (h : LInv doc st gn its out met col) (hm : m.length = met.length) : LInv doc st gn its out m col :=
  ⟨h.fit, h.tot, by rw [hm]; exact h.ml, h.lo, h.hi, h.ol⟩
theorem szs_rev : ∀ (l : List Tr), szs l.reverse = szs l
  | [] => rfl
  | x :: l => by rw [List.reverse_cons, szs_append, szs_rev l]; simp only [szs]; omega

theorem sz_pos : ∀ (T : Tr), 1 ≤ sz T
  | .leaf _ => by simp only [sz]; omega
  | .un _ _ => by simp only [sz]; omega
  | .bin _ _ _ => by simp only [sz]; omega

theorem mu_bin {doc : List Pc} {st : List Int} {p : Pc} {y z : Tr} {n m c : Nat} {ind : Int} (h : FitI doc st ⟨.bin p y z, n, ind⟩ (m + 2)) (hsc : st[m]? = some (c : Int)) : wtS st c + wtS st (m + 1) < wtS st (m + 2) := by
  obtain ⟨a0, hsg, _⟩ := h.seg
  have h1 := wt_seg hsg
  obtain ⟨c', m', hb', _, _, _, hx, hz⟩ := hsg
  have hm : m' = m + 1 := by omega
  subst hm
  have hl := hz.last
  rw [Nat.add_sub_cancel, hsc] at hl
  have hc : c = c' := by simp only [Option.some.injEq] at hl; omega
  subst hc
  have l1 := hx.lt
  have l2 := hz.lt
  rw [h1, wt_seg hx, wt_seg hz]
  omega
theorem mu_un {doc : List Pc} {st : List Int} {p : Pc} {y : Tr} {n m : Nat} {ind : Int} (h : FitI doc st ⟨.un p y, n, ind⟩ (m + 1)) : wtS st m < wtS st (m + 1) := by
  obtain ⟨a0, hsg, _⟩ := h.seg
  have h1 := wt_seg hsg
  obtain ⟨m', hb', _, _, _, hx⟩ := hsg
  have hm : m' = m := by omega
  subst hm
  have l1 := hx.lt
  rw [h1, wt_seg hx]
  omega

/-- A flat text is made of bytes. -/
theorem flatT_bys {doc : List Pc} {st : List Int} (hb : ∀ p ∈ doc, Bys p.t) : ∀ (T : Tr) (a b : Nat) (out o : List Int), Seg doc st T a b → Bys out → flatT T out = some o → Bys o
  | .leaf p, a, b, out, o, hs, ho, h => by
    obtain ⟨_, hp, _, _⟩ := hs
    have hm : p ∈ doc := List.mem_of_getElem? hp
    have hbp := hb p hm
    unfold flatT at h
    split at h
    · cases h; exact ho
    · split at h
      · cases h
        intro z hz
        rcases List.mem_append.1 hz with hz | hz
        · exact ho z hz
        · exact hbp z hz
      · split at h
        · cases h
          intro z hz
          rcases List.mem_append.1 hz with hz | hz
          · exact ho z hz
          · simp at hz; subst hz; omega
        · cases h
  | .un p x, a, b, out, o, hs, ho, h => by
    obtain ⟨m, _, _, _, _, hx⟩ := hs
    exact flatT_bys hb x a m out o hx ho h
  | .bin p x y, a, b, out, o, hs, ho, h => by
    obtain ⟨c, m, _, _, _, _, hx, hy⟩ := hs
    unfold flatT at h
    split at h
    · obtain ⟨o1, h1, h2⟩ := Option.bind_eq_some_iff.1 h
      exact flatT_bys hb y c m o1 o hy (flatT_bys hb x a c out o1 hx ho h1) h2
    · exact flatT_bys hb y c m out o hy ho h

end Go.Proofs.YtbiiopiaglkicaaDoor

