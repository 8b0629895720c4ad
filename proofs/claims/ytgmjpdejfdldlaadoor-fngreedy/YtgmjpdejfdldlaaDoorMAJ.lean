import Derived.RangeFuncNested
import Derived.RangeFuncBound
import Derived.RangeFuncCalls
import Derived.RangeFuncLeaves
import Derived.RangeFuncBox
import Derived.Shelf.Abstract
import Derived.Shelf.RegionOpen
import Derived.WalkKit
import Derived.OwnWalkIn
import Derived.TacticsInMore
import Derived.LoopNIn
import Derived.LoopIn
import Derived.Maps.AppendAt
import Derived.Test.YtgmjpdejfdldlaaDoorMAB
import Derived.Test.YtgmjpdejfdldlaaDoorMAD
import Derived.Test.YtgmjpdejfdldlaaDoorMAI
namespace Go.Proofs.YtgmjpdejfdldlaaDoor
open Go.RowKit

/-- The items as they lie in memory: the next one last. -/
def rowOf (its : List (Item × Nat)) : List (Nat × Int) := its.reverse.map fun x => (x.2, x.1.ind)
theorem rowOf_cons (x : Item × Nat) (its : List (Item × Nat)) : rowOf (x :: its) = rowOf its ++ [(x.2, x.1.ind)] := by simp [rowOf]
theorem rowOf_len (its : List (Item × Nat)) : (rowOf its).length = its.length := by simp [rowOf]
theorem rowOf_nil : rowOf [] = [] := rfl

def itT (its : List (Item × Nat)) : List Item := its.map (·.1)
theorem itT_cons (x : Item × Nat) (its : List (Item × Nat)) : itT (x :: its) = x.1 :: itT its := rfl
theorem trs_cons (x : Item) (its : List Item) : trs (x :: its) = x.T :: trs its := rfl
/-- The size of what is left. -/
def sI (its : List (Item × Nat)) : Nat := szs (trs (itT its))
theorem sI_cons (x : Item × Nat) (its : List (Item × Nat)) : sI (x :: its) = sz x.1.T + sI its := rfl
theorem sI_nil : sI [] = 0 := rfl
theorem sI_len (its : List (Item × Nat)) : its.length ≤ sI its := by
  have := length_szs (trs (itT its))
  simpa [trs, itT, sI] using this

/-- The measure. -/
def muS (st : List Int) (its : List (Item × Nat)) : Nat := wts st (its.map (·.2))
theorem wts_rev (st : List Int) : ∀ (l : List Nat), wts st l.reverse = wts st l
  | [] => rfl
  | x :: l => by rw [List.reverse_cons, wts_append, wts_rev st l]; simp [wts]; omega
theorem mu_tos {B : Nat} {w : World} {v : Value} {its : List (Item × Nat)} (st : List Int) (h : OwT B w v (rowOf its)) : wts st (tos w v) = muS st its := by
  rw [h.tos]
  unfold rowOf muS
  rw [List.map_map, ← wts_rev st (its.map (·.2)), ← List.map_reverse]
  congr 1
theorem muS_cons (st : List Int) (x : Item × Nat) (its : List (Item × Nat)) : muS st (x :: its) = wtS st x.2 + muS st its := rfl

structure LInv (doc : List Pc) (st : List Int) (gn : Nat) (its : List (Item × Nat)) (out met : List Int) (col : Int) : Prop where
  fit : ∀ x ∈ its, FitI doc st x.1 x.2
  tot : sI its ≤ 140000
  ml : met.length = gn
  lo : -(140000 - (sI its : Int)) ≤ col
  hi : col ≤ 4000 + (140000 - (sI its : Int))
  ol : out.length + 4001 * sI its ≤ 4001 * 140000

/-- The layout, with fuel enough. -/
def layL (width : Int) (gs : Option (List Int)) (its : List Item) (out met : List Int) (col : Int) : Option (List Int × List Int) := lay width gs (szs (trs its) + 1) its out met col

theorem layL_fuel {width : Int} {gs : Option (List Int)} {f : Nat} {its : List Item} {out met : List Int} {col : Int} (h : szs (trs its) < f) : lay width gs f its out met col = layL width gs its out met col :=
  lay_fuel width gs f _ its out met col h (by omega)

theorem layL_nil (width : Int) (gs : Option (List Int)) (out met : List Int) (col : Int) : layL width gs [] out met col = some (out, met) := by simp [layL, lay]

theorem layL_leaf (width : Int) (gs : Option (List Int)) (p : Pc) (n : Nat) (ind : Int) (rest : List Item) (out met : List Int) (col : Int) : layL width gs (⟨.leaf p, n, ind⟩ :: rest) out met col =
    if p.k = 1 then layL width gs rest (out ++ p.t) met (col + widthR p.t) else if p.k = 5 then layL width gs rest (out ++ [10]) met 0
    else if p.k = 2 ∨ p.k = 3 ∨ p.k = 4 then layL width gs rest (out ++ newLine ind) met ind else layL width gs rest out met col := by
  rw [layL, trs_cons]
  simp only [lay, szs, sz]
  have h : ∀ o m c, lay width gs (p.t.length + 1 + szs (trs rest)) rest o m c = layL width gs rest o m c := fun o m c => layL_fuel (by omega)
  simp only [h]

theorem layL_bin (width : Int) (gs : Option (List Int)) (p : Pc) (x y : Tr) (n : Nat) (ind : Int) (rest : List Item) (out met : List Int) (col : Int) : layL width gs (⟨.bin p x y, n, ind⟩ :: rest) out met col =
    if p.k = 6 then layL width gs (⟨x, n, ind⟩ :: ⟨y, n + cntG x, ind⟩ :: rest) out met col else layL width gs (⟨x, n, ind⟩ :: rest) out met col := by
  rw [layL, trs_cons]
  simp only [lay, szs, sz]
  have h1 : ∀ o m c, lay width gs (p.t.length + 1 + (sz x + sz y) + szs (trs rest)) (⟨x, n, ind⟩ :: ⟨y, n + cntG x, ind⟩ :: rest) o m c = layL width gs (⟨x, n, ind⟩ :: ⟨y, n + cntG x, ind⟩ :: rest) o m c :=
    fun o m c => layL_fuel (by simp only [trs_cons, szs]; omega)
  have h2 : ∀ o m c, lay width gs (p.t.length + 1 + (sz x + sz y) + szs (trs rest)) (⟨x, n, ind⟩ :: rest) o m c = layL width gs (⟨x, n, ind⟩ :: rest) o m c :=
    fun o m c => layL_fuel (by simp only [trs_cons, szs]; omega)
  simp only [h1, h2]

theorem layL_un (width : Int) (gs : Option (List Int)) (p : Pc) (x : Tr) (n : Nat) (ind : Int) (rest : List Item) (out met : List Int) (col : Int) : layL width gs (⟨.un p x, n, ind⟩ :: rest) out met col =
    if p.k = 7 then layL width gs (⟨x, n, ind + p.n⟩ :: rest) out met col
    else
      match gs with
      | none =>
        match flatT x [] with
        | some text =>
          if col + widthR text + behind (rest.map (·.T)) ≤ width then layL width gs rest (out ++ text) (markF (.un p x) n met) (col + widthR text)
          else layL width gs (⟨x, n, ind⟩ :: rest) out (met.set (n + cntG x) 2) col
        | none => layL width gs (⟨x, n, ind⟩ :: rest) out (met.set (n + cntG x) 2) col
      | some g =>
        if g[n + cntG x]?.getD 0 = 1 then
          match flatT x [] with
          | some text => layL width gs rest (out ++ text) (markF (.un p x) n met) (col + widthR text)
          | none => none
        else if g[n + cntG x]?.getD 0 = 2 then layL width gs (⟨x, n, ind⟩ :: rest) out (met.set (n + cntG x) 2) col
        else none := by
  rw [layL, trs_cons]
  simp only [lay, szs, sz]
  have h1 : ∀ i o m c, lay width gs (p.t.length + 1 + sz x + szs (trs rest)) (⟨x, n, i⟩ :: rest) o m c = layL width gs (⟨x, n, i⟩ :: rest) o m c :=
    fun i o m c => layL_fuel (by simp only [trs_cons, szs]; omega)
  have h2 : ∀ o m c, lay width gs (p.t.length + 1 + sz x + szs (trs rest)) rest o m c = layL width gs rest o m c :=
    fun o m c => layL_fuel (by omega)
  simp only [h1, h2]
  cases gs with
  | none => cases flatT x [] <;> rfl
  | some g => cases flatT x [] <;> rfl

section
variable {doc : List Pc} {st : List Int} {gn : Nat} {its : List (Item × Nat)} {out met : List Int} {col : Int} {n b : Nat} {ind : Int}

theorem LInv.pop {X : Tr} (h : LInv doc st gn ((⟨X, n, ind⟩, b) :: its) out met col) {o : List Int} {c : Int} (hs : 1 ≤ sz X) (ho : o.length ≤ out.length + 4001 * sz X) (h1 : (col - sz X ≤ c ∧ c ≤ col + sz X) ∨ (0 ≤ c ∧ c ≤ 4000)) : LInv doc st gn its o met c := by
  have a1 := h.tot; have a2 := h.lo; have a3 := h.hi; have a4 := h.ol
  rw [sI_cons] at a1 a2 a3 a4
  simp only at a1 a2 a3 a4
  exact ⟨fun x hx => h.fit x (List.mem_cons_of_mem _ hx), by omega, h.ml, by omega, by omega, by omega⟩

theorem LInv.turn {X : Tr} (h : LInv doc st gn ((⟨X, n, ind⟩, b) :: its) out met col) {xs : List (Item × Nat)} (hf : ∀ x ∈ xs, FitI doc st x.1 x.2) (hs : sI xs ≤ sz X) {m : List Int} (hm : m.length = met.length) : LInv doc st gn (xs ++ its) out m col := by
  have a1 := h.tot; have a2 := h.lo; have a3 := h.hi; have a4 := h.ol
  have e : sI (xs ++ its) = sI xs + sI its := by
    have := szs_append (trs (itT xs)) (trs (itT its))
    simpa [sI, trs, itT] using this
  rw [sI_cons] at a1 a2 a3 a4
  simp only at a1 a2 a3 a4
  refine ⟨?_, by omega, by rw [hm]; exact h.ml, by omega, by omega, by omega⟩
  intro x hx
  rcases List.mem_append.1 hx with hx | hx
  · exact hf x hx
  · exact h.fit x (List.mem_cons_of_mem _ hx)
end

theorem LInv.met {doc : List Pc} {st : List Int} {gn : Nat} {its : List (Item × Nat)} {out met m : List Int} {col : Int} (h : LInv doc st gn its out met col) (hm : m.length = met.length) : LInv doc st gn its out m col :=
  ⟨h.fit, h.tot, by rw [hm]; exact h.ml, h.lo, h.hi, h.ol⟩
theorem szs_rev : ∀ (l : List Tr), szs l.reverse = szs l
  | [] => rfl
  | x :: l => by rw [List.reverse_cons, szs_append, szs_rev l]; simp only [szs]; omega

theorem sz_pos : ∀ (T : Tr), 1 ≤ sz T
  | .leaf _ => by simp only [sz]; omega
  | .un _ _ => by simp only [sz]; omega
  | .bin _ _ _ => by simp only [sz]; omega

theorem mu_bin {doc : List Pc} {st : List Int} {p : Pc} {y z : Tr} {n m c : Nat} {ind : Int} (h : FitI doc st ⟨.bin p y z, n, ind⟩ (m + 2)) (hsc : st[m]? = some (c : Int)) : wtS st c + wtS st (m + 1) < wtS st (m + 2) := by
  obtain ⟨a0, hsg, _⟩ := h.seg
  have h1 := wt_seg hsg
  obtain ⟨c', m', hb', _, _, _, hx, hz⟩ := hsg
  have hm : m' = m + 1 := by omega
  subst hm
  have hl := hz.last
  rw [Nat.add_sub_cancel, hsc] at hl
  have hc : c = c' := by simp only [Option.some.injEq] at hl; omega
  subst hc
  have l1 := hx.lt
  have l2 := hz.lt
  rw [h1, wt_seg hx, wt_seg hz]
  omega
theorem mu_un {doc : List Pc} {st : List Int} {p : Pc} {y : Tr} {n m : Nat} {ind : Int} (h : FitI doc st ⟨.un p y, n, ind⟩ (m + 1)) : wtS st m < wtS st (m + 1) := by
  obtain ⟨a0, hsg, _⟩ := h.seg
  have h1 := wt_seg hsg
  obtain ⟨m', hb', _, _, _, hx⟩ := hsg
  have hm : m' = m := by omega
  subst hm
  have l1 := hx.lt
  rw [h1, wt_seg hx]
  omega

/-- A flat text is made of bytes. -/
theorem flatT_bys {doc : List Pc} {st : List Int} (hb : ∀ p ∈ doc, Bys p.t) : ∀ (T : Tr) (a b : Nat) (out o : List Int), Seg doc st T a b → Bys out → flatT T out = some o → Bys o
  | .leaf p, a, b, out, o, hs, ho, h => by
    obtain ⟨_, hp, _, _⟩ := hs
    have hm : p ∈ doc := List.mem_of_getElem? hp
    have hbp := hb p hm
    unfold flatT at h
    split at h
    · cases h; exact ho
    · split at h
      · cases h
        intro z hz
        rcases List.mem_append.1 hz with hz | hz
        · exact ho z hz
        · exact hbp z hz
      · split at h
        · cases h
          intro z hz
          rcases List.mem_append.1 hz with hz | hz
          · exact ho z hz
          · simp at hz; subst hz; omega
        · cases h
  | .un p x, a, b, out, o, hs, ho, h => by
    obtain ⟨m, _, _, _, _, hx⟩ := hs
    exact flatT_bys hb x a m out o hx ho h
  | .bin p x y, a, b, out, o, hs, ho, h => by
    obtain ⟨c, m, _, _, _, _, hx, hy⟩ := hs
    unfold flatT at h
    split at h
    · obtain ⟨o1, h1, h2⟩ := Option.bind_eq_some_iff.1 h
      exact flatT_bys hb y c m o1 o hy (flatT_bys hb x a c out o1 hx ho h1) h2
    · exact flatT_bys hb y c m out o hy ho h

end Go.Proofs.YtgmjpdejfdldlaaDoor

namespace Go.Proofs.YtgmjpdejfdldlaaDoor
open Go.RowKit

/-- What the iterator gives from s on, which begins at the offset k. -/
def seqP : Nat → List Int → Nat → List (Int × Int)
  | 0, _, _ => []
  | f + 1, s, k => if s = [] then [] else if fsize s = 0 then [((k : Int), -1)] else ((k : Int), lv s (fsize s)) :: seqP f (s.drop (fsize s)) (k + fsize s)
def seqR (zs : List Int) : List (Int × Int) := seqP zs.length zs 0

theorem seq_nil (f k : Nat) : seqP f [] k = [] := by cases f <;> simp [seqP]
theorem seq_go {f k : Nat} {s : List Int} (hs : s ≠ []) (h : fsize s ≠ 0) : seqP (f + 1) s k = ((k : Int), lv s (fsize s)) :: seqP f (s.drop (fsize s)) (k + fsize s) := by simp [seqP, hs, h]
theorem seq_bad {f k : Nat} {s : List Int} (hs : s ≠ []) (h : fsize s = 0) : seqP (f + 1) s k = [((k : Int), -1)] := by simp [seqP, hs, h]

theorem hit_pos {s : List Int} {n : Nat} (h : hit s n = true) : 0 ≤ lv s n := by
  simp only [hit, Bool.and_eq_true, decide_eq_true_eq] at h
  exact h.1
theorem lv_pos {s : List Int} (h : fsize s ≠ 0) : 0 ≤ lv s (fsize s) := by
  have hh : hit s (fsize s) = true := by
    unfold fsize at h ⊢
    split
    · assumption
    · split
      · assumption
      · split
        · assumption
        · split
          · assumption
          · simp_all
  exact hit_pos hh
theorem fp_pos {s : List Int} (h : fsize s ≠ 0) : 0 ≤ fpP s := by unfold fpP; rw [if_neg h]; exact lv_pos h

def MidS (zs : List Int) (pre : List (Int × Int)) (k : Nat) : Prop := k ≤ zs.length ∧ pre.length ≤ k ∧ ∃ f, zs.length - k ≤ f ∧ pre ++ seqP f (zs.drop k) k = seqR zs
theorem MidS.start (zs : List Int) : MidS zs [] 0 := ⟨Nat.zero_le _, Nat.le_refl _, zs.length, by omega, by simp [seqR]⟩
theorem MidS.step {zs : List Int} {pre : List (Int × Int)} {k : Nat} (h : MidS zs pre k) (hk : k < zs.length) (hf : fsize (zs.drop k) ≠ 0) :
    MidS zs (pre ++ [((k : Int), fpP (zs.drop k))]) (k + fsize (zs.drop k)) := by
  obtain ⟨h1, ha, f, h2, h3⟩ := h
  have hs : zs.drop k ≠ [] := by rw [ne_eq, List.drop_eq_nil_iff]; omega
  have hl := fsize_le (zs.drop k)
  rw [List.length_drop] at hl
  obtain ⟨f', rfl⟩ : ∃ f', f = f' + 1 := ⟨f - 1, by omega⟩
  rw [seq_go hs hf, List.drop_drop] at h3
  refine ⟨by omega, by simp only [List.length_append, List.length_singleton]; omega, f', by omega, ?_⟩
  rw [← h3]; simp [fpP, hf]
theorem MidS.bad {zs : List Int} {pre : List (Int × Int)} {k : Nat} (h : MidS zs pre k) (hk : k < zs.length) (hf : fsize (zs.drop k) = 0) : pre ++ [((k : Int), fpP (zs.drop k))] = seqR zs := by
  obtain ⟨h1, ha, f, h2, h3⟩ := h
  have hs : zs.drop k ≠ [] := by rw [ne_eq, List.drop_eq_nil_iff]; omega
  obtain ⟨f', rfl⟩ : ∃ f', f = f' + 1 := ⟨f - 1, by omega⟩
  rw [seq_bad hs hf] at h3
  rw [fp_none hf]; exact h3
theorem MidS.done {zs : List Int} {pre : List (Int × Int)} {k : Nat} (h : MidS zs pre k) (hk : ¬ k < zs.length) : pre = seqR zs := by
  obtain ⟨h1, ha, f, h2, h3⟩ := h
  rw [List.drop_eq_nil_of_le (by omega), seq_nil] at h3
  simpa using h3
theorem MidS.prefix {zs : List Int} {pre : List (Int × Int)} {k : Nat} (h : MidS zs pre k) : pre <+: seqR zs := by
  obtain ⟨h1, ha, f, h2, h3⟩ := h
  exact ⟨_, h3⟩

theorem seq_done (f : Nat) : ∀ (s : List Int) (k : Nat), (∀ x ∈ seqP f s k, x.2 ≠ -1) → err f s k = none ∧ (seqP f s k).map (·.2) = pts f s := by
  induction f with
  | zero => intro s k _; simp [seqP, err, pts]
  | succ f ih =>
    intro s k h
    by_cases hs : s = []
    · simp [seqP, err, pts, hs]
    · by_cases hf : fsize s = 0
      · rw [seq_bad hs hf] at h
        exact absurd rfl (h _ (List.mem_singleton.2 rfl))
      · rw [seq_go hs hf] at h ⊢
        have h' := ih (s.drop (fsize s)) (k + fsize s) (fun x hx => h x (List.mem_cons_of_mem _ hx))
        rw [err_go hs hf, pts_go hs hf]
        exact ⟨h'.1, by simp [h'.2]⟩
theorem seq_stop (f : Nat) : ∀ (s : List Int) (k : Nat) (q : List (Int × Int)) (x : Int × Int), q ++ [x] <+: seqP f s k → x.2 = -1 → ∃ m : Nat, err f s k = some m ∧ x.1 = (m : Int) := by
  induction f with
  | zero => intro s k q x h _; simp [seqP] at h
  | succ f ih =>
    intro s k q x h hx
    by_cases hs : s = []
    · rw [hs, seq_nil] at h; simp at h
    · by_cases hf : fsize s = 0
      · rw [seq_bad hs hf] at h
        refine ⟨k, err_bad hs hf, ?_⟩
        cases q with
        | nil => obtain ⟨t, ht⟩ := h; simp at ht; rw [ht.1]
        | cons y q => obtain ⟨t, ht⟩ := h; simp at ht
      · rw [seq_go hs hf] at h
        rw [err_go hs hf]
        cases q with
        | nil =>
          obtain ⟨t, ht⟩ := h
          simp at ht
          have := lv_pos hf
          rw [ht.1] at hx; simp at hx; omega
        | cons y q =>
          refine ih (s.drop (fsize s)) (k + fsize s) q x ?_ hx
          rw [List.cons_append, List.cons_prefix_cons] at h
          exact h.2
theorem decR_done {zs : List Int} (h : ∀ x ∈ seqR zs, x.2 ≠ -1) : decR zs = ((seqR zs).map (·.2), 0, 0) := by
  have h' := seq_done zs.length zs 0 h
  rw [decR_ok h'.1]; unfold seqR; rw [h'.2]
theorem decR_stop {zs : List Int} {q : List (Int × Int)} {x : Int × Int} (h : q ++ [x] <+: seqR zs) (hx : x.2 = -1) : decR zs = ([], 2, x.1) := by
  obtain ⟨m, h1, h2⟩ := seq_stop zs.length zs 0 q x h hx
  rw [decR_bad h1, h2]

end Go.Proofs.YtgmjpdejfdldlaaDoor

namespace Go.Proofs.YtgmjpdejfdldlaaDoor
open Go.RowKit Go.Shelf
attribute [local go_sem] Oper.semAt_some

/-- What a round that goes on keeps: whatever lay below n₀, and the block Bx. -/
def KpB (n₀ Bx : Nat) (W W' : World) : Prop := Below n₀ W W' ∧ W'.heap[Bx]? = W.heap[Bx]?
theorem kpB_t {n₀ Bx : Nat} {A B C : World} (h : KpB n₀ Bx A B) (k : KpB n₀ Bx B C) : KpB n₀ Bx A C := ⟨h.1.trans k.1, k.2.trans h.2⟩
theorem kpB_b {n₀ Bx : Nat} {w : World} (hn : n₀ ≤ w.heap.size) (hx : Bx < w.heap.size) (W : World) (l : Nat) (o o' : Obj) (hl : w.heap.size ≤ l) (h : W.heap[l]? = some o) (h1 : o.isCells = false) (h2 : o.isWalk = false) : KpB n₀ Bx W (W.putObj l o') :=
  ⟨belowK_b hn W l o o' hl h h1 h2, World.putObj_heap_other (by omega)⟩

set_option maxRecDepth 100000 in
set_option maxHeartbeats 2000000 in
theorem pointsOf1_in (n : Nat) (hn : 1 ≤ n) (l Bx n₀ : Nat) (v : Value) (zs : List Int) (hby : Bys zs) (hm : zs.length ≤ 4194304) (hs : Sl v zs.length) (J Jx : List (Int × Int) → World → Prop) (W : World)
    (hJ : AbidesFrom W.heap.size J)
    (hY : ∀ pre x W, J pre W → pre.length < zs.length → YieldAt Fence.wide (n - 1) Tryd.prog l #[.int .i64 x.1, .int .i32 x.2] W fun e W' =>
      (e = .returned (.bool true) ∧ J (pre ++ [x]) W' ∧ KpB n₀ Bx W W') ∨ (e = .returned (.bool false) ∧ Jx (pre ++ [x]) W'))
    (hBx : Boxed W Bx 22 v) (hn₀ : n₀ ≤ W.heap.size) (hv : RdB n₀ W v zs) (hT : Tab W) (hp : 0 < n₀) (h0 : J [] W) :
    CallsIn Fence.wide n Tryd.prog 81 #[.func (.yield l) #[] #[], .pointer (some ⟨Bx, 0, none⟩)] W fun e W' => (∃ v, e = .returned v) ∧
      ((∃ ys, ys = seqR zs ∧ J ys W') ∨ (∃ pre, pre <+: seqR zs ∧ Jx pre W')) := by
  obtain ⟨a, cap, rfl, hlc, hcm⟩ := hs
  unfold maxLen at hcm
  have hnot : ∀ (x : Bool) (w : World), (Op.unary .not (.bool x)).run Tryd.prog w = .ok (.bool (!x)) w := fun _ _ => rfl
  refine callsIn_of_wp Tryd.func81 rfl trivial ?_ rfl
  simp only [Tryd.ntmps81, List.size_toArray, List.length_cons, List.length_nil, Nat.reduceAdd, Nat.reduceSub, Array.replicate_succ, Array.replicate_zero, List.push_toArray, List.append_toArray, List.nil_append, List.cons_append]
  gi_wp2
  gi_loopw [3] (fun i wr => ∃ (k : Nat) (pre : List (Int × Int)), i = .int .i64 k ∧ MidS zs pre k ∧ J pre wr ∧ Boxed wr Bx 22 (.slice a zs.length cap) ∧ n₀ ≤ wr.heap.size ∧ RdB n₀ wr (.slice a zs.length cap) zs ∧ Tab wr)
    (fun i _ => zs.length - (intOf i).toNat)
  case atStart => exact ⟨0, [], rfl, MidS.start zs, h0, hBx, hn₀, hv, hT⟩
  case round =>
    obtain ⟨k, pre, rfl, hmid, hJs, hbx, hsz, hrd, htab⟩ := hrel
    have hc := hbx.cell
    have hkl := hmid.1
    have HM : Hid (MidS zs pre k) := hmid
    clear hmid
    by_cases hlt : k < zs.length
    · obtain ⟨a', cap', hve, hrr⟩ := hrd
      obtain ⟨b, off, ha', hbn, hcl⟩ := hrr (fun h => by simp [h] at hlt)
      have hae : a = some ⟨b, off, none⟩ := by simp at hve; rw [hve.1]; exact ha'
      subst hae
      obtain ⟨s, hs⟩ : ∃ s, s = zs.drop k := ⟨_, rfl⟩
      have hsl : s.length = zs.length - k := by rw [hs, List.length_drop]
      have hrs : RdB wr.heap.size wr (.slice (some ⟨b, off + k, none⟩) (zs.length - k) (cap - k)) s := by
        refine ⟨some ⟨b, off + k, none⟩, cap - k, by rw [hsl], fun _ => ⟨b, off + k, rfl, by omega, fun j hj => ?_⟩⟩
        rw [Nat.add_assoc, hcl (k + j) (by omega), hs, drop_at]
      have hbs : Bys s := fun z hz => hby z (by rw [hs] at hz; exact List.mem_of_mem_drop hz)
      have HR : Hid (RdB n₀ wr (.slice (some ⟨b, off, none⟩) zs.length cap) zs) := ⟨_, cap, rfl, fun _ => ⟨b, off, rfl, hbn, hcl⟩⟩
      have HS : Hid (s = zs.drop k) := hs
      have hck : ¬ cap = k := by omega
      have hfp := firstPoint_any _ s wr htab hrs hbs (by omega) (by omega)
      have HFP := hfp
      clear hve hrr ha' hcl hs hrs hbs hfp
      gi_wp2_with fail
      refine ⟨trivial, (callsIn_wide.2 HFP).mono ?_⟩
      rintro e W1 ⟨rfl, hb1⟩
      have g1 := grown_of_below hb1
      have hJ1 := hJ pre wr W1 none hJs g1 (fun r e => by cases e)
      have hbx1 := hbx.kept g1 (by simp)
      have HR1 : Hid (RdB n₀ W1 (.slice (some ⟨b, off, none⟩) zs.length cap) zs) := HR.out.below (hb1.mono hsz)
      have HT1 : Hid (Tab W1) := htab.keep g1
      have hsz1 : n₀ ≤ W1.heap.size := Nat.le_trans hsz g1.size
      have hpl := HM.out.2.1
      have hYt := hY pre ((k : Int), fpP s) W1 hJ1 (by omega)
      have HJ := hJ
      have HY := hY
      clear hJs hbx htab HFP hc hb1 g1 hJ1 HR hsz
      by_cases hf : fsize s = 0
      · have HB : Hid (pre ++ [((k : Int), fpP s)] = seqR zs) := by
          have h := HM.out.bad hlt (by rw [← HS.out]; exact hf)
          rw [← HS.out] at h
          exact h
        have hfe : (fpP s == -1) = true := by rw [fp_none hf]; rfl
        obtain ⟨fn, tmps, assign, body, hy, hR⟩ := hYt
        dsimp only at hy
        clear hf
        generalize fpP s = p at hy HB hfe hR
        gi_wp2
        refine hR.mono ?_
        rintro e W3 (⟨rfl, hJ3, hk3⟩ | ⟨rfl, hJx3⟩)
        · gi_wp2
          refine bodyPost_ret (results_none rfl _ _ _) rfl ?_
          exact ⟨⟨_, rfl⟩, .inl ⟨_, HB.out, hJ3⟩⟩
        · gi_wp2
          refine bodyPost_ret (results_none rfl _ _ _) rfl ?_
          exact ⟨⟨_, rfl⟩, .inr ⟨_, by rw [HB.out]; exact List.prefix_refl _, hJx3⟩⟩
      · have HB : Hid (MidS zs (pre ++ [((k : Int), fpP s)]) (k + fsize s)) := by
          have h := HM.out.step hlt (by rw [← HS.out]; exact hf)
          rw [← HS.out] at h
          exact h
        have hfe : (fpP s == -1) = false := by have := fp_pos hf; simp; omega
        have hkf := HB.out.1
        obtain ⟨fn, tmps, assign, body, hy, hR⟩ := hYt
        dsimp only at hy
        generalize fpP s = p at hy HB hfe hR
        generalize fsize s = m at HB hkf hf
        gi_wp2
        refine hR.mono ?_
        rintro e W3 (⟨rfl, hJ3, hk3⟩ | ⟨rfl, hJx3⟩)
        · gi_wp2
          go_roundw
          case rel => exact ⟨k + m, _, by go_num, HB.out, hJ3, hk3.2.trans hbx1, Nat.le_trans hsz1 hk3.1.size, HR1.out.below hk3.1, HT1.out.below hk3.1 hp⟩
          case measure => simp [intOf]; omega
        · gi_wp2
          refine bodyPost_ret (results_none rfl _ _ _) rfl ?_
          exact ⟨⟨_, rfl⟩, .inr ⟨_, HB.out.prefix, hJx3⟩⟩
    · gi_wp2
      go_end0
      exact ⟨⟨_, rfl⟩, .inl ⟨pre, HM.out.done hlt, hJs⟩⟩

set_option maxHeartbeats 400000 in
theorem pointsOf_in (n : Nat) (a : Option Addr) (len cap : Nat) (w : World) :
    CallsIn Fence.wide n Tryd.prog 79 #[.slice a len cap] w fun e w' => e = .returned (.func (.func 81) #[] #[.pointer (some ⟨w.heap.size, 0, none⟩)]) ∧ w.alloc (.cells #[.slice a len cap] 22) = w' := by
  refine callsIn_of_wp Tryd.func79 rfl trivial ?_ rfl
  simp only [Tryd.ntmps79, List.size_toArray, List.length_cons, List.length_nil, Nat.reduceAdd, Nat.reduceSub, Array.replicate_succ, Array.replicate_zero, List.push_toArray, List.append_toArray, List.nil_append, List.cons_append]
  gi_wp2
  go_ret
  exact ⟨rfl, rfl⟩

theorem pointsOf_stops (n : Nat) (hn : 1 ≤ n) (Bx n₀ : Nat) (v : Value) (zs : List Int) (w : World) (hby : Bys zs) (hm : zs.length ≤ 4194304) (hs : Sl v zs.length) (hBx : Boxed w Bx 22 v) (hn₀ : n₀ ≤ w.heap.size)
    (hv : RdB n₀ w v zs) (hT : Tab w) (hp : 0 < n₀) :
    SeqStopsK Fence.wide n Tryd.prog 81 #[.pointer (some ⟨Bx, 0, none⟩)] (fun x : Int × Int => #[Value.int .i64 x.1, Value.int .i32 x.2]) (KpB n₀ Bx) (fun ys => ys = seqR zs) (fun pre => pre <+: seqR zs) zs.length w := fun l J Jx W hW hJ _ hY h0 =>
  pointsOf1_in n hn l Bx n₀ v zs hby hm hs J Jx W hJ hY (hBx.kept (grown_of_below hW) (by simp)) (Nat.le_trans hn₀ hW.size) (hv.below (hW.mono hn₀)) (hT.below hW hT.pos) hp h0

end Go.Proofs.YtgmjpdejfdldlaaDoor

namespace Go.Proofs.YtgmjpdejfdldlaaDoor
open Go.RowKit Go.Shelf
attribute [local go_sem] Oper.semAt_some

theorem cell_new1 (W : World) (v : Value) (t : TypeId) : (W.alloc (.cells #[v] t)).cell? ⟨W.heap.size, 0, none⟩ = some v ∧ (W.alloc (.cells #[v] t)).frozen? ⟨W.heap.size, 0, none⟩ = false :=
  ⟨(Boxed.new W t v).cell, (Boxed.new W t v).frozen⟩
theorem cell_alloc1 {W : World} {a : Addr} {v : Value} (o : Obj) (h : W.cell? a = some v) : (W.alloc o).cell? a = some v := cell_kept h (World.grownBy_alloc W o none) (fun r e => by cases e)
theorem frozen_alloc1 {W : World} {a : Addr} {v : Value} (o : Obj) (h : W.cell? a = some v) (hf : W.frozen? a = false) : (W.alloc o).frozen? a = false := (frozen_kept h (World.grownBy_alloc W o none) (fun r e => by cases e)).trans hf

theorem width_done {zs : List Int} (h : ∀ x ∈ seqR zs, x.2 ≠ -1) : widthR zs = ((seqR zs).length : Int) := by
  unfold widthR; rw [decR_done h]; simp
theorem width_stop {zs : List Int} {q : List (Int × Int)} {x : Int × Int} (h : q ++ [x] <+: seqR zs) (hx : x.2 = -1) : widthR zs = -1 := by
  unfold widthR; rw [decR_stop h hx]; simp

set_option maxRecDepth 100000 in
set_option maxHeartbeats 2000000 in
theorem implTextWidth_in (n : Nat) (hn : 3 ≤ n) (v : Value) (zs : List Int) (w : World) (hv : RdB w.heap.size w v zs) (hby : Bys zs) (hm : zs.length ≤ 1048576) (hs : Sl v zs.length) (hT : Tab w) :
    CallsIn Fence.wide n Tryd.prog 74 #[v] w fun e w' => e = .returned (.int .i64 (widthR zs)) ∧ Below w.heap.size w w' := by
  have h1 : 1 ≤ n := by omega
  have hs' := hs
  obtain ⟨a, cap, rfl, hlc, hcm⟩ := hs'
  have hpos := hT.pos
  refine callsIn_of_wp_marks Tryd.func74 rfl trivial ?_ rfl
  simp only [Tryd.ntmps74, List.size_toArray, List.length_cons, List.length_nil, Nat.reduceAdd, Nat.reduceSub, Array.replicate_succ, Array.replicate_zero, List.push_toArray, List.append_toArray, List.nil_append, List.cons_append]
  gi_wp2_with fail
  refine ⟨trivial, (pointsOf_in (n - 1) _ _ _ _).mono ?_⟩
  rintro e w' ⟨rfl, rfl⟩
  gi_wp2_with fail
  have c0 := cell_new1 w (.int .i64 0) 3
  have c1 := cell_new1 (w.alloc (.cells #[.int .i64 0] 3)) (.int .i64 0) 3
  have bx := Boxed.new ((w.alloc (.cells #[.int .i64 0] 3)).alloc (.cells #[.int .i64 0] 3)) 22 (.slice a zs.length cap)
  simp only [World.size_alloc] at c1 bx
  have hB0 : Below w.heap.size w (((w.alloc (.cells #[.int .i64 0] 3)).alloc (.cells #[.int .i64 0] 3)).alloc (.cells #[.slice a zs.length cap] 22)) := (((Below.refl _ w).alloc (Nat.le_refl _) _).alloc (by simp) _).alloc (by simp; omega) _
  refine wpIn_rangeFunc_ownF rfl h1 (gf := 81) (lb := #[.pointer (some ⟨w.heap.size + 1 + 1, 0, none⟩)]) rfl trivial (enters_of Tryd.func81 (by kernel_rfl) rfl)
    (pointsOf_stops (n - 1) (by omega) (w.heap.size + 1 + 1) w.heap.size _ zs _ hby (by omega) hs bx (by simp; omega) (hv.below hB0) (hT.below hB0 hpos) hpos) kpB_t (kpB_b (by simp; omega) (by simp)) (Below.refl _ _) (fun _ => rfl)
    (fun (pre : List (Int × Int)) W => ((∀ x ∈ pre, x.2 ≠ -1) ∧ W.cell? ⟨w.heap.size + 1, 0, none⟩ = some (.int .i64 (pre.length : Int)) ∧ W.frozen? ⟨w.heap.size + 1, 0, none⟩ = false ∧ W.cell? ⟨w.heap.size, 0, none⟩ = some (.int .i64 0) ∧ W.frozen? ⟨w.heap.size, 0, none⟩ = false) ∧ Below w.heap.size w W)
    (fun c (pre : List (Int × Int)) W => (c = .ret ∧ (∃ (q : List (Int × Int)) (x : Int × Int), pre = q ++ [x] ∧ x.2 = -1) ∧ W.cell? ⟨w.heap.size, 0, none⟩ = some (.int .i64 (-1))) ∧ Below w.heap.size w W)
    (OwnFrom.and (Own.from (fun s A B row hs hg hr => ⟨hs.1, cell_kept hs.2.1 hg hr, (frozen_kept hs.2.1 hg hr).trans hs.2.2.1, cell_kept hs.2.2.2.1 hg hr, (frozen_kept hs.2.2.2.1 hg hr).trans hs.2.2.2.2⟩) _) (ownFrom_below (Nat.le_refl _) (by simp; omega)))
    (fun c => OwnFrom.and (Own.from (fun s A B row hs hg hr => ⟨hs.1, hs.2.1, cell_kept hs.2.2 hg hr⟩) _) (ownFrom_below (Nat.le_refl _) (by simp; omega)))
    ⟨⟨by simp, cell_alloc1 _ c1.1, frozen_alloc1 _ c1.1 c1.2, cell_alloc1 _ (cell_alloc1 _ c0.1), frozen_alloc1 _ (cell_alloc1 _ c0.1) (frozen_alloc1 _ c0.1 c0.2)⟩, hB0⟩
    (fun x => { tmps := #[.slice a zs.length cap, undef, .pointer (some ⟨w.heap.size, 0, none⟩), .pointer (some ⟨w.heap.size + 1, 0, none⟩), undef, .int .i32 x.2, .slice a zs.length cap, .func (.func 81) #[] #[.pointer (some ⟨w.heap.size + 1 + 1, 0, none⟩)], .int .i64 x.1, .int .i32 x.2, undef, undef, undef, undef, undef], defers := [] }) ?assign ?body ?done ?stop
  case assign =>
    intro l x W K hK
    gi_wp2
    exact hK
  case body =>
    rintro l pre x W ⟨⟨hall, hcw, hfw, hcr, hfr⟩, hB⟩ hlt
    gi_wp2
    · rename_i hx
      have hx2 : x.2 = -1 := by simpa using hx
      exact ⟨KeepsOthers.setCell _ _ _, ⟨rfl, ⟨pre, x, rfl, hx2⟩, World.cell?_setCell_same' _ _ _ (by rw [hcr]; rfl)⟩, hB.setCell (p := ⟨w.heap.size, 0, none⟩) (Nat.le_refl _) _⟩
    · rename_i hx
      have hx2 : x.2 ≠ -1 := by simpa using hx
      refine ⟨KeepsOthers.setCell _ _ _, ⟨(Below.refl w.heap.size W).setCell (p := ⟨w.heap.size + 1, 0, none⟩) (by simp) _, Below.heap_setCell _ _ _ _ (by simp)⟩, ⟨?_, ?_, ?_, ?_, ?_⟩, hB.setCell (p := ⟨w.heap.size + 1, 0, none⟩) (by simp) _⟩
      · intro y hy
        rcases List.mem_append.1 hy with h | h
        · exact hall y h
        · simp at h; subst h; exact hx2
      · rw [World.cell?_setCell_same' _ _ _ (by rw [hcw]; rfl)]; simp
      · rw [World.frozen?_setCell]; exact hfw
      · exact (World.cell?_setCell_other _ _ _ _ (by simp)).trans hcr
      · rw [World.frozen?_setCell]; exact hfr
  case done =>
    rintro D ys W hD rfl ⟨⟨hall, hcw, hfw, hcr, hfr⟩, hB⟩ hK
    have HW : Hid (widthR zs = ((seqR zs).length : Int)) := width_done hall
    gi_wp2
    have hK' := (KeepsOthers.setCell W ⟨w.heap.size, 0, none⟩ (.int .i64 ((seqR zs).length : Int))).same D _ hK rfl
    refine ⟨by simp, .inl ⟨_, _, rfl, run_takeDeferred hK', ?_⟩⟩
    have hc5 := cell_kept (World.cell?_setCell_same' W ⟨w.heap.size, 0, none⟩ (.int .i64 ((seqR zs).length : Int)) (by rw [hcr]; rfl)) (grownBy_putObj' _ D (.deferred none)) (fun r e => by cases e; exact ⟨_, hK', rfl⟩)
    refine ⟨.int .i64 ((seqR zs).length : Int), ?_, by rw [HW.out], (hB.setCell (p := ⟨w.heap.size, 0, none⟩) (Nat.le_refl _) _).trans (belowK_b (w := w) (Nat.le_refl _) _ D _ _ (by simp at hD; omega) hK' rfl rfl)⟩
    simp [results, Tryd.f74, go_sem, hc5]
  case stop =>
    rintro D c pre W hD hpre ⟨⟨rfl, ⟨q, x, hq, hx⟩, hcr⟩, hB⟩ hK
    have HW : Hid (widthR zs = -1) := width_stop (by rw [← hq]; exact hpre) hx
    gi_wp2
    refine ⟨by simp, .inl ⟨_, _, rfl, run_takeDeferred hK, ?_⟩⟩
    have hc5 := cell_kept hcr (grownBy_putObj' _ D (.deferred none)) (fun r e => by cases e; exact ⟨_, hK, rfl⟩)
    refine ⟨.int .i64 (-1), ?_, by rw [HW.out], hB.trans (belowK_b (w := w) (Nat.le_refl _) W D _ _ (by simp at hD; omega) hK rfl rfl)⟩
    simp [results, Tryd.f74, go_sem, hc5]

theorem implTextWidth_any (v : Value) (zs : List Int) (w : World) (hv : RdB w.heap.size w v zs) (hby : Bys zs) (hm : zs.length ≤ 1048576) (hs : Sl v zs.length) (hT : Tab w) :
    Calls Tryd.prog 74 #[v] w fun e w' => e = .returned (.int .i64 (widthR zs)) ∧ w.grownBy w' none :=
  (callsIn_wide.1 (implTextWidth_in 3 (Nat.le_refl _) v zs w hv hby hm hs hT)).mono fun _ _ h => ⟨h.1, grown_of_below h.2⟩

end Go.Proofs.YtgmjpdejfdldlaaDoor

