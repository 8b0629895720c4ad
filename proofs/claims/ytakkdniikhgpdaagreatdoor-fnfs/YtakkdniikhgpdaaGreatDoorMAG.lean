import Derived.Laws.BytesArg
import Derived.Laws.IdiomStrings
import Derived.Handy
import Derived.Deep.RegionWith
import Derived.Test.YtakkdniikhgpdaaGreatDoorMAA
namespace Go.Proofs.YtakkdniikhgpdaaGreatDoor
open Go.RowKit

/-- Bytes. -/
def Byt (zs : List Int) : Prop := ∀ z ∈ zs, 0 ≤ z ∧ z ≤ 255
theorem Byt.take {zs : List Int} (h : Byt zs) (n : Nat) : Byt (zs.take n) := fun z hz => h z (List.mem_of_mem_take hz)

/-- A file. -/
structure Fl where
  n : List Int
  d : List Int
  s : Int

/-- The order of names. -/
def ltB : List Int → List Int → Bool
  | _, [] => false
  | [], _ :: _ => true
  | a :: x, b :: y => decide (a < b) || (decide (a = b) && ltB x y)

theorem ltB_less : ∀ (xs ys : List Int), Byt xs → Byt ys → Op.bytesLess (xs.map fun n => UInt8.ofNat n.toNat) (ys.map fun n => UInt8.ofNat n.toNat) = ltB xs ys
  | xs, [], _, _ => by cases xs <;> rfl
  | [], _ :: _, _, _ => rfl
  | a :: x, b :: y, hx, hy => by
    have ha := hx a (by simp)
    have hb := hy b (by simp)
    have ih := ltB_less x y (fun z hz => hx z (by simp [hz])) (fun z hz => hy z (by simp [hz]))
    have h1 : (UInt8.ofNat a.toNat < UInt8.ofNat b.toNat) ↔ a < b := by
      rw [UInt8.lt_iff_toNat_lt]
      simp only [UInt8.toNat_ofNat']
      omega
    have h2 : (UInt8.ofNat a.toNat = UInt8.ofNat b.toNat) ↔ a = b := by
      rw [← UInt8.toNat_inj]
      simp only [UInt8.toNat_ofNat']
      omega
    simp only [List.map_cons, Op.bytesLess, ltB, ih]
    congr 1
    · exact decide_eq_decide.2 h1
    · congr 1
      exact decide_eq_decide.2 h2

def nameOK (n : List Int) : Bool := decide (1 ≤ n.length ∧ n.length ≤ 100)
def okF (f : Fl) : Bool := nameOK f.n && decide (0 ≤ f.s ∧ f.s ≤ (f.d.length : Int))
/-- The file at a place is in order, and behind the one before it. -/
def okAt (fs : List Fl) (i : Nat) : Bool :=
  match fs[i]? with
  | none => false
  | some f => okF f && (match i with
    | 0 => true
    | j + 1 => match fs[j]? with
      | none => false
      | some e => ltB e.n f.n)
def validF (fs : List Fl) : Bool := decide (fs.length ≤ 50) && (List.range fs.length).all (okAt fs)

theorem valid_long {fs : List Fl} (h : 50 < fs.length) : validF fs = false := by simp [validF]; omega
theorem valid_all {fs : List Fl} (h : fs.length ≤ 50) (ha : (List.range fs.length).all (okAt fs) = true) : validF fs = true := by unfold validF; rw [ha]; simp [h]
theorem valid_not {fs : List Fl} (k : Nat) (hk : k < fs.length) (ha : okAt fs k = false) : validF fs = false := by
  have : (List.range fs.length).all (okAt fs) = false := by
    rw [List.all_eq_false]
    exact ⟨k, by simpa using hk, by rw [ha]; simp⟩
  simp [validF, this]
theorem all_rangeS {fs : List Fl} {k : Nat} (h : (List.range k).all (okAt fs) = true) (ha : okAt fs k = true) : (List.range (k + 1)).all (okAt fs) = true := by
  rw [List.range_succ, List.all_append, h]; simp [ha]
theorem okAt_zero {fs : List Fl} (h : 0 < fs.length) : okAt fs 0 = okF fs[0] := by unfold okAt; simp [h]
theorem okAt_succ {fs : List Fl} {j : Nat} (h : j + 1 < fs.length) : okAt fs (j + 1) = (okF fs[j + 1] && ltB (fs[j]'(by omega)).n fs[j + 1].n) := by
  unfold okAt; simp [h, show j < fs.length by omega]

/-- The file with a name. -/
def findF (fs : List Fl) (n : List Int) : Option Fl := fs.find? fun f => decide (f.n = n)
def withoutF (fs : List Fl) (n : List Int) : List Fl := fs.filter fun f => decide (f.n ≠ n)
def insF (f : Fl) : List Fl → List Fl
  | [] => [f]
  | r :: rs => if ltB r.n f.n || decide (r.n = f.n) then r :: insF f rs else f :: r :: rs
def withF (fs : List Fl) (f : Fl) : List Fl := insF f (withoutF fs f.n)
def crashed (keep : Int) (f : Fl) : Fl :=
  if (f.d.length : Int) - f.s > keep then ⟨f.n, f.d.take (f.s + keep).toNat, f.s + keep⟩ else ⟨f.n, f.d, f.d.length⟩
def crashF (keep : Int) (fs : List Fl) : List Fl := fs.map (crashed keep)

theorem insF_length (f : Fl) : ∀ rs, (insF f rs).length = rs.length + 1
  | [] => rfl
  | r :: rs => by unfold insF; split <;> simp [insF_length f rs]
theorem insF_mem (f : Fl) : ∀ rs x, x ∈ insF f rs → x = f ∨ x ∈ rs
  | [], x, h => by simp [insF] at h; exact .inl h
  | r :: rs, x, h => by
    unfold insF at h
    split at h
    · simp only [List.mem_cons] at h
      rcases h with h | h
      · exact .inr (by simp [h])
      · rcases insF_mem f rs x h with h | h
        · exact .inl h
        · exact .inr (by simp [h])
    · simp only [List.mem_cons] at h
      rcases h with h | h | h
      · exact .inl h
      · exact .inr (by simp [h])
      · exact .inr (by simp [h])
theorem without_len (fs : List Fl) (n : List Int) : (withoutF fs n).length ≤ fs.length := List.length_filter_le _ _
theorem without_mem {fs : List Fl} {n : List Int} {x : Fl} (h : x ∈ withoutF fs n) : x ∈ fs := (List.mem_filter.1 h).1
theorem without_take (fs : List Fl) (n : List Int) (k : Nat) (hk : k < fs.length) : withoutF (fs.take (k + 1)) n = if fs[k].n = n then withoutF (fs.take k) n else withoutF (fs.take k) n ++ [fs[k]] := by
  rw [List.take_add_one, List.getElem?_eq_getElem hk]
  unfold withoutF
  rw [List.filter_append]
  by_cases h : fs[k].n = n
  · simp [h]
  · simp [h]
theorem find_yes {fs : List Fl} {n : List Int} (k : Nat) (hk : k < fs.length) (hb : ∀ j (hj : j < k), (fs[j]'(by omega)).n ≠ n) (h : fs[k].n = n) : findF fs n = some fs[k] := by
  unfold findF
  rw [List.find?_eq_some_iff_getElem]
  exact ⟨by simp [h], k, hk, rfl, fun j hj => by simpa using hb j hj⟩
theorem find_no {fs : List Fl} {n : List Int} (hb : ∀ j (hj : j < fs.length), fs[j].n ≠ n) : findF fs n = none := by
  unfold findF
  rw [List.find?_eq_none]
  intro x hx
  obtain ⟨j, hj, rfl⟩ := List.getElem_of_mem hx
  simpa using hb j hj
theorem find_mem {fs : List Fl} {n : List Int} {f : Fl} (h : findF fs n = some f) : f ∈ fs ∧ f.n = n := by
  unfold findF at h
  exact ⟨List.mem_of_find?_eq_some h, by simpa using List.find?_some h⟩

theorem ins_pass (f : Fl) : ∀ (rest : List Fl) (k : Nat), k ≤ rest.length → (∀ j (_ : j < k) (hl : j < rest.length), (ltB rest[j].n f.n || decide (rest[j].n = f.n)) = true) → insF f rest = rest.take k ++ insF f (rest.drop k)
  | _, 0, _, _ => by simp
  | [], k + 1, h, _ => by simp at h
  | r :: rs, k + 1, h, hb => by
    have h0 := hb 0 (by omega) (by simp)
    simp only [List.getElem_cons_zero] at h0
    rw [insF, if_pos h0, ins_pass f rs k (by simpa using h) (fun j hj hl => by have := hb (j + 1) (by omega) (by simpa using hl); simpa using this)]
    simp
end Go.Proofs.YtakkdniikhgpdaaGreatDoor

namespace Go.Proofs.YtakkdniikhgpdaaGreatDoor
open Go.RowKit

theorem Rd.wideF {q : IntKind} {B B' : Nat} {w : World} {v : Value} {zs : List Int} (h : Rd q B w v zs) (hB : B ≤ B') : Rd q B' w v zs := by
  obtain ⟨a, cap, hv, hr⟩ := h
  refine ⟨a, cap, hv, fun h0 => ?_⟩
  obtain ⟨b, off, ha, hb, hc⟩ := hr h0
  exact ⟨b, off, ha, by omega, hc⟩

/-- One file lies at block b from cell o on; its Name's value is x.1, its Data's x.2. -/
structure FlAt (B : Nat) (w : World) (b o : Nat) (p : Fl) (x : Value × Value) : Prop where
  n : w.cell? ⟨b, o, none⟩ = some x.1
  d : w.cell? ⟨b, o + 1, none⟩ = some x.2
  s : w.cell? ⟨b, o + 2, none⟩ = some (.int .i64 p.s)
  rn : RdB B w x.1 p.n
  sn : Sl x.1 p.n.length
  rd : RdB B w x.2 p.d
  sd : Sl x.2 p.d.length

/-- The slice value v reads as the files fs; all lies below block B. -/
def RdF (B : Nat) (w : World) (v : Value) (fs : List Fl) : Prop :=
  ∃ a cap, v = .slice a fs.length cap ∧ fs.length ≤ cap ∧ cap ≤ maxLen ∧ (fs ≠ [] → ∃ b off, a = some ⟨b, off, none⟩ ∧ b < B ∧ ∀ j p, fs[j]? = some p → ∃ x, FlAt B w b (off + j * 3) p x)

theorem FlAt.beside {B : Nat} {w w' : World} {b o : Nat} {p : Fl} {x : Value × Value} {row : Option Nat} (h : FlAt B w b o p x) (hb : b < B) (hg : w.grownBy w' row) (hr : ∀ k, row = some k → B ≤ k) : FlAt B w' b o p x :=
  have hn : some b ≠ row := fun e => by have := hr b e.symm; omega
  ⟨hg.cell h.n hn, hg.cell h.d hn, hg.cell h.s hn, h.rn.beside hg hr, h.sn, h.rd.beside hg hr, h.sd⟩
theorem RdF.beside {B : Nat} {w w' : World} {v : Value} {fs : List Fl} {row : Option Nat} (h : RdF B w v fs) (hg : w.grownBy w' row) (hr : ∀ k, row = some k → B ≤ k) : RdF B w' v fs := by
  obtain ⟨a, cap, hv, h1, h2, hh⟩ := h
  refine ⟨a, cap, hv, h1, h2, fun h0 => ?_⟩
  obtain ⟨b, off, ha, hb, hc⟩ := hh h0
  refine ⟨b, off, ha, hb, fun j p hp => ?_⟩
  obtain ⟨x, ht⟩ := hc j p hp
  exact ⟨x, ht.beside hb hg hr⟩
theorem RdF.keep {B : Nat} {w w' : World} {v : Value} {fs : List Fl} (h : RdF B w v fs) (hg : w.grownBy w' none) : RdF B w' v fs := h.beside hg (fun _ e => by cases e)
theorem RdF.wide {B B' : Nat} {w : World} {v : Value} {fs : List Fl} (h : RdF B w v fs) (hB : B ≤ B') : RdF B' w v fs := by
  obtain ⟨a, cap, hv, h1, h2, hh⟩ := h
  refine ⟨a, cap, hv, h1, h2, fun h0 => ?_⟩
  obtain ⟨b, off, ha, hb, hc⟩ := hh h0
  refine ⟨b, off, ha, by omega, fun j p hp => ?_⟩
  obtain ⟨x, ht⟩ := hc j p hp
  exact ⟨x, ⟨ht.n, ht.d, ht.s, ht.rn.wideF hB, ht.sn, ht.rd.wideF hB, ht.sd⟩⟩
theorem RdF.now {w w' : World} {v : Value} {fs : List Fl} (h : RdF w.heap.size w v fs) (hg : w.grownBy w' none) : RdF w'.heap.size w' v fs := (h.keep hg).wide hg.size
theorem RdF.at {B : Nat} {w : World} {v : Value} {fs : List Fl} (h : RdF B w v fs) (j : Nat) (hj : j < fs.length) :
    ∃ b off cap x, v = .slice (some ⟨b, off, none⟩) fs.length cap ∧ b < B ∧ FlAt B w b (off + j * 3) fs[j] x := by
  obtain ⟨a, cap, hv, h1, h2, hh⟩ := h
  obtain ⟨b, off, ha, hb, hc⟩ := hh (fun e => by rw [e] at hj; simp at hj)
  obtain ⟨x, ht⟩ := hc j fs[j] (by simp [hj])
  exact ⟨b, off, cap, x, by rw [hv, ha], hb, ht⟩
theorem RdF.sl {B : Nat} {w : World} {v : Value} {fs : List Fl} (h : RdF B w v fs) : Sl v fs.length := by
  obtain ⟨a, cap, hv, h1, h2, _⟩ := h
  exact ⟨a, cap, hv, h1, h2⟩
theorem RdF.belowB {B : Nat} {w w' : World} {v : Value} {fs : List Fl} (h : RdF B w v fs) (hb : Below B w w') : RdF B w' v fs := by
  obtain ⟨a, cap, hv, h1, h2, hh⟩ := h
  refine ⟨a, cap, hv, h1, h2, fun h0 => ?_⟩
  obtain ⟨b, off, ha, hlt, hc⟩ := hh h0
  have hcell : ∀ (b o : Nat), b < B → w'.cell? ⟨b, o, none⟩ = w.cell? ⟨b, o, none⟩ := fun b o h => World.cell?_of_block (hb.block b h)
  have hrd : ∀ (v : Value) (zs : List Int), RdB B w v zs → RdB B w' v zs := fun v zs hv => by
    obtain ⟨a, cap, e, hr⟩ := hv
    refine ⟨a, cap, e, fun h0 => ?_⟩
    obtain ⟨b, off, ha, hb2, hc⟩ := hr h0
    exact ⟨b, off, ha, hb2, fun j hj => (hcell b _ hb2).trans (hc j hj)⟩
  refine ⟨b, off, ha, hlt, fun j p hp => ?_⟩
  obtain ⟨x, ht⟩ := hc j p hp
  exact ⟨x, ⟨(hcell b _ hlt).trans ht.n, (hcell b _ hlt).trans ht.d, (hcell b _ hlt).trans ht.s, hrd _ _ ht.rn, ht.sn, hrd _ _ ht.rd, ht.sd⟩⟩

/-- The cells of a row of files. -/
def cellsF : List Fl → List (Value × Value) → List Value
  | p :: ps, x :: xs => x.1 :: x.2 :: .int .i64 p.s :: cellsF ps xs
  | _, _ => []
theorem cellsF_len : ∀ (ps : List Fl) (xs : List (Value × Value)), xs.length = ps.length → (cellsF ps xs).length = ps.length * 3
  | [], [], _ => rfl
  | _ :: ps, _ :: xs, h => by simp only [List.length_cons, Nat.add_right_cancel_iff] at h; simp only [cellsF, List.length_cons, cellsF_len ps xs h]; omega
  | [], _ :: _, h => by simp at h
  | _ :: _, [], h => by simp at h
theorem cellsF_snoc : ∀ (ps : List Fl) (xs : List (Value × Value)) (p : Fl) (x : Value × Value), xs.length = ps.length → cellsF (ps ++ [p]) (xs ++ [x]) = cellsF ps xs ++ [x.1, x.2, .int .i64 p.s]
  | [], [], _, _, _ => rfl
  | _ :: ps, _ :: xs, p, x, h => by simp only [List.length_cons, Nat.add_right_cancel_iff] at h; simp only [List.cons_append, cellsF, cellsF_snoc ps xs p x h]
  | [], _ :: _, _, _, h => by simp at h
  | _ :: _, [], _, _, h => by simp at h
theorem cellsF_at : ∀ (ps : List Fl) (xs : List (Value × Value)) (j : Nat) (p : Fl), xs.length = ps.length → ps[j]? = some p → ∃ x, xs[j]? = some x ∧ (cellsF ps xs)[j * 3]? = some x.1 ∧ (cellsF ps xs)[j * 3 + 1]? = some x.2 ∧ (cellsF ps xs)[j * 3 + 2]? = some (.int .i64 p.s)
  | p0 :: ps, x :: xs, 0, p, h, hp => by simp at hp; subst hp; exact ⟨x, rfl, rfl, rfl, rfl⟩
  | p0 :: ps, x :: xs, j + 1, p, h, hp => by
    simp only [List.length_cons, Nat.add_right_cancel_iff] at h
    obtain ⟨u, h1, h2, h3, h4⟩ := cellsF_at ps xs j p h (by simpa using hp)
    refine ⟨u, by simpa using h1, ?_, ?_, ?_⟩
    · rw [show (j + 1) * 3 = j * 3 + 3 by omega]; simpa [cellsF] using h2
    · rw [show (j + 1) * 3 + 1 = (j * 3 + 1) + 3 by omega]; simpa [cellsF] using h3
    · rw [show (j + 1) * 3 + 2 = (j * 3 + 2) + 3 by omega]; simpa [cellsF] using h4
  | [], _, _, _, _, hp => by simp at hp
  | _ :: _, [], _, _, h, _ => by simp at h

theorem infoFl : (Tryz.prog.info? 45).map (fun i => (i.zero, i.size, i.bytes)) = some (some (.agg #[.slice none 0 0, .slice none 0 0, .int .i64 0]), 3, 56) := by kernel_rfl

/-- A row of files of one's own, from block B on; its texts read, below block T. -/
def RoF (T B : Nat) (w : World) (v : Value) (fs : List Fl) : Prop :=
  ∃ xs : List (Value × Value), xs.length = fs.length ∧ w.ownsRow B 45 3 v fs.length (cellsF fs xs) ∧
    ∀ (j : Nat) (p : Fl) (x : Value × Value), fs[j]? = some p → xs[j]? = some x → RdB T w x.1 p.n ∧ Sl x.1 p.n.length ∧ RdB T w x.2 p.d ∧ Sl x.2 p.d.length

theorem row_rd {B T : Nat} {w : World} {v : Value} {fs : List Fl} {xs : List (Value × Value)} (hl : xs.length = fs.length) (ho : w.ownsRow B 45 3 v fs.length (cellsF fs xs)) (hT : w.heap.size ≤ T)
    (hx : ∀ (j : Nat) (p : Fl) (x : Value × Value), fs[j]? = some p → xs[j]? = some x → RdB T w x.1 p.n ∧ Sl x.1 p.n.length ∧ RdB T w x.2 p.d ∧ Sl x.2 p.d.length) : RdF T w v fs := by
  rcases ho.2 with ⟨hv, hn⟩ | ⟨g, cap, cur, hv, hb, hg, hnc, hcm, hcs, ht⟩
  · refine ⟨none, 0, by rw [hv, hn], by omega, by unfold maxLen; omega, fun h0 => ?_⟩
    exact absurd (List.length_eq_zero_iff.1 hn) h0
  · have hlt := World.ownsRow.lt ho g (by rw [hv]; rfl)
    refine ⟨_, cap, hv, hnc, hcm, fun _ => ⟨g, 0, rfl, by omega, fun j p hp => ?_⟩⟩
    have hj := (List.getElem?_eq_some_iff.1 hp).1
    obtain ⟨x, h1, h2, h3, h4⟩ := cellsF_at fs xs j p hl hp
    have h' : w.ownsRow B 45 3 (.slice (some ⟨g, 0, none⟩) fs.length cap) fs.length (cellsF fs xs) := by rw [← hv]; exact ho
    obtain ⟨r1, r2, r3, r4⟩ := hx j p x hp h1
    refine ⟨x, ?_, ?_, ?_, r1, r2, r3, r4⟩
    · rw [Nat.zero_add, World.ownsRow.cellAt h' (j * 3) (by omega)]; exact h2
    · rw [Nat.zero_add, World.ownsRow.cellAt h' (j * 3 + 1) (by omega)]; exact h3
    · rw [Nat.zero_add, World.ownsRow.cellAt h' (j * 3 + 2) (by omega)]; exact h4

theorem RoF.rd {T B : Nat} {w : World} {v : Value} {fs : List Fl} (h : RoF T B w v fs) (hB : T ≤ w.heap.size) : RdF w.heap.size w v fs := by
  obtain ⟨xs, hl, ho, hx⟩ := h
  refine row_rd hl ho (Nat.le_refl _) (fun j p x hp hxj => ?_)
  obtain ⟨r1, r2, r3, r4⟩ := hx j p x hp hxj
  exact ⟨r1.wideF hB, r2, r3.wideF hB, r4⟩
theorem RoF.nil (T B : Nat) (w : World) : RoF T B w (.slice none 0 0) [] :=
  ⟨[], rfl, ⟨by simp [cellsF], .inl ⟨rfl, rfl⟩⟩, fun j p x h _ => by simp at h⟩
theorem RoF.later {T B : Nat} {w w' : World} {v : Value} {fs : List Fl} (h : RoF T B w v fs) (hg : w.grownBy w' none) : RoF T B w' v fs := by
  obtain ⟨xs, hl, ho, hx⟩ := h
  refine ⟨xs, hl, World.ownsRow.kept ho hg (by cases v.ownBlock <;> simp), fun j p x hp hxj => ?_⟩
  obtain ⟨r1, r2, r3, r4⟩ := hx j p x hp hxj
  exact ⟨r1.keep hg, r2, r3.keep hg, r4⟩
/-- .. over a write between the texts and the row. -/
theorem RoF.setMid {T B : Nat} {w : World} {v : Value} {fs : List Fl} (h : RoF T B w v fs) (a : Addr) (u : Value) (h1 : T ≤ a.block) (h2 : a.block < B) : RoF T B (w.setCell a u) v fs := by
  obtain ⟨xs, hl, ho, hx⟩ := h
  have hg : w.grownBy (w.setCell a u) (some a.block) := ⟨rfl, rfl, rfl, by simp, fun i _ hn => Below.heap_setCell _ _ _ _ (fun e => hn (by rw [e]))⟩
  refine ⟨xs, hl, World.ownsRow.kept ho hg ?_, fun j p x hp hxj => ?_⟩
  · cases hv : v.ownBlock with
    | none => exact .inl rfl
    | some k => exact .inr (fun e => by have := World.ownsRow.lt ho _ hv; simp only [Option.some.injEq] at e; omega)
  · obtain ⟨r1, r2, r3, r4⟩ := hx j p x hp hxj
    exact ⟨r1.beside hg (fun k e => by cases e; exact h1), r2, r3.beside hg (fun k e => by cases e; exact h1), r4⟩

/-- Two values that are no rows of one block. -/
def Apt (a b : Value) : Prop := ∀ g, a.ownBlock = some g → b.ownBlock ≠ some g
def pairs (xs : List (Value × Value)) : List Value := xs.flatMap fun x => [x.1, x.2]

/-- The texts of a row of files, each a row of its own, none of them the row's block g. -/
structure TxF (B : Nat) (w : World) (g : Option Nat) (fs : List Fl) (xs : List (Value × Value)) : Prop where
  len : xs.length = fs.length
  own : ∀ (j : Nat) (p : Fl) (x : Value × Value), fs[j]? = some p → xs[j]? = some x → OwB B w x.1 p.n ∧ OwB B w x.2 p.d ∧ (∀ k, g = some k → x.1.ownBlock ≠ some k ∧ x.2.ownBlock ≠ some k)
  apart : (pairs xs).Pairwise Apt

theorem TxF.keep {B : Nat} {w w' : World} {g : Option Nat} {fs : List Fl} {xs : List (Value × Value)} (h : TxF B w g fs xs) (hg : w.grownBy w' none) : TxF B w' g fs xs :=
  ⟨h.len, fun j p x h1 h2 => ⟨(h.own j p x h1 h2).1.later hg, (h.own j p x h1 h2).2.1.later hg, (h.own j p x h1 h2).2.2⟩, h.apart⟩
/-- .. over a write into the row, which may lie in another block then. -/
theorem TxF.row {B : Nat} {w w' : World} {g g' : Option Nat} {fs : List Fl} {xs : List (Value × Value)} (h : TxF B w g fs xs) (hg : w.grownBy w' g) (hg' : ∀ k, g' = some k → g = some k ∨ w.heap.size ≤ k) : TxF B w' g' fs xs :=
  ⟨h.len, fun j p x h1 h2 => by
    obtain ⟨o1, o2, o3⟩ := h.own j p x h1 h2
    refine ⟨o1.beside hg (fun k hk i hi e => ?_), o2.beside hg (fun k hk i hi e => ?_), fun k hk => ?_⟩
    · subst e; exact (o3 k hi).1 hk
    · subst e; exact (o3 k hi).2 hk
    · rcases hg' k hk with e | e
      · exact o3 k e
      · refine ⟨fun e2 => ?_, fun e2 => ?_⟩
        · have := World.ownsRow.lt o1 _ e2; omega
        · have := World.ownsRow.lt o2 _ e2; omega, h.apart⟩

theorem pairs_snoc (xs : List (Value × Value)) (x : Value × Value) : pairs (xs ++ [x]) = pairs xs ++ [x.1, x.2] := by simp [pairs]
theorem pairs_mem {xs : List (Value × Value)} {v : Value} (h : v ∈ pairs xs) : ∃ (j : Nat) (x : Value × Value), xs[j]? = some x ∧ (v = x.1 ∨ v = x.2) := by
  simp only [pairs, List.mem_flatMap, List.mem_cons, List.not_mem_nil, or_false] at h
  obtain ⟨x, hx, hv⟩ := h
  obtain ⟨j, hj, rfl⟩ := List.getElem_of_mem hx
  exact ⟨j, _, by simp [hj], hv⟩
theorem TxF.lt {B : Nat} {w : World} {g : Option Nat} {fs : List Fl} {xs : List (Value × Value)} (h : TxF B w g fs xs) {v : Value} (hv : v ∈ pairs xs) {k : Nat} (hk : v.ownBlock = some k) : B ≤ k ∧ k < w.heap.size := by
  obtain ⟨j, x, hx, he⟩ := pairs_mem hv
  have hj := (List.getElem?_eq_some_iff.1 hx).1
  have hl := h.len
  obtain ⟨o1, o2, _⟩ := h.own j (fs[j]'(by omega)) x (by simp [show j < fs.length by omega]) hx
  rcases he with rfl | rfl
  · exact World.ownsRow.lt o1 _ hk
  · exact World.ownsRow.lt o2 _ hk

/-- One more file, whose texts have been laid since w. -/
theorem TxF.snoc {B : Nat} {w w1 : World} {g : Option Nat} {fs : List Fl} {xs : List (Value × Value)} {p : Fl} {x : Value × Value} (h : TxF B w g fs xs) (hB : B ≤ w.heap.size) (hgs : ∀ k, g = some k → k < w.heap.size) (hg : w.grownBy w1 none)
    (o1 : OwB w.heap.size w1 x.1 p.n) (o2 : OwB w.heap.size w1 x.2 p.d) (ha : Apt x.1 x.2) : TxF B w1 g (fs ++ [p]) (xs ++ [x]) := by
  have hl := h.len
  refine ⟨by simp [hl], fun j q u h1 h2 => ?_, ?_⟩
  · by_cases hj : j < fs.length
    · rw [List.getElem?_append_left hj] at h1
      rw [List.getElem?_append_left (by omega)] at h2
      exact (h.keep hg).own j q u h1 h2
    · have hj2 : j = fs.length := by
        have := (List.getElem?_eq_some_iff.1 h1).1
        simp at this; omega
      subst hj2
      simp at h1
      rw [← hl] at h2
      simp at h2
      subst h1 h2
      refine ⟨row_base hB o1, row_base hB o2, fun k hk => ⟨fun e => ?_, fun e => ?_⟩⟩
      · have := World.ownsRow.lt o1 _ e; have := hgs k hk; omega
      · have := World.ownsRow.lt o2 _ e; have := hgs k hk; omega
  · rw [pairs_snoc, List.pairwise_append]
    refine ⟨h.apart, by simpa using ha, ?_⟩
    intro a hm b hb k hk hk2
    have h1 := h.lt hm hk
    simp only [List.mem_cons, List.not_mem_nil, or_false] at hb
    rcases hb with rfl | rfl
    · have := World.ownsRow.lt o1 _ hk2; omega
    · have := World.ownsRow.lt o2 _ hk2; omega

/-- A row of files of one's own, from block B on, with texts of their own. -/
def OwF (B : Nat) (w : World) (v : Value) (fs : List Fl) : Prop :=
  ∃ xs : List (Value × Value), w.ownsRow B 45 3 v fs.length (cellsF fs xs) ∧ TxF B w v.ownBlock fs xs

theorem OwF.nil (B : Nat) (w : World) : OwF B w (.slice none 0 0) [] :=
  ⟨[], ⟨by simp [cellsF], .inl ⟨rfl, rfl⟩⟩, rfl, fun j p x h _ => by simp at h, by simp [pairs]⟩
theorem OwF.later {B : Nat} {w w' : World} {v : Value} {fs : List Fl} (h : OwF B w v fs) (hg : w.grownBy w' none) : OwF B w' v fs := by
  obtain ⟨xs, ho, ht⟩ := h
  exact ⟨xs, World.ownsRow.kept ho hg (by cases v.ownBlock <;> simp), ht.keep hg⟩
theorem OwF.rd {B : Nat} {w : World} {v : Value} {fs : List Fl} (h : OwF B w v fs) : RdF w.heap.size w v fs := by
  obtain ⟨xs, ho, ht⟩ := h
  refine row_rd ht.len ho (Nat.le_refl _) (fun j p x hp hxj => ?_)
  obtain ⟨o1, o2, _⟩ := ht.own j p x hp hxj
  exact ⟨o1.rd, o1.sl, o2.rd, o2.sl⟩
theorem OwF.base {B B' : Nat} {w : World} {v : Value} {fs : List Fl} (h : OwF B w v fs) (hB : B' ≤ B) : OwF B' w v fs := by
  obtain ⟨xs, ho, ht⟩ := h
  exact ⟨xs, row_base hB ho, ht.len, fun j p x h1 h2 => by obtain ⟨o1, o2, o3⟩ := ht.own j p x h1 h2; exact ⟨row_base hB o1, row_base hB o2, o3⟩, ht.apart⟩

end Go.Proofs.YtakkdniikhgpdaaGreatDoor

namespace Go.Proofs.YtakkdniikhgpdaaGreatDoor
open Go.RowKit

theorem strF_list (xs : List Int) : (strOfNums xs).toList = xs.map fun n => UInt8.ofNat n.toNat := by
  rw [ByteArray.toList_eq]; rfl
theorem u8F_inj {x y : Int} (hx : 0 ≤ x ∧ x ≤ 255) (hy : 0 ≤ y ∧ y ≤ 255) (h : UInt8.ofNat x.toNat = UInt8.ofNat y.toNat) : x = y := by
  have := congrArg UInt8.toNat h
  simp only [UInt8.toNat_ofNat'] at this
  omega
theorem mapF_inj : ∀ {xs ys : List Int}, Byt xs → Byt ys → (xs.map (fun n => UInt8.ofNat n.toNat)) = (ys.map (fun n => UInt8.ofNat n.toNat)) → xs = ys
  | [], [], _, _, _ => rfl
  | [], _ :: _, _, _, h => by simp at h
  | _ :: _, [], _, _, h => by simp at h
  | x :: xs, y :: ys, hx, hy, h => by
    simp only [List.map_cons, List.cons.injEq] at h
    rw [u8F_inj (hx x (by simp)) (hy y (by simp)) h.1, mapF_inj (fun z hz => hx z (by simp [hz])) (fun z hz => hy z (by simp [hz])) h.2]
theorem eqStr {xs ys : List Int} (hx : Byt xs) (hy : Byt ys) : ((strOfNums xs).toList == (strOfNums ys).toList) = decide (xs = ys) := by
  rw [strF_list, strF_list]
  by_cases h : xs = ys
  · subst h; simp
  · have : ¬ (xs.map (fun n => UInt8.ofNat n.toNat)) = (ys.map (fun n => UInt8.ofNat n.toNat)) := fun e => h (mapF_inj hx hy e)
    simp [h, this]
theorem lessStr {xs ys : List Int} (hx : Byt xs) (hy : Byt ys) : Op.bytesLess (strOfNums xs).toList (strOfNums ys).toList = ltB xs ys := by
  rw [strF_list, strF_list]; exact ltB_less xs ys hx hy

theorem conv_str {B : Nat} {w : World} {v : Value} {xs : List Int} (h : Rd .u8 B w v xs) : (convert 22 9 v).run Tryz.prog w = .ok (.string (strOfNums xs)) w := by
  obtain ⟨a, cap, rfl, hr⟩ := h
  by_cases hx : xs = []
  · subst hx
    cases a with
    | none => exact run_convert_bytes_nil w 22 5 Tryz.underlying22 Tryz.underlying5 _ _ 9 Tryz.underlying9
    | some x =>
      rw [run_convert_bytes_string w 22 9 5 _ _ cap Tryz.underlying22 Tryz.underlying5 Tryz.underlying9]
      have := run_bytesToString (P := Tryz.prog) w x 0 cap [] (run_loadCells_list (P := Tryz.prog) w x [] (fun j v hj => by simp at hj))
      rw [show ([] : List Int).length = 0 from rfl, this]
      rfl
  · obtain ⟨b, off, rfl, hb, hc⟩ := hr hx
    exact run_convert_bytes_arg w 22 5 Tryz.underlying22 Tryz.underlying5 b off xs.length cap xs rfl (fun i hi => by rw [hc i hi]; simp [List.getD]) 9 Tryz.underlying9

end Go.Proofs.YtakkdniikhgpdaaGreatDoor

namespace Go.Proofs.YtakkdniikhgpdaaGreatDoor
open Go.RowKit

set_option maxHeartbeats 400000 in
theorem nameOK_spec (a : Option Addr) (n : List Int) (cap : Nat) (w : World) (hn : n.length ≤ 9223372036854775807) :
    Calls Tryz.prog 22 #[.slice a n.length cap] w fun e w' => e = .returned (.bool (nameOK n)) ∧ w = w' := by
  by_cases h : 1 ≤ n.length
  · have HF : Hid (nameOK n = decide (n.length ≤ 100)) := by unfold Hid nameOK; simp [h]
    by_cases h2 : n.length ≤ 100
    · go_enter Tryz.func22, Tryz.ntmps22
      go_wp2
      go_ret
      have h3 : (n.length : Int) ≤ 100 := by omega
      exact ⟨by rw [HF.out, decide_eq_true h2]; simp [h3], rfl⟩
    · go_enter Tryz.func22, Tryz.ntmps22
      go_wp2
      go_ret
      have h3 : ¬ (n.length : Int) ≤ 100 := by omega
      exact ⟨by rw [HF.out, decide_eq_false h2]; simp [h3], rfl⟩
  · have HF : Hid (nameOK n = false) := by unfold Hid nameOK; simp; omega
    go_enter Tryz.func22, Tryz.ntmps22
    go_wp2
    go_ret
    exact ⟨by rw [HF.out]; rfl, rfl⟩

/-- What is known of a law's file system: no list too long, bytes. -/
structure Fss (fs : List Fl) : Prop where
  len : fs.length ≤ 1048576
  tlen : ∀ p ∈ fs, p.n.length ≤ 1048576 ∧ p.d.length ≤ 1048576
  byt : ∀ p ∈ fs, Byt p.n ∧ Byt p.d

set_option maxHeartbeats 4000000 in
set_option maxRecDepth 100000 in
theorem specValid_any (v : Value) (fs : List Fl) (w : World) (hv : RdF w.heap.size w v fs) (hd : Fss fs) :
    Calls Tryz.prog 5 #[.agg #[v]] w fun e w' => e = .returned (.bool (validF fs)) ∧ w.grownBy w' none := by
  obtain ⟨a, cap, hv0, hcap, hmax, _⟩ := id hv
  have hlen := hd.len
  by_cases hl : 50 < fs.length
  · have HF := hide (valid_long hl)
    subst hv0
    clear hv
    go_enter Tryz.func5, Tryz.ntmps5
    go_wp2
    go_ret
    exact ⟨by rw [HF.out]; rfl, World.grownBy_alloc _ _ _⟩
  · have HV : Hid (RdF w.heap.size w v fs) := hv
    have HD : Hid (Fss fs) := hd
    subst hv0
    clear hv hd
    go_enter Tryz.func5, Tryz.ntmps5
    go_wp2
    have HC : Hid (∀ wr : World, (w.alloc (.cells #[.slice a fs.length cap] 25)).grownBy wr none → wr.cell? ⟨w.heap.size, 0, none⟩ = some (.slice a fs.length cap)) := fun wr g => g.cell (by simp [go_sem]) (by simp)
    go_loopw [3] (fun i wr => ∃ k : Nat, k ≤ fs.length ∧ i = .int .i64 k ∧ Hid ((List.range k).all (okAt fs) = true) ∧ (w.alloc (.cells #[.slice a fs.length cap] 25)).grownBy wr none) (fun i _ => fs.length - (intOf i).toNat)
    case atStart => exact ⟨0, Nat.zero_le _, rfl, by simp [Hid], World.grownBy.refl _ _⟩
    case round =>
      obtain ⟨k, hk, rfl, HA, hgr⟩ := hrel
      have hfc := HC.out wr hgr
      have hgw : w.grownBy wr none := grown_trans (World.grownBy_alloc _ _ _) hgr
      have HG : Hid (w.grownBy wr none) := hgw
      by_cases hlt : k < fs.length
      · obtain ⟨b, off, cap', x, hva, hb, hp⟩ := (HV.out.now hgw).at k hlt
        cases hva
        obtain ⟨nv, dv⟩ := x
        have z0 := hp.n; have z1 := hp.d; have z2 := hp.s
        obtain ⟨na, ncap, hnv, hn1, hn2⟩ := hp.sn
        obtain ⟨da, dcap, hdv, hd1, hd2⟩ := hp.sd
        simp only at hnv hdv
        unfold maxLen at hn2 hd2
        have HNm := hide (fun w => nameOK_spec na fs[k].n ncap w (by omega))
        by_cases hno : nameOK fs[k].n = true
        · rw [hno] at HNm
          by_cases hsf : 0 ≤ fs[k].s ∧ fs[k].s ≤ (fs[k].d.length : Int)
          · have hok : okF fs[k] = true := by unfold okF; rw [hno, decide_eq_true hsf]; rfl
            obtain ⟨hs0, hs1⟩ := hsf
            by_cases hk0 : k = 0
            · subst hk0
              have HN : Hid ((List.range (0 + 1)).all (okAt fs) = true) := all_rangeS HA.out (by rw [okAt_zero hlt]; exact hok)
              subst hnv hdv
              clear hp hno hok
              simp only [Nat.zero_mul, Nat.add_zero] at z0 z1 z2
              generalize fs[0] = p at *
              go_wp2_with (go_at_call 22; refine (HNm.out _).mono ?_; rintro e w1 ⟨rfl, rfl⟩)
              go_quiet (fail)
              go_wp2
              go_roundw
              case rel => exact ⟨0 + 1, by omega, by go_num, HN, grown_trans hgr (grown_drewN (World.grownBy_alloc _ _ _) _)⟩
              case measure => simp [intOf]; omega
            · obtain ⟨j, rfl⟩ : ∃ j, k = j + 1 := ⟨k - 1, by omega⟩
              obtain ⟨b', off', cap'', x', hva', hb', hp'⟩ := (HV.out.now hgw).at j (by omega)
              cases hva'
              obtain ⟨pv, pd⟩ := x'
              have y0 := hp'.n; have y1 := hp'.d; have y2 := hp'.s
              obtain ⟨pa, pcap, hpv, hq1, hq2⟩ := hp'.sn
              simp only at hpv
              have k1 := fun m => conv_str (hp.rn.keep (grown_drewN (World.grownBy_alloc wr (.cells #[nv, dv, .int .i64 fs[j + 1].s] 45) none) m))
              have k2 := fun m => conv_str (hp'.rn.keep (grown_drewN (World.grownBy_alloc wr (.cells #[nv, dv, .int .i64 fs[j + 1].s] 45) none) m))
              have hj0 : (0 : Int) < (j : Int) + 1 := by omega
              have hfc2 := (World.grownBy_alloc wr (.cells #[nv, dv, .int .i64 fs[j + 1].s] 45) none).cell hfc (by simp)
              have y0' := (World.grownBy_alloc wr (.cells #[nv, dv, .int .i64 fs[j + 1].s] 45) none).cell y0 (by simp)
              have HL := lessStr (HD.out.byt _ (List.getElem_mem (show j < fs.length by omega))).1 (HD.out.byt _ (List.getElem_mem hlt)).1
              by_cases hle : ltB (fs[j]'(by omega)).n fs[j + 1].n = true
              · have HN : Hid ((List.range (j + 1 + 1)).all (okAt fs) = true) := all_rangeS HA.out (by rw [okAt_succ hlt, hok, hle]; rfl)
                rw [hle] at HL
                subst hnv hdv hpv
                clear hp hp' hno hok hle
                generalize fs[j + 1] = p at *
                generalize fs[j] = p' at *
                go_wp2_with (go_at_call 22; refine (HNm.out _).mono ?_; rintro e w1 ⟨rfl, rfl⟩)
                go_quiet (fail)
                go_wp2
                go_roundw
                case rel => exact ⟨j + 1 + 1, by omega, by go_num, HN, grown_trans hgr (grown_drewN (World.grownBy_alloc _ _ _) _)⟩
                case measure => simp [intOf]; omega
              · have HB : Hid (validF fs = false) := valid_not (j + 1) hlt (by rw [okAt_succ hlt]; simp [hle])
                rw [show ltB (fs[j]'(by omega)).n fs[j + 1].n = false by simpa using hle] at HL
                subst hnv hdv hpv
                clear hp hp' hno hok hle
                generalize fs[j + 1] = p at *
                generalize fs[j] = p' at *
                go_wp2_with (go_at_call 22; refine (HNm.out _).mono ?_; rintro e w1 ⟨rfl, rfl⟩)
                go_quiet (fail)
                go_wp2
                go_ret
                exact ⟨by rw [HB.out]; rfl, grown_trans HG.out (grown_drewN (World.grownBy_alloc _ _ _) _)⟩
          · have HB : Hid (validF fs = false) := valid_not k hlt (by cases k with | zero => rw [okAt_zero hlt, okF]; simp [hsf] | succ j => rw [okAt_succ hlt, okF]; simp [hsf])
            subst hnv hdv
            clear hp hno
            generalize fs[k] = p at *
            by_cases hs0 : 0 ≤ p.s
            · have hs1 : (p.d.length : Int) < p.s := by omega
              go_wp2_with (go_at_call 22; refine (HNm.out _).mono ?_; rintro e w1 ⟨rfl, rfl⟩)
              go_ret
              exact ⟨by rw [HB.out]; rfl, grown_trans HG.out (World.grownBy_alloc _ _ _)⟩
            · go_wp2_with (go_at_call 22; refine (HNm.out _).mono ?_; rintro e w1 ⟨rfl, rfl⟩)
              go_ret
              exact ⟨by rw [HB.out]; rfl, grown_trans HG.out (World.grownBy_alloc _ _ _)⟩
        · have HB : Hid (validF fs = false) := valid_not k hlt (by cases k with | zero => rw [okAt_zero hlt, okF]; simp [hno] | succ j => rw [okAt_succ hlt, okF]; simp [hno])
          rw [show nameOK fs[k].n = false by simpa using hno] at HNm
          subst hnv hdv
          clear hp hno
          generalize fs[k] = p at *
          go_wp2_with (go_at_call 22; refine (HNm.out _).mono ?_; rintro e w1 ⟨rfl, rfl⟩)
          go_ret
          exact ⟨by rw [HB.out]; rfl, grown_trans HG.out (World.grownBy_alloc _ _ _)⟩
      · have HF : Hid (validF fs = true) := valid_all (by omega) (by have := HA.out; rw [show k = fs.length by omega] at this; exact this)
        go_wp2
        go_ret
        exact ⟨by rw [HF.out]; rfl, HG.out⟩

end Go.Proofs.YtakkdniikhgpdaaGreatDoor

