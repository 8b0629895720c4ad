import Derived.Test.YtdcajkgmhimffabDoorDraw4
import Derived.Test.YtdcajkgmhimffabDoorEncSpec
namespace Go.Proofs.YtdcajkgmhimffabDoor
open Go.RowKit

def oddB : List (List Int) := [[192, 128], [193, 191], [224, 159, 191], [224, 160, 128], [237, 160, 128], [237, 159, 191], [240, 143, 191, 191], [240, 144, 128, 128], [244, 143, 191, 191], [244, 144, 128, 128], [245], [128]]
/-- What DrawDecodeText makes of the byte k, the encoded points b and the reader at i. -/
def ddtV (rs : List Int) (k : Int) (b : List Int) (i : Nat) : List Int :=
  if k % 3 = 0 then (if b = [] then b else b.set ((nx rs i).1 % (b.length : Int)).toNat (nx rs (nx rs i).2).1)
  else if k % 3 = 1 then (if b = [] then b else b.take ((nx rs i).1 % (b.length : Int)).toNat)
  else if k % 6 = 2 then b ++ oddB.getD (k / 6 % 12).toNat [] else b
def ddt (zs : List Int) : List Int :=
  ddtV (zs.take 500) (nx (zs.take 500) 0).1 (encR (dps (zs.take 500) false 12 (nx (zs.take 500) 0).2).1).1 (dps (zs.take 500) false 12 (nx (zs.take 500) 0).2).2

theorem enc_bys {p : Int} (h : okPt p = true) : Bys (enc p) := by
  have hb := ok_bd h
  intro z hz
  unfold enc at hz
  split at hz
  · simp at hz; omega
  · split at hz
    · simp at hz; omega
    · split at hz
      · simp at hz; omega
      · simp at hz; omega
theorem encR_bys (q : List Int) : Bys (encR q).1 := by
  unfold encR
  split
  · rename_i h
    rw [List.all_eq_true] at h
    intro z hz
    simp only [encAll, List.mem_flatMap] at hz
    obtain ⟨p, hp, hz⟩ := hz
    exact enc_bys (h p hp) z hz
  · intro z hz; simp at hz
theorem odd_bys (j : Nat) : Bys (oddB.getD j []) := by
  by_cases h : j < 12
  · have : ∀ m : Nat, m < 12 → ∀ z ∈ oddB.getD m [], 0 ≤ z ∧ z ≤ 255 := by decide
    exact this j h
  · intro z hz
    rw [List.getD_eq_getElem?_getD, List.getElem?_eq_none (by simp [oddB]; omega)] at hz; simp at hz
theorem odd_len (j : Nat) : (oddB.getD j []).length ≤ 4 := by
  by_cases h : j < 12
  · have : ∀ m : Nat, m < 12 → (oddB.getD m []).length ≤ 4 := by decide
    exact this j h
  · rw [List.getD_eq_getElem?_getD, List.getElem?_eq_none (by simp [oddB]; omega)]; simp
theorem ddtV_ok {rs : List Int} (hb : Bys rs) (k : Int) {b : List Int} (hbb : Bys b) (i : Nat) : Bys (ddtV rs k b i) ∧ (ddtV rs k b i).length ≤ b.length + 4 := by
  unfold ddtV
  split
  · split
    · exact ⟨hbb, by omega⟩
    · refine ⟨fun z hz => ?_, by simp⟩
      rcases List.mem_or_eq_of_mem_set hz with h | h
      · exact hbb z h
      · rw [h]; exact nx_bd hb _
  · split
    · split
      · exact ⟨hbb, by omega⟩
      · exact ⟨fun z hz => hbb z (List.mem_of_mem_take hz), by rw [List.length_take]; omega⟩
    · split
      · have := odd_len (k / 6 % 12).toNat
        refine ⟨fun z hz => ?_, by rw [List.length_append]; omega⟩
        rcases List.mem_append.1 hz with h | h
        · exact hbb z h
        · exact odd_bys _ z h
      · exact ⟨hbb, by omega⟩
theorem ddt_ok {zs : List Int} (hb : Bys zs) : Bys (ddt zs) ∧ (ddt zs).length ≤ 60 := by
  have h := ddtV_ok (take_bys hb 500) (nx (zs.take 500) 0).1 (encR_bys (dps (zs.take 500) false 12 (nx (zs.take 500) 0).2).1) (dps (zs.take 500) false 12 (nx (zs.take 500) 0).2).2
  have h2 := encR_len (dps (zs.take 500) false 12 (nx (zs.take 500) 0).2).1
  have h3 := dps_len (sur := false) (take_bys hb 500) (nx_le (zs := zs.take 500) (i := 0) (Nat.zero_le _))
  exact ⟨h.1, by unfold ddt; omega⟩

theorem row_take {w : World} {B : Nat} {t : TypeId} {g n cap : Nat} {xs : List Value} (h : w.ownsRow B t 1 (.slice (some ⟨g, 0, none⟩) n cap) n xs) (m : Nat) (hm : m ≤ n) : w.ownsRow B t 1 (.slice (some ⟨g, 0, none⟩) m cap) m (xs.take m) := by
  have hl := h.1
  refine ⟨by rw [List.length_take]; omega, ?_⟩
  rcases h.2 with ⟨h1, _⟩ | ⟨g', cap', cur, hv, hb, hg, hnc, hcm, hcs, ht⟩
  · simp at h1
  · simp only [Value.slice.injEq, Option.some.injEq, Addr.mk.injEq, and_true, true_and] at hv
    obtain ⟨rfl, rfl⟩ := hv
    refine .inr ⟨g, cap, cur, rfl, hb, hg, by omega, hcm, hcs, ?_⟩
    rw [← ht, List.take_take]
    congr 1; omega
theorem row_shape {w : World} {B : Nat} {t : TypeId} {v : Value} {n : Nat} {xs : List Value} (h : w.ownsRow B t 1 v n xs) (hn : 0 < n) : ∃ g cap, v = .slice (some ⟨g, 0, none⟩) n cap ∧ B ≤ g ∧ n ≤ cap ∧ cap ≤ maxLen := by
  rcases h.2 with ⟨_, h1⟩ | ⟨g, cap, cur, hv, hb, hg, hnc, hcm, _⟩
  · omega
  · exact ⟨g, cap, hv, hb, hnc, hcm⟩
theorem set_map (q : IntKind) (b : List Int) (m : Nat) (z : Int) : (b.map (Value.int q)).set m (.int q z) = (b.set m z).map (Value.int q) := by rw [List.map_set]

/-- Blocks laid one behind another. -/
def al (w : World) (os : List Obj) : World := os.foldl World.alloc w
theorem al_heap (os : List Obj) : ∀ (w : World) (i : Nat), i < os.length → (al w os).heap[w.heap.size + i]? = os[i]? := by
  induction os with
  | nil => intro w i h; simp at h
  | cons o os ih =>
    intro w i h
    have old : ∀ (os : List Obj) (w : World) (k : Nat), k < w.heap.size → (al w os).heap[k]? = w.heap[k]? := by
      intro os
      induction os with
      | nil => intro w k _; rfl
      | cons o os ih =>
        intro w k hk
        show (al (w.alloc o) os).heap[k]? = _
        rw [ih (w.alloc o) k (by simp; omega)]
        exact Below.heap_alloc w o k hk
    show (al (w.alloc o) os).heap[w.heap.size + i]? = _
    cases i with
    | zero =>
      rw [old os (w.alloc o) _ (by simp)]
      simpa using heap_alloc_new w o
    | succ i =>
      have := ih (w.alloc o) i (by simpa using h)
      rw [World.size_alloc] at this
      rw [show w.heap.size + (i + 1) = w.heap.size + 1 + i by omega, this]
      simp
theorem al_grown (w : World) (os : List Obj) : w.grownBy (al w os) none := by
  induction os generalizing w with
  | nil => exact World.grownBy.refl _ _
  | cons o os ih => exact grown_trans (World.grownBy_alloc w o none) (ih (w.alloc o))
def oddObjs (s : Nat) : List Obj := oddB.map (fun l => Obj.cells (l.map (Value.int .u8)).toArray 5) ++ [.cells ((List.range 12).map (fun i => Value.slice (some ⟨s + i, 0, none⟩) (oddB.getD i []).length (oddB.getD i []).length)).toArray 22]
theorem odd_cells (w : World) (i : Nat) (hi : i < 12) : ∀ j u, ((oddB.getD i []).map (Value.int .u8))[j]? = some u → (al w (oddObjs w.heap.size)).cell? ((⟨w.heap.size + i, 0, none⟩ : Addr).add j) = some u := by
  intro j u hj
  have h1 := al_heap (oddObjs w.heap.size) w i (by simp [oddObjs, oddB]; omega)
  have h2 : (oddObjs w.heap.size)[i]? = some (.cells ((oddB.getD i []).map (Value.int .u8)).toArray 5) := by
    have hl : i < oddB.length := by simp [oddB]; omega
    unfold oddObjs
    rw [List.getElem?_append_left (by simpa using hl)]
    simp [hl]
  rw [h2] at h1
  rw [Addr.add_lit, cell_of_row _ _ _ _ _ _ h1]
  simpa using hj

end Go.Proofs.YtdcajkgmhimffabDoor
