import Derived.Test.YtakkdniikhgpdaaGreatDoorMAF
namespace Go.Proofs.YtakkdniikhgpdaaGreatDoor
open Go.RowKit

/-! Nodes with their contents. -/

section
variable {F : Nat} {v : Value} {zs : List Int} {i : Nat} {Γ Γ1 : Gk} {w w1 : World} {H : Nat}
/-- A block of one element. -/
theorem KD.set0 (h : KD F v zs Γ w i Γ1 w1) {b : Nat} {k : KK} {m : Nat} {y : El} {ys : List El} (hb : Γ1 b = some (k, m, y :: ys)) (hlo : w.heap.size ≤ b) (f : Nat) {y' : El} {u : Value} (hf : f < k.sz) (he : y'.en = y.en.set f u) (hkd : y'.kd = k) : KD F v zs Γ w i (updK Γ1 b (k, m, y' :: ys)) (w1.setCell ⟨b, f, none⟩ u) := by
  have := h.set hb hlo (q := 0) (f := f) (y := y) (y' := y') (u := u) rfl hf he hkd
  rw [Nat.zero_mul, Nat.zero_add] at this
  exact this
theorem MT.eight (h : MT H Γ w) {b m : Nat} {k n : Int} {l y x u t : Sv} {mm : Bool} {ys : List El} (hb : Γ b = some (.nd, m, .d k l mm y x u n t :: ys)) :
    (w.cell? ⟨b, 0, none⟩ = some (.int .i64 k) ∧ w.cell? ⟨b, 1, none⟩ = some l.v ∧ w.cell? ⟨b, 2, none⟩ = some (.bool mm) ∧ w.cell? ⟨b, 3, none⟩ = some y.v ∧ w.cell? ⟨b, 4, none⟩ = some x.v ∧ w.cell? ⟨b, 5, none⟩ = some u.v ∧ w.cell? ⟨b, 6, none⟩ = some (.int .i64 n) ∧ w.cell? ⟨b, 7, none⟩ = some t.v) ∧ ∀ f, f < 8 → w.frozen? ⟨b, f, none⟩ = false := by
  have hc := fun f (hf : f < 8) => h.cell hb (i := 0) (f := f) (y := .d k l mm y x u n t) rfl hf
  refine ⟨⟨(hc 0 (by decide)).1, (hc 1 (by decide)).1, (hc 2 (by decide)).1, (hc 3 (by decide)).1, (hc 4 (by decide)).1, (hc 5 (by decide)).1, (hc 6 (by decide)).1, (hc 7 (by decide)).1⟩, fun f hf => ?_⟩
  have := (hc f hf).2
  rw [Nat.zero_mul, Nat.zero_add] at this
  exact this
theorem MT.src (h : MT H Γ w) {b m : Nat} {k : KK} {ys : List El} (hb : Γ b = some (k, m, ys)) (j : Nat) (u : Value) (hj : (ens ys)[j]? = some u) : w.cell? ⟨b, 0 + j, none⟩ = some u := by
  obtain ⟨_, arr, mk, h2, _, _, _, _, h7⟩ := h b k m ys hb
  rw [Nat.zero_add, cell_of_row w b j _ _ _ h2]
  exact h7 j u hj
/-- 'append(o, x...)' of nodes. -/
theorem KD.appM (h : KD F v zs Γ w i Γ1 w1) {oa sa : Option Addr} {on oc sn sc : Nat} {ys els : List El} (hv : Ful Γ1 .nd (oa, on, oc) ys) (B : Nat) (hB : w.heap.size ≤ B) (hB1 : B ≤ w1.heap.size) (hlo : Lo B (oa, on, oc)) (hx : Ful Γ1 .nd (sa, sn, sc) els) (hb : on + sn ≤ 100000) :
    ∃ a c w' Γ', (Builtin.append_ #[97, 97] 97 #[.slice oa on oc, .slice sa sn sc]).run Tryz.prog w1 = .ok (.slice a (on + sn) c) w' ∧ KD F v zs Γ w i Γ' w' ∧ Ful Γ' .nd (a, on + sn, c) (ys ++ els) ∧ Lo B (a, on + sn, c) ∧ Rle (Ful Γ1) (Ful Γ') ∧ (∀ b, b < B → Γ' b = Γ1 b) ∧ ∀ b, b < B → w'.heap[b]? = w1.heap[b]? := by
  have hon := hv.n
  have hsn := hx.n
  subst hon hsn
  rcases id hx with ⟨h0, rfl⟩ | ⟨b, m, h0, hΓ, hmm⟩
  · cases h0
    obtain ⟨i0, z, hu, hi, hz, hs, _⟩ := kk_info .nd
    have hle : ys.length ≤ oc := by
      rcases id hv with ⟨h1, rfl⟩ | ⟨b, m, h1, h2, _⟩
      · simp
      · cases h1; exact (h.st.mt.kds h2).2
    refine ⟨oa, oc, w1, Γ1, ?_, h, by simpa using hv, hlo, ⟨fun _ _ h => h, fun _ _ h => h, fun _ _ h => h⟩, fun _ _ => rfl, fun _ _ => rfl⟩
    replace hu : Tryz.prog.underlying 97 = some (.slice 119) := hu
    replace hi : Tryz.prog.info? 119 = some i0 := hi
    cases oa <;> simp [Builtin.append_, run_underlying hu, sizeOf, typeInfo, hi, Builtin.lenOf, Builtin.firstCells, hle, storeCells, loadCells]
  · cases h0
    by_cases he : els.length = 0
    · have : els = [] := by simpa using he
      subst this
      obtain ⟨i0, z, hu, hi, hz, hs, _⟩ := kk_info .nd
      have hle : ys.length ≤ oc := by
        rcases id hv with ⟨h1, rfl⟩ | ⟨b, m, h1, h2, _⟩
        · simp
        · cases h1; exact (h.st.mt.kds h2).2
      refine ⟨oa, oc, w1, Γ1, ?_, h, by simpa using hv, hlo, ⟨fun _ _ h => h, fun _ _ h => h, fun _ _ h => h⟩, fun _ _ => rfl, fun _ _ => rfl⟩
      replace hu : Tryz.prog.underlying 97 = some (.slice 119) := hu
      replace hi : Tryz.prog.info? 119 = some i0 := hi
      cases oa <;> simp [Builtin.append_, run_underlying hu, sizeOf, typeInfo, hi, Builtin.lenOf, Builtin.firstCells, hle, storeCells, loadCells, loadCellsFrom]
    · obtain ⟨g, mc, w', h1, h2, h3, h4, h5, h6⟩ := h.apps hv (hlo.mono hB) b 0 sc els (by omega) (h.st.mt.kds hΓ).1 (h.st.mt.src hΓ) (by omega)
      rw [List.length_append] at h1
      have hg : B ≤ g := by
        rcases h3 with rfl | ⟨_, h3⟩
        · exact hB1
        · exact hlo ⟨g, 0, none⟩ (by rw [h3])
      refine ⟨_, _, w', _, h1, h2, .inr ⟨g, mc, by simp, updK_at _ _ _, h5⟩, fun a e => by cases e; exact hg, rle_nd (fun k y e => ?_), fun c hc => updK_ne (by omega), fun x hx => h6.block x (by omega) (by simp; omega)⟩
      rcases h3 with rfl | ⟨h3, _⟩
      · rw [h.st.mt.gone (Nat.le_refl _)] at e; cases e
      · rw [h3] at e; cases e; rfl
theorem KD.appN (h : KD F v zs Γ w i Γ1 w1) {oa sa : Option Addr} {on oc sn sc : Nat} {ys els : List El} (hv : Ful Γ1 .nd (oa, on, oc) ys) (B : Nat) (hB : w.heap.size ≤ B) (hB1 : B ≤ w1.heap.size) (hlo : Lo B (oa, on, oc)) (hx : Ful Γ1 .nd (sa, sn, sc) els) (hb : on + sn ≤ 100000) :
    ∃ a c w' Γ', (Builtin.append_ #[97, 97] 97 #[.slice oa on oc, .slice sa sn sc]).run Tryz.prog w1 = .ok (.slice a (on + sn) c) w' ∧ KD F v zs Γ w i Γ' w' ∧ Ful Γ' .nd (a, on + sn, c) (ys ++ els) ∧ Lo B (a, on + sn, c) ∧ Rle (Ful Γ1) (Ful Γ') ∧ ∀ b, b < B → Γ' b = Γ1 b := by
  obtain ⟨a, c, w', Γ', h1, h2, h3, h4, h5, h6, _⟩ := h.appM hv B hB hB1 hlo hx hb
  exact ⟨a, c, w', Γ', h1, h2, h3, h4, h5, h6⟩
end
/-! The plain side. -/
section
variable {zs : List Int} {rare : Int} {i : Nat}
theorem dN_scal {d : Nat} (h : (nx zs i).1 % 16 < 3 ∨ (d = 0 ∧ 9 < (nx zs i).1 % 16)) : dNodes zs rare d i = ([{ nod0 with k := (nx zs i).1 % 16 % 3, lead := (dComs zs rare (nx zs i).2).1 }], (dComs zs rare (nx zs i).2).2) := by
  cases d <;> (rw [dNodes]; simp only; rw [if_pos (by simpa using h)])
theorem dN_num {d : Nat} (h : ¬ ((nx zs i).1 % 16 < 3 ∨ (d = 0 ∧ 9 < (nx zs i).1 % 16))) (h2 : (nx zs i).1 % 16 < 6) : dNodes zs rare d i = ([{ nod0 with k := 3, lead := (dComs zs rare (nx zs i).2).1, text := (dNum zs (dComs zs rare (nx zs i).2).2).1 }], (dNum zs (dComs zs rare (nx zs i).2).2).2) := by
  cases d <;> (rw [dNodes]; simp only; rw [if_neg (by simpa using h), if_pos h2])
theorem dN_str {d : Nat} (h : ¬ ((nx zs i).1 % 16 < 3 ∨ (d = 0 ∧ 9 < (nx zs i).1 % 16))) (h2 : ¬ (nx zs i).1 % 16 < 6) (h3 : (nx zs i).1 % 16 < 9 ∨ d = 0) : dNodes zs rare d i = ([{ nod0 with k := 4, lead := (dComs zs rare (nx zs i).2).1, units := (dus zs 7 (dComs zs rare (nx zs i).2).2).1 }], (dus zs 7 (dComs zs rare (nx zs i).2).2).2) := by
  cases d with
  | zero => rw [dNodes]; simp only; rw [if_neg (by simpa using h), if_neg h2]
  | succ d => rw [dNodes]; simp only; rw [if_neg (by simpa using h), if_neg h2, if_pos (by omega)]
/-- What lies below a container that begins at place p. -/
def dBel (zs : List Int) (rare : Int) (d : Nat) (obj : Bool) (p : Nat) : List Nod × Nat × Nat := dItems zs (dNodes zs rare d) obj ((nx zs p).1 % 5).toNat (nx zs p).2
theorem dN_cont {d : Nat} (h2 : ¬ (nx zs i).1 % 16 < 6) (h3 : ¬ (nx zs i).1 % 16 < 9) : dNodes zs rare (d + 1) i =
    ({ nod0 with k := 5 + (nx zs i).1 % 16 % 2, lead := (dComs zs rare (nx zs i).2).1, cnt := (dBel zs rare d (decide ((nx zs i).1 % 16 % 2 = 1)) (dComs zs rare (nx zs i).2).2).2.1, tail := (dComs zs rare (dBel zs rare d (decide ((nx zs i).1 % 16 % 2 = 1)) (dComs zs rare (nx zs i).2).2).2.2).1 } :: (dBel zs rare d (decide ((nx zs i).1 % 16 % 2 = 1)) (dComs zs rare (nx zs i).2).2).1,
      (dComs zs rare (dBel zs rare d (decide ((nx zs i).1 % 16 % 2 = 1)) (dComs zs rare (nx zs i).2).2).2.2).2) := by
  rw [dNodes]
  simp only
  rw [if_neg (by omega), if_neg h2, if_neg h3]
  rfl
theorem dItems_go {f : Nat → List Nod × Nat} {obj : Bool} {j : Nat} (h1 : (dItems zs f obj j i).2.1 = j) (h2 : j < 2 ∨ (dItems zs f obj j i).2.2 < zs.length) : dItems zs f obj (j + 1) i = ((dItems zs f obj j i).1 ++ (dItem zs f obj (dItems zs f obj j i).2.2).1, j + 1, (dItem zs f obj (dItems zs f obj j i).2.2).2) := by
  rw [dItems, if_pos ⟨h1, h2⟩]
theorem dItems_stop {f : Nat → List Nod × Nat} {obj : Bool} {j : Nat} (h1 : (dItems zs f obj j i).2.1 = j) (h2 : ¬ (j < 2 ∨ (dItems zs f obj j i).2.2 < zs.length)) : ∀ M, j ≤ M → dItems zs f obj M i = dItems zs f obj j i := by
  intro M
  induction M with
  | zero => intro h; obtain rfl : j = 0 := by omega
            rfl
  | succ M ih =>
    intro h
    by_cases e : j = M + 1
    · rw [e]
    · have := ih (by omega)
      rw [dItems, this, if_neg]
      intro hc
      have hjM : j = M := by omega
      subst hjM
      exact h2 hc.2
def nBk : Nat → Nat
  | 0 => 1
  | d + 1 => 1 + 4 * nBk d
theorem nBk_pos : ∀ d, 1 ≤ nBk d
  | 0 => Nat.le_refl _
  | d + 1 => by unfold nBk; omega
theorem nBk_le : ∀ d, d ≤ 5 → nBk d ≤ 1365 := by decide
theorem memH_len (key : List Int) (ns : List Nod) : (memH key ns).length = ns.length := by cases ns <;> rfl
theorem dItem_len {f : Nat → List Nod × Nat} {obj : Bool} (p : Nat) : (dItem zs f obj p).1.length = (f p).1.length := by
  unfold dItem
  split
  · exact memH_len _ _
  · rfl
theorem dItems_len {f : Nat → List Nod × Nat} {obj : Bool} {L : Nat} (hf : ∀ p, (f p).1.length ≤ L) : ∀ m p, (dItems zs f obj m p).1.length ≤ m * L
  | 0, p => by simp [dItems]
  | m + 1, p => by
    have ih := dItems_len (obj := obj) hf m p
    rw [dItems]
    split
    · simp only [List.length_append, dItem_len]
      have := hf (dItems zs f obj m p).2.2
      rw [Nat.add_mul]
      omega
    · rw [Nat.add_mul]; omega
theorem dNodes_len : ∀ (d p : Nat), 1 ≤ (dNodes zs rare d p).1.length ∧ (dNodes zs rare d p).1.length ≤ nBk d := by
  intro d
  induction d with
  | zero =>
    intro p
    by_cases h : (nx zs p).1 % 16 < 3 ∨ (0 = 0 ∧ 9 < (nx zs p).1 % 16)
    · rw [dN_scal h]; exact ⟨Nat.le_refl _, Nat.le_refl _⟩
    · by_cases h2 : (nx zs p).1 % 16 < 6
      · rw [dN_num h h2]; exact ⟨Nat.le_refl _, Nat.le_refl _⟩
      · rw [dN_str h h2 (.inr rfl)]; exact ⟨Nat.le_refl _, Nat.le_refl _⟩
  | succ d ih =>
    intro p
    have hp := nBk_pos d
    by_cases h : (nx zs p).1 % 16 < 3 ∨ (d + 1 = 0 ∧ 9 < (nx zs p).1 % 16)
    · rw [dN_scal h]; exact ⟨Nat.le_refl _, by simp [nBk]⟩
    · by_cases h2 : (nx zs p).1 % 16 < 6
      · rw [dN_num h h2]; exact ⟨Nat.le_refl _, by simp [nBk]⟩
      · by_cases h3 : (nx zs p).1 % 16 < 9
        · rw [dN_str h h2 (.inl h3)]; exact ⟨Nat.le_refl _, by simp [nBk]⟩
        · rw [dN_cont h2 h3]
          simp only [List.length_cons]
          refine ⟨by omega, ?_⟩
          have := dItems_len (zs := zs) (obj := decide ((nx zs p).1 % 16 % 2 = 1)) (fun q => (ih q).2) ((nx zs (dComs zs rare (nx zs p).2).2).1 % 5).toNat (nx zs (dComs zs rare (nx zs p).2).2).2
          have hm : ((nx zs (dComs zs rare (nx zs p).2).2).1 % 5).toNat ≤ 4 := by omega
          have h4 := Nat.mul_le_mul_right (nBk d) hm
          unfold dBel nBk
          omega
end
end Go.Proofs.YtakkdniikhgpdaaGreatDoor

