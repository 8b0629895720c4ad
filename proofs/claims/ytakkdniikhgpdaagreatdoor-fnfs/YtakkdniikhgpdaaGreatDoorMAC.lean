import Derived.Test.YtakkdniikhgpdaaGreatDoorMAB
namespace Go.Proofs.YtakkdniikhgpdaaGreatDoor
open Go.RowKit

/-- A reader's step: the byte at i (0 at the end) and where it stands then. -/
def nx (zs : List Int) (i : Nat) : Int × Nat := if i < zs.length then (zs[i]?.getD 0, i + 1) else (0, i)
theorem nx_bd {zs : List Int} (h : Bys zs) (i : Nat) : 0 ≤ (nx zs i).1 ∧ (nx zs i).1 ≤ 255 := by
  unfold nx; split
  · exact h.get i
  · simp
theorem nx_le {zs : List Int} {i : Nat} (h : i ≤ zs.length) : (nx zs i).2 ≤ zs.length := by
  unfold nx; split <;> simp only <;> omega

/-- A reader's box. -/
def Rdr (F : Nat) (w : World) (vb : Value) (i : Int) : Prop := w.heap[F]? = some (.cells #[vb, .int .i64 i] 65 (0, 0))
theorem Rdr.c0 {F : Nat} {w : World} {vb : Value} {i : Int} (h : Rdr F w vb i) : w.cell? ⟨F, 0, none⟩ = some vb := by rw [cell_of_row w F 0 _ _ _ h]; rfl
theorem Rdr.c1 {F : Nat} {w : World} {vb : Value} {i : Int} (h : Rdr F w vb i) : w.cell? ⟨F, 1, none⟩ = some (.int .i64 i) := by rw [cell_of_row w F 1 _ _ _ h]; rfl
theorem Rdr.fr {F : Nat} {w : World} {vb : Value} {i : Int} (h : Rdr F w vb i) (j : Nat) : w.frozen? ⟨F, j, none⟩ = false := frozen_of_row w F j _ _ h
theorem Rdr.set1 {F : Nat} {w : World} {vb : Value} {i q : Int} (h : Rdr F w vb i) : Rdr F (w.setCell ⟨F, 1, none⟩ (.int .i64 q)) vb q := heap_setCell_same w F 1 _ _ _ h
theorem Rdr.lt {F : Nat} {w : World} {vb : Value} {i : Int} (h : Rdr F w vb i) : F < w.heap.size := (Array.getElem?_eq_some_iff.1 h).1
theorem Rdr.kept {F : Nat} {w w' : World} {vb : Value} {i : Int} {row : Option Nat} (h : Rdr F w vb i) (hg : w.grownBy w' row) (hne : some F ≠ row) : Rdr F w' vb i := (hg.block F h.lt hne).trans h
theorem grown_setD (w : World) (F j : Nat) (v : Value) : w.grownBy (w.setCell ⟨F, j, none⟩ v) (some F) :=
  ⟨rfl, rfl, rfl, by simp, fun k _ hk => heap_setCell_other w ⟨F, j, none⟩ k v (fun e => hk (by simp [e]))⟩
theorem grown_rowD {a b : World} (h : a.grownBy b none) (r : Option Nat) : a.grownBy b r := ⟨h.os, h.tape, h.output, h.size, fun k hk _ => h.block k hk (by simp)⟩

set_option maxHeartbeats 400000 in
set_option maxRecDepth 100000 in
theorem next_any (F : Nat) (v : Value) (zs : List Int) (i : Nat) (w : World) (hF : Rdr F w v i) (hv : RdB F w v zs) (hby : Bys zs) (hm : zs.length ≤ 4194304) (hi : i ≤ zs.length) :
    Calls Tryz.prog 36 #[.pointer (some ⟨F, 0, none⟩)] w fun e w' => e = .returned (.int .i64 (nx zs i).1) ∧ Rdr F w' v ((nx zs i).2 : Int) ∧ w.grownBy w' (some F) := by
  obtain ⟨a, cap, rfl, hr⟩ := hv
  have q0 := hF.c0
  have q1 := hF.c1
  have r1 := hF.fr 1
  have HF : Hid (Rdr F w (.slice a zs.length cap) i) := hF
  clear hF
  by_cases hlt : i < zs.length
  · have HN : Hid (nx zs i = (zs[i]?.getD 0, i + 1)) := by unfold Hid nx; rw [if_pos hlt]
    obtain ⟨b, off, rfl, hb, hcl⟩ := hr (fun h => by simp [h] at hlt)
    have hcx := hcl i hlt
    have hcb := hby.get i
    generalize zs[i]?.getD 0 = z at hcx hcb HN
    have hlt' : (i : Int) < (zs.length : Int) := by omega
    have hbF : ¬ b = F := by omega
    obtain ⟨hz0, hz1⟩ := hcb
    clear hr hcl
    go_enter Tryz.func36, Tryz.ntmps36
    go_wp2
    go_quiet (fail)
    go_wp2
    go_quiet (fail)
    go_wp2
    go_ret
    refine ⟨by rw [HN.out]; rfl, ?_, ?_⟩
    · rw [HN.out]; exact HF.out.set1
    · exact grown_trans (grown_rowD (grown_drewN (World.grownBy.refl w none) _) _) (grown_setD _ F 1 _)
  · have HN : Hid (nx zs i = (0, i)) := by unfold Hid nx; rw [if_neg hlt]
    clear hr
    go_enter Tryz.func36, Tryz.ntmps36
    go_wp2
    go_quiet (fail)
    go_wp2
    go_ret
    refine ⟨by rw [HN.out]; rfl, ?_, ?_⟩
    · rw [HN.out]; exact HF.out
    · exact grown_drewN (World.grownBy.refl _ _) _

set_option maxHeartbeats 400000 in
set_option maxRecDepth 100000 in
theorem l1open_any (a : Option Addr) (cap : Nat) (zs : List Int) (w : World) (hm : zs.length ≤ 1048576) (hlc : zs.length ≤ cap) (hcm : cap ≤ 9223372036854775807) :
    Calls Tryz.prog 17 #[.slice a zs.length cap] w fun e w' => e = .returned (.pointer (some ⟨w.heap.size, 0, none⟩)) ∧ w.alloc (.cells #[.slice a (min 500 zs.length) cap, .int .i64 0] 65) = w' := by
  by_cases h : 500 < zs.length
  · have HE : Hid (min 500 zs.length = 500) := by unfold Hid; omega
    go_enter Tryz.func17, Tryz.ntmps17
    go_wp2
    go_ret
    exact ⟨rfl, by rw [HE.out]⟩
  · have HE : Hid (min 500 zs.length = zs.length) := by unfold Hid; omega
    go_enter Tryz.func17, Tryz.ntmps17
    go_wp2
    go_ret
    exact ⟨rfl, by rw [HE.out]⟩

end Go.Proofs.YtakkdniikhgpdaaGreatDoor

namespace Go.Proofs.YtakkdniikhgpdaaGreatDoor
open Go.RowKit

def oddL : List Int := [0, 9, 10, 13, 31, 32, 34, 39, 92, 47, 42, 127, 128, 160, 233, 2047, 2048, 8232, 8233, 65279, 65535, 65536, 128512, 1114111, 48, 57, 110, 117, 120, 36]
def surL : List Int := [55296, 56319, 56320, 57343]
/-- A drawn point, from the byte k. -/
def dpV (sur : Bool) (k : Int) : Int := if k < 150 then 97 + k % 20 else if k < 240 then oddL.getD (k % 30).toNat 0 else if sur then surL.getD (k % 4).toNat 0 else 945 + k % 16
def dp (zs : List Int) (sur : Bool) (i : Nat) : Int × Nat := (dpV sur (nx zs i).1, (nx zs i).2)

theorem lit_cell (W : World) (L : List Int) (t : TypeId) (j : Nat) (hj : j < L.length) (A : Array Value) (hA : A = (L.map (Value.int .i64)).toArray) :
    (W.alloc (.cells A t)).cell? ⟨W.heap.size, j, none⟩ = some (.int .i64 (L.getD j 0)) := by
  rw [cell_of_row (W.alloc (.cells A t)) W.heap.size j A t (0, 0) (heap_alloc_new W _), hA]
  simp [hj]
theorem odd_bd (j : Nat) : 0 ≤ oddL.getD j 0 ∧ oddL.getD j 0 ≤ 1114111 := by
  by_cases h : j < 30
  · have : ∀ m : Nat, m < 30 → 0 ≤ oddL.getD m 0 ∧ oddL.getD m 0 ≤ 1114111 := by decide
    exact this j h
  · rw [List.getD_eq_getElem?_getD, List.getElem?_eq_none (by simp [oddL]; omega)]; simp
theorem sur_bd (j : Nat) : 0 ≤ surL.getD j 0 ∧ surL.getD j 0 ≤ 1114111 := by
  by_cases h : j < 4
  · have : ∀ m : Nat, m < 4 → 0 ≤ surL.getD m 0 ∧ surL.getD m 0 ≤ 1114111 := by decide
    exact this j h
  · rw [List.getD_eq_getElem?_getD, List.getElem?_eq_none (by simp [surL]; omega)]; simp
theorem dp_bd (sur : Bool) (k : Int) (_h0 : 0 ≤ k) : 0 ≤ dpV sur k ∧ dpV sur k ≤ 1114111 := by
  unfold dpV
  split
  · omega
  · split
    · exact odd_bd _
    · split
      · exact sur_bd _
      · omega

set_option maxHeartbeats 1000000 in
set_option maxRecDepth 100000 in
theorem drawPoint_any (F : Nat) (v : Value) (zs : List Int) (i : Nat) (sur : Bool) (w : World) (hF : Rdr F w v i) (hv : RdB F w v zs) (hby : Bys zs) (hm : zs.length ≤ 4194304) (hi : i ≤ zs.length) :
    Calls Tryz.prog 54 #[.pointer (some ⟨F, 0, none⟩), .bool sur] w fun e w' => e = .returned (.int .i64 (dp zs sur i).1) ∧ Rdr F w' v ((dp zs sur i).2 : Int) ∧ w.grownBy w' (some F) := by
  have hnot : ∀ (x : Bool) (w : World), (Op.unary .not (.bool x)).run Tryz.prog w = .ok (.bool (!x)) w := fun _ _ => rfl
  have hkb := nx_bd hby i
  have hnx := next_any F v zs i w hF hv hby hm hi
  have HP : Hid (dp zs sur i = (dpV sur (nx zs i).1, (nx zs i).2)) := rfl
  generalize (nx zs i).1 = k at hkb hnx HP
  generalize (nx zs i).2 = j at hnx HP
  obtain ⟨hk0, hk1⟩ := hkb
  clear hF hv
  by_cases h1 : k < 150
  · have HD : Hid (dpV sur k = 97 + k % 20) := by unfold Hid dpV; rw [if_pos h1]
    go_enter Tryz.func54, Tryz.ntmps54
    go_wp2_with (go_at_call 36; refine hnx.mono ?_; rintro e w1 ⟨rfl, f1, g1⟩)
    go_ret
    exact ⟨by rw [HP.out, HD.out]; rfl, by rw [HP.out]; exact f1, g1⟩
  · by_cases h2 : k < 240
    · have HD : Hid (dpV sur k = oddL.getD (k % 30).toNat 0) := by unfold Hid dpV; rw [if_neg h1, if_pos h2]
      have hcell := fun W => lit_cell W oddL 3 (k % 30).toNat (by simp [oddL]; omega) _ rfl
      unfold oddL at hcell
      simp only [List.map_cons, List.map_nil] at hcell
      generalize hval : [0, 9, 10, 13, 31, 32, 34, 39, 92, 47, 42, 127, 128, 160, 233, 2047, 2048, 8232, 8233, 65279, 65535, 65536, 128512, 1114111, 48, 57, 110, 117, 120, 36].getD (k % 30).toNat (0 : Int) = y at hcell
      have HV : Hid (oddL.getD (k % 30).toNat 0 = y) := hval
      clear hval
      go_enter Tryz.func54, Tryz.ntmps54
      go_wp2_with (go_at_call 36; refine hnx.mono ?_; rintro e w1 ⟨rfl, f1, g1⟩)
      go_ret
      exact ⟨by rw [HP.out, HD.out, HV.out]; rfl, by rw [HP.out]; exact f1.kept (World.grownBy_alloc _ _ none) (by simp), grown_trans g1 (World.grownBy_alloc _ _ _)⟩
    · cases sur
      · have HD : Hid (dpV false k = 945 + k % 16) := by unfold Hid dpV; rw [if_neg h1, if_neg h2]; rfl
        go_enter Tryz.func54, Tryz.ntmps54
        go_wp2_with (go_at_call 36; refine hnx.mono ?_; rintro e w1 ⟨rfl, f1, g1⟩)
        go_ret
        exact ⟨by rw [HP.out, HD.out]; rfl, by rw [HP.out]; exact f1.kept (World.grownBy_alloc _ _ none) (by simp), grown_trans g1 (World.grownBy_alloc _ _ _)⟩
      · have HD : Hid (dpV true k = surL.getD (k % 4).toNat 0) := by unfold Hid dpV; rw [if_neg h1, if_neg h2]; rfl
        have hcell := fun (w1 : World) (o : Obj) => lit_cell (w1.alloc o) surL 3 (k % 4).toNat (by simp [surL]; omega) _ rfl
        unfold surL at hcell
        simp only [List.map_cons, List.map_nil, World.size_alloc] at hcell
        generalize hval : [55296, 56319, 56320, 57343].getD (k % 4).toNat (0 : Int) = y at hcell
        have HV : Hid (surL.getD (k % 4).toNat 0 = y) := hval
        clear hval
        go_enter Tryz.func54, Tryz.ntmps54
        go_wp2_with (go_at_call 36; refine hnx.mono ?_; rintro e w1 ⟨rfl, f1, g1⟩)
        go_ret
        exact ⟨by rw [HP.out, HD.out, HV.out]; rfl, by rw [HP.out]; exact (f1.kept (World.grownBy_alloc _ _ none) (by simp)).kept (World.grownBy_alloc _ _ none) (by simp), grown_trans (grown_trans g1 (World.grownBy_alloc _ _ _)) (World.grownBy_alloc _ _ _)⟩

end Go.Proofs.YtakkdniikhgpdaaGreatDoor

namespace Go.Proofs.YtakkdniikhgpdaaGreatDoor
open Go.RowKit

/-! The reader, and the memory beside it. -/

structure Zk (zs : List Int) : Prop where
  by' : Bys zs
  ln : zs.length ≤ 4194304
/-- The reader stands at i; its box is block F, what is drawn lies behind it. -/
structure KS (F : Nat) (v : Value) (zs : List Int) (i : Nat) (Γ : Gk) (w : World) : Prop where
  mt : MT (F + 1) Γ w
  rd : Rdr F w v (i : Int)
  le : i ≤ zs.length
  tx : RdB F w v zs
/-- What was there stays. -/
def Gex (Γ Γ' : Gk) : Prop := ∀ b x, Γ b = some x → Γ' b = some x
theorem Gex.refl (Γ : Gk) : Gex Γ Γ := fun _ _ h => h
theorem Gex.trans {A B C : Gk} (h : Gex A B) (h' : Gex B C) : Gex A C := fun b x hb => h' b x (h b x hb)
theorem Gex.upd {A B : Gk} (h : Gex A B) {g : Nat} {x : KK × Nat × List El} (hg : A g = none) : Gex A (updK B g x) := fun b y hb => by
  rw [updK_ne (fun e => by rw [e, hg] at hb; cases hb)]
  exact h b y hb
/-- The blocks below n say what they said. -/
def Gnw (n : Nat) (Γ Γ' : Gk) : Prop := ∀ b, b < n → Γ' b = Γ b
theorem Gnw.upd {n : Nat} {A B : Gk} (h : Gnw n A B) {g : Nat} {x : KK × Nat × List El} (hg : n ≤ g) : Gnw n A (updK B g x) := fun b hb => by
  rw [updK_ne (by omega)]
  exact h b hb
/-- What a draw leaves. -/
structure KD (F : Nat) (v : Value) (zs : List Int) (Γ : Gk) (w : World) (j : Nat) (Γ' : Gk) (w' : World) : Prop where
  st : KS F v zs j Γ' w'
  nw : Gnw w.heap.size Γ Γ'
  gr : w.grownBy w' (some F)
  no : ∀ g, w.heap.size ≤ g → Γ g = none
  lt : F + 1 ≤ w.heap.size
section
variable {F : Nat} {v : Value} {zs : List Int} {i j : Nat} {Γ Γ1 Γ2 : Gk} {w w1 w2 : World}
theorem KS.lt (h : KS F v zs i Γ w) : F + 1 ≤ w.heap.size := h.rd.lt
theorem KD.ex (h : KD F v zs Γ w i Γ1 w1) : Gex Γ Γ1 := fun b x hb => by
  by_cases hl : b < w.heap.size
  · rw [h.nw b hl]; exact hb
  · rw [h.no b (by omega)] at hb; cases hb
theorem KD.refl (h : KS F v zs i Γ w) : KD F v zs Γ w i Γ w := ⟨h, fun _ _ => rfl, World.grownBy.refl _ _, fun _ hg => h.mt.gone hg, h.lt⟩
theorem grown_two {a b c : World} {r : Option Nat} (h : a.grownBy b r) (h' : b.grownBy c r) : a.grownBy c r := ⟨h'.os.trans h.os, h'.tape.trans h.tape, h'.output.trans h.output, Nat.le_trans h.size h'.size, fun k hk hn => (h'.block k (Nat.lt_of_lt_of_le hk h.size) hn).trans (h.block k hk hn)⟩
theorem KD.trans (h : KD F v zs Γ w i Γ1 w1) (h' : KD F v zs Γ1 w1 j Γ2 w2) : KD F v zs Γ w j Γ2 w2 := ⟨h'.st, fun b hb => (h'.nw b (Nat.lt_of_lt_of_le hb h.gr.size)).trans (h.nw b hb), grown_two h.gr h'.gr, h.no, h.lt⟩
/-- The memory turns in blocks that are new since w. -/
theorem KD.turn (h : KD F v zs Γ w i Γ1 w1) {r : Option Nat} (hm : MT (F + 1) Γ2 w2) (g : w1.grownBy w2 r) (hr : ∀ b, r = some b → w.heap.size ≤ b) (he : Gnw w.heap.size Γ Γ2) : KD F v zs Γ w i Γ2 w2 := by
  have hF := h.lt
  refine ⟨⟨hm, h.st.rd.kept g (fun e => by have := hr F e.symm; omega), h.st.le, h.st.tx.beside g (fun b e => by have := hr b e; omega)⟩, he, ⟨g.os.trans h.gr.os, g.tape.trans h.gr.tape, g.output.trans h.gr.output, Nat.le_trans h.gr.size g.size, fun k hk hn => ?_⟩, h.no, h.lt⟩
  rw [g.block k (Nat.lt_of_lt_of_le hk h.gr.size) (fun e => by have := hr k e.symm; omega)]
  exact h.gr.block k hk hn
theorem KD.keep (h : KD F v zs Γ w i Γ1 w1) (g : w1.grownBy w2 none) : KD F v zs Γ w i Γ1 w2 := h.turn (h.st.mt.grown g (fun x e => by cases e)) g (fun b e => by cases e) h.nw
theorem KD.new (h : KD F v zs Γ w i Γ1 w1) (k : KK) (m : Nat) (ys : List El) (arr : Array Value) (mk : Nat × Nat) (hs : arr.size = m * k.sz) (hm : mk = (0, 0) ∨ mk = (arr.size, arr.size + 1)) (hl : ys.length ≤ m) (hk : Kds k ys) (hc : ∀ (j : Nat) (u : Value), (ens ys)[j]? = some u → arr[j]? = some u) :
    KD F v zs Γ w i (updK Γ1 w1.heap.size (k, m, ys)) (w1.alloc (.cells arr k.ty mk)) :=
  h.turn (h.st.mt.new (Nat.le_trans h.lt h.gr.size) k m ys arr mk hs hm hl hk hc) (World.grownBy_alloc _ _ none) (fun b e => by cases e) (h.nw.upd h.gr.size)
/-- One element in a block of its own. -/
theorem KD.new1 (h : KD F v zs Γ w i Γ1 w1) (e : El) (arr : Array Value) (ha : arr = e.en.toArray) : KD F v zs Γ w i (updK Γ1 w1.heap.size (e.kd, 1, [e])) (w1.alloc (.cells arr e.kd.ty)) := by
  subst ha
  refine h.new e.kd 1 [e] _ (0, 0) (by simp [El.len]) (.inl rfl) (Nat.le_refl _) (fun y hy => by simp at hy; rw [hy]) (fun j u hj => by simpa [ens] using hj)
theorem KD.set (h : KD F v zs Γ w i Γ1 w1) {b : Nat} {k : KK} {m : Nat} {ys : List El} (hb : Γ1 b = some (k, m, ys)) (hlo : w.heap.size ≤ b) {q f : Nat} {y y' : El} {u : Value} (hy : ys[q]? = some y) (hf : f < k.sz) (he : y'.en = y.en.set f u) (hkd : y'.kd = k) : KD F v zs Γ w i (updK Γ1 b (k, m, ys.set q y')) (w1.setCell ⟨b, q * k.sz + f, none⟩ u) :=
  h.turn (r := some b) (h.st.mt.set hb hy hf he hkd) ⟨rfl, rfl, rfl, by simp, fun x _ hn => heap_setCell_other w1 ⟨b, q * k.sz + f, none⟩ x u (fun e => hn (by rw [e]))⟩ (fun x e => by cases e; exact hlo) (h.nw.upd hlo)
/-- A block beside the drawn ones is written. -/
theorem KD.off (h : KD F v zs Γ w i Γ1 w1) {b : Nat} (hb : Γ1 b = none) (hlo : w.heap.size ≤ b) (j : Nat) (u : Value) : KD F v zs Γ w i Γ1 (w1.setCell ⟨b, j, none⟩ u) :=
  h.turn (r := some b) (fun c k m ys hc => by
    obtain ⟨h1, arr, mk, h2, h3⟩ := h.st.mt c k m ys hc
    exact ⟨h1, arr, mk, by rw [heap_setCell_other w1 ⟨b, j, none⟩ c u (fun e => by rw [e, hb] at hc; cases hc)]; exact h2, h3⟩) ⟨rfl, rfl, rfl, by simp, fun x _ hn => heap_setCell_other w1 ⟨b, j, none⟩ x u (fun e => hn (by rw [e]))⟩ (fun x e => by cases e; exact hlo) h.nw
/-- v's block is not older than B. -/
def Lo (B : Nat) (v : Sv) : Prop := ∀ a, v.1 = some a → B ≤ a.block
theorem Lo.nil (B : Nat) : Lo B nilS := fun a h => by cases h
theorem Lo.mono {B B' : Nat} {v : Sv} (h : Lo B v) (hB : B' ≤ B) : Lo B' v := fun a ha => Nat.le_trans hB (h a ha)
/-- 'append(o, els...)'. -/
theorem KD.apps (h : KD F v zs Γ w i Γ1 w1) {k : KK} {o : Sv} {ys : List El} (hv : Ful Γ1 k o ys) (hlo : Lo w.heap.size o) (b' o' c : Nat) (els : List El) (hq : 0 < els.length) (hk : Kds k els) (hsrc : ∀ (j : Nat) (u : Value), (ens els)[j]? = some u → w1.cell? ⟨b', o' + j, none⟩ = some u) (hb : ys.length + els.length ≤ 1000000) :
    ∃ g m w', (Builtin.append_ #[k.sl, k.sl] k.sl #[o.v, .slice (some ⟨b', o', none⟩) els.length c]).run Tryz.prog w1 = .ok (.slice (some ⟨g, 0, none⟩) (ys ++ els).length m) w' ∧ KD F v zs Γ w i (updK Γ1 g (k, m, ys ++ els)) w' ∧ (g = w1.heap.size ∨ (Γ1 g = some (k, m, ys) ∧ o = (some ⟨g, 0, none⟩, ys.length, m))) ∧ w.heap.size ≤ g ∧ m ≤ maxLen ∧ w1.grownBy w' (some g) := by
  obtain ⟨g, m, w', h1, h2, h3, h4, h5, h6⟩ := h.st.mt.app (Nat.le_trans h.lt h.gr.size) hv b' o' c els hq hk hsrc hb
  have hg : w.heap.size ≤ g := by
    rcases h3 with rfl | ⟨_, h3⟩
    · exact h.gr.size
    · exact hlo ⟨g, 0, none⟩ (by rw [h3])
  exact ⟨g, m, w', h1, h.turn h2 h6 (fun b e => by cases e; exact hg) (h.nw.upd hg), h3, hg, h5, h6⟩
theorem KS.next (h : KS F v zs i Γ w) (hz : Zk zs) : Calls Tryz.prog 36 #[.pointer (some ⟨F, 0, none⟩)] w fun e w' => e = .returned (.int .i64 (nx zs i).1) ∧ KD F v zs Γ w (nx zs i).2 Γ w' := by
  refine (next_any F v zs i w h.rd h.tx hz.by' hz.ln h.le).mono ?_
  rintro e w' ⟨rfl, f, g⟩
  exact ⟨rfl, ⟨h.mt.grown g (fun x e => by cases e; omega), f, nx_le h.le, h.tx.beside g (fun x e => by cases e; omega)⟩, fun _ _ => rfl, g, fun _ hg => h.mt.gone hg, h.lt⟩
theorem KD.next (h : KD F v zs Γ w i Γ1 w1) (hz : Zk zs) : Calls Tryz.prog 36 #[.pointer (some ⟨F, 0, none⟩)] w1 fun e w' => e = .returned (.int .i64 (nx zs i).1) ∧ KD F v zs Γ w (nx zs i).2 Γ1 w' ∧ w1.grownBy w' (some F) := by
  refine (h.st.next hz).mono ?_
  rintro e w' ⟨rfl, h'⟩
  exact ⟨rfl, h.trans h', h'.gr⟩
set_option maxHeartbeats 1000000 in
theorem KS.left (h : KS F v zs i Γ w) (hz : Zk zs) : Calls Tryz.prog 67 #[.pointer (some ⟨F, 0, none⟩)] w fun e w' => e = .returned (.int .i64 ((zs.length - i : Nat) : Int)) ∧ w.grownBy w' none := by
  have q0 := h.rd.c0
  have q1 := h.rd.c1
  have hl := hz.ln
  have hi := h.le
  obtain ⟨a, cap, hv, hr'⟩ := h.tx
  subst hv
  clear hr' h
  go_enter Tryz.func67, Tryz.ntmps67
  go_wp2
  go_quiet (fail)
  go_wp2
  go_ret
  exact ⟨by go_num, grown_drewN (World.grownBy.refl _ _) _⟩
end
end Go.Proofs.YtakkdniikhgpdaaGreatDoor

namespace Go.Proofs.YtakkdniikhgpdaaGreatDoor
open Go.RowKit

/-! What a value is, as it reads: over R, which says what a slice holds. -/

abbrev Rk := KK → Sv → List El → Prop
/-- A part of a block, from its begin on, is what v reads. -/
def Pre (Γ : Gk) : Rk := fun k v ys => (v = nilS ∧ ys = []) ∨ ∃ b m zs, v = (some ⟨b, 0, none⟩, ys.length, m) ∧ Γ b = some (k, m, zs) ∧ ys <+: zs ∧ m ≤ maxLen
theorem Ful.pre {Γ : Gk} {k : KK} {v : Sv} {ys : List El} (h : Ful Γ k v ys) : Pre Γ k v ys := by
  rcases h with h | ⟨b, m, h1, h2, h3⟩
  · exact .inl h
  · exact .inr ⟨b, m, ys, h1, h2, List.prefix_refl _, h3⟩
section
variable (R : Rk)
def JB (v : Sv) (t : List Int) : Prop := R .bs v (t.map .b)
def JI (v : Sv) (t : List Int) : Prop := R .is v (t.map .i)
def J1 : El → Cm → Prop
  | .c x t, c => x = c.b ∧ JB R t c.t
  | _, _ => False
def Js {α : Type} (P : El → α → Prop) : List El → List α → Prop
  | [], [] => True
  | e :: els, c :: cs => P e c ∧ Js P els cs
  | _, _ => False
def JC (v : Sv) (cs : List Cm) : Prop := ∃ els, R .cm v els ∧ Js (J1 R) els cs
def JD : El → Nod → Prop
  | .d k l m y x u n t, p => (k = p.k ∧ m = p.mem ∧ n = p.cnt) ∧ JC R l p.lead ∧ JI R y p.key ∧ JB R x p.text ∧ JI R u p.units ∧ JC R t p.tail
  | _, _ => False
def JN (v : Sv) (ns : List Nod) : Prop := ∃ els, R .nd v els ∧ Js (JD R) els ns
end
section
variable {R R' : Rk}
theorem Js.mono {α : Type} {P P' : El → α → Prop} (h : ∀ e c, P e c → P' e c) : ∀ {els : List El} {cs : List α}, Js P els cs → Js P' els cs
  | [], [], _ => trivial
  | _ :: _, _ :: _, ⟨h1, h2⟩ => ⟨h _ _ h1, Js.mono h h2⟩
  | [], _ :: _, h' => h'.elim
  | _ :: _, [], h' => h'.elim
theorem Js.app {α : Type} {P : El → α → Prop} : ∀ {els els' : List El} {cs cs' : List α}, Js P els cs → Js P els' cs' → Js P (els ++ els') (cs ++ cs')
  | [], _, [], _, _, h' => h'
  | _ :: _, _, _ :: _, _, ⟨h1, h2⟩, h' => ⟨h1, Js.app h2 h'⟩
  | [], _, _ :: _, _, h, _ => h.elim
  | _ :: _, _, [], _, h, _ => h.elim
theorem Js.len {α : Type} {P : El → α → Prop} : ∀ {els : List El} {cs : List α}, Js P els cs → els.length = cs.length
  | [], [], _ => rfl
  | _ :: _, _ :: _, ⟨_, h2⟩ => by simp [Js.len h2]
  | [], _ :: _, h' => h'.elim
  | _ :: _, [], h' => h'.elim
theorem Js.at {α : Type} {P : El → α → Prop} : ∀ {els : List El} {cs : List α}, Js P els cs → ∀ {j : Nat} {c : α}, cs[j]? = some c → ∃ e, els[j]? = some e ∧ P e c
  | [], [], _, j, c, hc => by simp at hc
  | e :: els, c' :: cs, ⟨h1, h2⟩, 0, c, hc => by simp at hc; subst hc; exact ⟨e, rfl, h1⟩
  | e :: els, c' :: cs, ⟨h1, h2⟩, j + 1, c, hc => by
    obtain ⟨e', h3, h4⟩ := Js.at h2 (j := j) (c := c) (by simpa using hc)
    exact ⟨e', by simpa using h3, h4⟩
  | [], _ :: _, h', _, _, _ => h'.elim
  | _ :: _, [], h', _, _, _ => h'.elim
theorem Js.set {α : Type} {P : El → α → Prop} : ∀ {els : List El} {cs : List α}, Js P els cs → ∀ (j : Nat) {e : El} {c : α}, P e c → Js P (els.set j e) (cs.set j c)
  | [], [], _, _, _, _, _ => trivial
  | _ :: _, _ :: _, ⟨_, h2⟩, 0, _, _, h => ⟨h, h2⟩
  | _ :: _, _ :: _, ⟨h1, h2⟩, j + 1, _, _, h => ⟨h1, Js.set h2 j h⟩
  | [], _ :: _, h', _, _, _, _ => h'.elim
  | _ :: _, [], h', _, _, _, _ => h'.elim
theorem Js.take {α : Type} {P : El → α → Prop} : ∀ {els : List El} {cs : List α}, Js P els cs → ∀ (j : Nat), Js P (els.take j) (cs.take j)
  | [], [], _, j => by simp; exact trivial
  | _ :: _, _ :: _, _, 0 => trivial
  | _ :: _, _ :: _, ⟨h1, h2⟩, j + 1 => ⟨h1, Js.take h2 j⟩
  | [], _ :: _, h', _ => h'.elim
  | _ :: _, [], h', _ => h'.elim
theorem Js.kds1 {els : List El} {cs : List Cm} (h : Js (J1 R) els cs) : Kds .cm els := by
  induction els generalizing cs with
  | nil => intro y hy; simp at hy
  | cons e els ih =>
    cases cs with
    | nil => exact h.elim
    | cons c cs =>
      intro y hy
      rcases List.mem_cons.1 hy with rfl | hy
      · cases y <;> first | rfl | exact h.1.elim
      · exact ih h.2 y hy
theorem Js.kdsD {els : List El} {cs : List Nod} (h : Js (JD R) els cs) : Kds .nd els := by
  induction els generalizing cs with
  | nil => intro y hy; simp at hy
  | cons e els ih =>
    cases cs with
    | nil => exact h.elim
    | cons c cs =>
      intro y hy
      rcases List.mem_cons.1 hy with rfl | hy
      · cases y <;> first | rfl | exact h.1.elim
      · exact ih h.2 y hy
theorem J1.mono (h : ∀ v ys, R .bs v ys → R' .bs v ys) : ∀ {e : El} {c : Cm}, J1 R e c → J1 R' e c
  | .c _ _, _, ⟨h1, h2⟩ => ⟨h1, h _ _ h2⟩
  | .b _, _, h' => h'.elim
  | .i _, _, h' => h'.elim
  | .d _ _ _ _ _ _ _ _, _, h' => h'.elim
theorem JC.mono (h : ∀ v ys, R .bs v ys → R' .bs v ys) (h' : ∀ v ys, R .cm v ys → R' .cm v ys) {v : Sv} {cs : List Cm} (hc : JC R v cs) : JC R' v cs := by
  obtain ⟨els, h1, h2⟩ := hc
  exact ⟨els, h' _ _ h1, h2.mono (fun e c => J1.mono h)⟩
/-- What is said of lists stays. -/
structure Rle (R R' : Rk) : Prop where
  b : ∀ v ys, R .bs v ys → R' .bs v ys
  i : ∀ v ys, R .is v ys → R' .is v ys
  c : ∀ v ys, R .cm v ys → R' .cm v ys
theorem JD.mono (h : Rle R R') : ∀ {e : El} {p : Nod}, JD R e p → JD R' e p
  | .d _ _ _ _ _ _ _ _, _, ⟨h1, h2, h3, h4, h5, h6⟩ => ⟨h1, h2.mono h.b h.c, h.i _ _ h3, h.b _ _ h4, h.i _ _ h5, h6.mono h.b h.c⟩
  | .b _, _, h' => h'.elim
  | .i _, _, h' => h'.elim
  | .c _ _, _, h' => h'.elim
end
section
variable {Γ Γ' : Gk}
theorem Ful.same {k : KK} {v : Sv} {ys : List El} (h : Ful Γ k v ys) (hg : ∀ b x, Γ b = some (k, x) → Γ' b = some (k, x)) : Ful Γ' k v ys := by
  rcases h with h | ⟨b, m, h1, h2, h3⟩
  · exact .inl h
  · exact .inr ⟨b, m, h1, hg b _ h2, h3⟩
theorem Gex.rle (h : Gex Γ Γ') : Rle (Ful Γ) (Ful Γ') := ⟨fun _ _ hf => hf.same (fun b _ => h b _), fun _ _ hf => hf.same (fun b _ => h b _), fun _ _ hf => hf.same (fun b _ => h b _)⟩
theorem Gex.ful (h : Gex Γ Γ') {k : KK} {v : Sv} {ys : List El} (hf : Ful Γ k v ys) : Ful Γ' k v ys := hf.same (fun b _ => h b _)
/-- A block of nodes turns. -/
theorem rle_nd {g : Nat} {x : Nat × List El} (hg : ∀ k y, Γ g = some (k, y) → k = .nd) : Rle (Ful Γ) (Ful (updK Γ g (.nd, x))) := by
  have : ∀ k, k ≠ KK.nd → ∀ b y, Γ b = some (k, y) → updK Γ g (.nd, x) b = some (k, y) := fun k hk b y hb => by
    rw [updK_ne]
    · exact hb
    · intro e; subst e; exact hk (hg _ _ hb)
  exact ⟨fun _ _ hf => hf.same (this _ (by simp)), fun _ _ hf => hf.same (this _ (by simp)), fun _ _ hf => hf.same (this _ (by simp))⟩
/-- Another block turns. -/
theorem Ful.beside {k : KK} {v : Sv} {ys : List El} (h : Ful Γ k v ys) {g : Nat} {x : KK × Nat × List El} (hg : ∀ y, Γ g ≠ some (k, y)) : Ful (updK Γ g x) k v ys := h.same fun b y hb => by
  rw [updK_ne]
  · exact hb
  · intro e; subst e; exact hg _ hb
theorem Pre.rle (Γ : Gk) : Rle (Ful Γ) (Pre Γ) := ⟨fun _ _ h => h.pre, fun _ _ h => h.pre, fun _ _ h => h.pre⟩
/-- A block has become longer. -/
theorem Pre.longer {k k' : KK} {v : Sv} {ys : List El} (h : Pre Γ k v ys) {g m : Nat} {zs els : List El} (hg : Γ g = none ∨ Γ g = some (k', m, zs)) : Pre (updK Γ g (k', m, zs ++ els)) k v ys := by
  rcases h with h | ⟨b, m', zs', h1, h2, h3, h4⟩
  · exact .inl h
  · by_cases e : b = g
    · subst e
      rcases hg with hg | hg
      · rw [hg] at h2; cases h2
      · rw [hg] at h2
        cases h2
        exact .inr ⟨b, m, zs ++ els, h1, updK_at _ _ _, h3.trans (List.prefix_append _ _), h4⟩
    · exact .inr ⟨b, m', zs', h1, by rw [updK_ne e]; exact h2, h3, h4⟩
end
/-! What is said is read. -/
section
variable {H : Nat} {Γ : Gk} {w : World}
theorem pre_at {k : KK} {b m : Nat} {ys zs : List El} (hm : MT H Γ w) (hb : Γ b = some (k, m, zs)) (hp : ys <+: zs) {j f : Nat} {y : El} (hy : ys[j]? = some y) (hf : f < k.sz) : w.cell? ⟨b, j * k.sz + f, none⟩ = y.en[f]? := by
  obtain ⟨r, rfl⟩ := hp
  exact (hm.cell hb (by rw [List.getElem?_append_left (List.getElem?_eq_some_iff.1 hy).1]; exact hy) hf).1
theorem pre_len {k : KK} {v : Sv} {ys : List El} (h : Pre Γ k v ys) (hm : MT H Γ w) : Sl v.v ys.length := by
  rcases h with ⟨rfl, rfl⟩ | ⟨b, m, zs, rfl, h2, h3, h4⟩
  · exact ⟨none, 0, rfl, Nat.le_refl _, by unfold maxLen; omega⟩
  · have := (hm.kds h2).2
    have := h3.length_le
    exact ⟨_, m, rfl, by omega, h4⟩
theorem JB.rd {v : Sv} {t : List Int} (h : JB (Pre Γ) v t) (hm : MT H Γ w) : RdB w.heap.size w v.v t ∧ Sl v.v t.length := by
  have hs := pre_len h hm
  rw [List.length_map] at hs
  refine ⟨?_, hs⟩
  rcases h with ⟨rfl, h0⟩ | ⟨b, m, zs, rfl, h2, h3, h4⟩
  · have : t = [] := by simpa using h0
    subst this
    exact ⟨none, 0, rfl, fun h => absurd rfl h⟩
  · refine ⟨_, m, by simp [Sv.v], fun _ => ⟨b, 0, rfl, (hm.lt h2).2, fun j hj => ?_⟩⟩
    have := pre_at hm h2 h3 (j := j) (f := 0) (y := .b t[j]) (by simp [hj]) (by decide)
    simp only [KK.sz, Nat.mul_one, Nat.add_zero] at this
    rw [Nat.zero_add, this, List.getElem?_eq_getElem hj]
    rfl
theorem JI.rd {v : Sv} {t : List Int} (h : JI (Pre Γ) v t) (hm : MT H Γ w) : RdI w.heap.size w v.v t ∧ Sl v.v t.length := by
  have hs := pre_len h hm
  rw [List.length_map] at hs
  refine ⟨?_, hs⟩
  rcases h with ⟨rfl, h0⟩ | ⟨b, m, zs, rfl, h2, h3, h4⟩
  · have : t = [] := by simpa using h0
    subst this
    exact ⟨none, 0, rfl, fun h => absurd rfl h⟩
  · refine ⟨_, m, by simp [Sv.v], fun _ => ⟨b, 0, rfl, (hm.lt h2).2, fun j hj => ?_⟩⟩
    have := pre_at hm h2 h3 (j := j) (f := 0) (y := .i t[j]) (by simp [hj]) (by decide)
    simp only [KK.sz, Nat.mul_one, Nat.add_zero] at this
    rw [Nat.zero_add, this, List.getElem?_eq_getElem hj]
    rfl
theorem JC.rd {v : Sv} {cs : List Cm} (h : JC (Pre Γ) v cs) (hm : MT H Γ w) : RdC w.heap.size w v.v cs := by
  obtain ⟨els, h1, h2⟩ := h
  have hl := h2.len
  obtain ⟨a, cap, hv, hc1, hc2⟩ := pre_len h1 hm
  rw [hl] at hv hc1
  refine ⟨a, cap, hv, hc1, hc2, fun h0 => ?_⟩
  rcases h1 with ⟨rfl, rfl⟩ | ⟨b, m, zs, rfl, h3, h4, h5⟩
  · exact absurd (by simpa using hl.symm) h0
  · obtain rfl : a = some ⟨b, 0, none⟩ := by
      simp only [Sv.v] at hv
      injection hv with h _ _
      exact h.symm
    refine ⟨b, 0, rfl, (hm.lt h3).2, fun j c hc => ?_⟩
    obtain ⟨e, he, hj⟩ := h2.at hc
    cases e with
    | c x t =>
      obtain ⟨rfl, ht⟩ := hj
      obtain ⟨r1, r2⟩ := ht.rd hm
      have e0 := pre_at hm h3 h4 he (f := 0) (by decide)
      have e1 := pre_at hm h3 h4 he (f := 1) (by decide)
      rw [Nat.zero_add]
      exact ⟨t.v, e0, e1, r1, r2⟩
    | b _ => exact hj.elim
    | i _ => exact hj.elim
    | d _ _ _ _ _ _ _ _ => exact hj.elim
theorem JN.rd {v : Sv} {ns : List Nod} (h : JN (Pre Γ) v ns) (hm : MT H Γ w) : RdN w.heap.size w v.v ns := by
  obtain ⟨els, h1, h2⟩ := h
  have hl := h2.len
  obtain ⟨a, cap, hv, hc1, hc2⟩ := pre_len h1 hm
  rw [hl] at hv hc1
  refine ⟨a, cap, hv, hc1, hc2, fun h0 => ?_⟩
  rcases h1 with ⟨rfl, rfl⟩ | ⟨b, m, zs, rfl, h3, h4, h5⟩
  · exact absurd (by simpa using hl.symm) h0
  · obtain rfl : a = some ⟨b, 0, none⟩ := by
      simp only [Sv.v] at hv
      injection hv with h _ _
      exact h.symm
    refine ⟨b, 0, rfl, (hm.lt h3).2, fun j p hp => ?_⟩
    obtain ⟨e, he, hj⟩ := h2.at hp
    cases e with
    | d k l mm y x u n t =>
      obtain ⟨⟨rfl, rfl, rfl⟩, c1, i1, b1, i2, c2⟩ := hj
      obtain ⟨r1, r2⟩ := i1.rd hm
      obtain ⟨r3, r4⟩ := b1.rd hm
      obtain ⟨r5, r6⟩ := i2.rd hm
      rw [Nat.zero_add]
      exact ⟨l.v, y.v, x.v, u.v, t.v, pre_at hm h3 h4 he (f := 0) (by decide), pre_at hm h3 h4 he (f := 1) (by decide), pre_at hm h3 h4 he (f := 2) (by decide), pre_at hm h3 h4 he (f := 3) (by decide), pre_at hm h3 h4 he (f := 4) (by decide), pre_at hm h3 h4 he (f := 5) (by decide), pre_at hm h3 h4 he (f := 6) (by decide), pre_at hm h3 h4 he (f := 7) (by decide), c1.rd hm, r1, r2, r3, r4, r5, r6, c2.rd hm⟩
    | b _ => exact hj.elim
    | i _ => exact hj.elim
    | c _ _ => exact hj.elim
end
end Go.Proofs.YtakkdniikhgpdaaGreatDoor

namespace Go.Proofs.YtakkdniikhgpdaaGreatDoor

/-! The drawn trees, as plain functions of the code. -/

def comW : List (List Int) := [[], [32, 99], [120, 32, 121, 32], [42], [47], [195, 169], [97, 10, 98], [10], [32, 123, 91], [42, 32, 47], [47, 47], [97, 10, 32, 32, 98, 10], [39], [42, 42]]
def noLf (t : List Int) : List Int := t.map fun c => if c = 10 then 46 else c
def comV (k : Int) : Cm := if k % 2 = 1 then ⟨true, comW.getD (k / 2 % 14).toNat []⟩ else ⟨false, noLf (comW.getD (k / 2 % 14).toNat [])⟩
def dCom (zs : List Int) (i : Nat) : Cm × Nat := (comV (nx zs i).1, (nx zs i).2)
def dComN (zs : List Int) : Nat → Nat → List Cm × Nat
  | 0, i => ([], i)
  | m + 1, i => ((dComN zs m i).1 ++ [(dCom zs (dComN zs m i).2).1], (dCom zs (dComN zs m i).2).2)
def dComs (zs : List Int) (rare : Int) (i : Nat) : List Cm × Nat :=
  if (nx zs i).1 % rare ≠ 0 then ([], (nx zs i).2) else dComN zs ((nx zs i).1 / rare % 3 + 1).toNat (nx zs i).2
def keyW : List (List Int) := [[97], [98], [107, 101, 121], [36, 120], [95], [97, 49], [110, 117, 108, 108], [97, 32, 98], [], [49, 97], [233], [108, 111, 110, 103, 95, 110, 97, 109, 101, 95, 111, 102, 95, 97, 95, 107, 101, 121], [73, 110, 102, 105, 110, 105, 116, 121]]
/-- A drawn unit. -/
def duOne (zs : List Int) (i : Nat) : Int × Nat :=
  if (nx zs i).1 % 5 = 0 then (55296 + (nx zs i).1 * 4, (nx zs i).2) else if (nx zs i).1 % 5 = 1 then (56320 + (nx zs i).1 * 4, (nx zs i).2)
  else ((dp zs true (nx zs i).2).1 % 65536, (dp zs true (nx zs i).2).2)
def dusN (zs : List Int) : Nat → Nat → List Int × Nat
  | 0, i => ([], i)
  | m + 1, i => ((dusN zs m i).1 ++ [(duOne zs (dusN zs m i).2).1], (duOne zs (dusN zs m i).2).2)
def dus (zs : List Int) (most : Int) (i : Nat) : List Int × Nat := dusN zs ((nx zs i).1 % most).toNat (nx zs i).2
def dKey (zs : List Int) (i : Nat) : List Int × Nat :=
  if 240 < (nx zs i).1 then dus zs 5 (nx zs i).2 else (keyW.getD ((nx zs i).1 % 13).toNat [], (nx zs i).2)
def numW : List (List Int) := [[48], [49], [45, 49], [43, 49], [49, 50, 46, 53], [46, 53], [53, 46], [49, 101, 51], [49, 69, 43, 51], [50, 101, 45, 49, 48], [48, 120, 49, 70], [45, 48, 88, 97, 98], [73, 110, 102, 105, 110, 105, 116, 121], [45, 73, 110, 102, 105, 110, 105, 116, 121], [43, 78, 97, 78], [78, 97, 78], [48, 46, 48], [49, 48], [45, 46, 53, 101, 49], [53, 46, 101, 50], [48, 101, 48], [43, 48, 120, 48]]
def dNum (zs : List Int) (i : Nat) : List Int × Nat := (numW.getD ((nx zs i).1 % 22).toNat [], (nx zs i).2)
def nod0 : Nod := ⟨0, [], false, [], [], [], 0, []⟩
def memH (key : List Int) : List Nod → List Nod
  | [] => []
  | n :: R => { n with mem := true, key := key } :: R
section
variable (zs : List Int) (f : Nat → List Nod × Nat) (obj : Bool)
/-- One value below. -/
def dItem (i : Nat) : List Nod × Nat := if obj then (memH (dKey zs (f i).2).1 (f i).1, (dKey zs (f i).2).2) else f i
/-- At most m of them: the values, how many, the place. -/
def dItems : Nat → Nat → List Nod × Nat × Nat
  | 0, i => ([], 0, i)
  | m + 1, i => if (dItems m i).2.1 = m ∧ (m < 2 ∨ (dItems m i).2.2 < zs.length) then ((dItems m i).1 ++ (dItem zs f obj (dItems m i).2.2).1, m + 1, (dItem zs f obj (dItems m i).2.2).2) else dItems m i
end
def dNodes (zs : List Int) (rare : Int) : Nat → Nat → List Nod × Nat
  | d, i =>
    let k := (nx zs i).1 % 16
    let l := dComs zs rare (nx zs i).2
    if k < 3 ∨ (d = 0 ∧ 9 < k) then ([{ nod0 with k := k % 3, lead := l.1 }], l.2)
    else if k < 6 then ([{ nod0 with k := 3, lead := l.1, text := (dNum zs l.2).1 }], (dNum zs l.2).2)
    else match d with
      | 0 => ([{ nod0 with k := 4, lead := l.1, units := (dus zs 7 l.2).1 }], (dus zs 7 l.2).2)
      | d + 1 =>
        if k < 9 then ([{ nod0 with k := 4, lead := l.1, units := (dus zs 7 l.2).1 }], (dus zs 7 l.2).2)
        else
          let m := (nx zs l.2).1 % 5
          let b := dItems zs (dNodes zs rare d) (decide (k % 2 = 1)) m.toNat (nx zs l.2).2
          let t := dComs zs rare b.2.2
          ({ nod0 with k := 5 + k % 2, lead := l.1, cnt := b.2.1, tail := t.1 } :: b.1, t.2)
def rareV (k1 k2 : Int) : Int := if k2 % 3 = 1 then 100000 else if k1 % 3 = 0 then 3 else 30
/-- What there is, put into an array with one more, at most m times. -/
def dMore (zs : List Int) (rare : Int) : Nat → List Nod × Nat → List Nod × Nat
  | 0, s => s
  | m + 1, s => if s.1.length < 6 ∧ s.2 + 4 < zs.length then dMore zs rare m ({ nod0 with k := 5, cnt := 2 } :: (s.1 ++ (dNodes zs rare 3 s.2).1), (dNodes zs rare 3 s.2).2) else s
def dGood (zs : List Int) (i : Nat) : (List Nod × List Cm) × Nat :=
  let k1 := nx zs i
  let k2 := nx zs k1.2
  let rare := rareV k1.1 k2.1
  let s := dMore zs rare 4 (dNodes zs rare 4 k2.2)
  let t := dComs zs rare s.2
  ((s.1, t.1), t.2)
def modN (ns : List Nod) (i : Nat) (g : Nod → Nod) : List Nod := match ns[i]? with | some n => ns.set i (g n) | none => ns
def spoil (T : List Nod × List Cm) (k : Int) (i : Nat) : List Nod × List Cm :=
  if k = 0 then (modN T.1 i fun n => { n with k := n.k + 1 }, T.2)
  else if k = 1 then (modN T.1 i fun n => { n with k := -1 }, T.2)
  else if k = 2 then (modN T.1 i fun n => { n with cnt := n.cnt + 1 }, T.2)
  else if k = 3 then (modN T.1 i fun n => { n with cnt := n.cnt - 1 }, T.2)
  else if k = 4 then (modN T.1 i fun n => { n with mem := !n.mem }, T.2)
  else if k = 5 then (modN T.1 i fun n => { n with key := n.key ++ [120] }, T.2)
  else if k = 6 then (modN T.1 i fun n => { n with text := n.text ++ [46] }, T.2)
  else if k = 7 then (modN T.1 i fun n => { n with units := n.units ++ [65536] }, T.2)
  else if k = 8 then (modN T.1 i fun n => { n with lead := n.lead ++ [⟨true, [97, 42, 47]⟩] }, T.2)
  else if k = 9 then (modN T.1 i fun n => { n with lead := n.lead ++ [⟨false, [97, 10, 98]⟩] }, T.2)
  else if k = 10 then (modN T.1 i fun n => { n with tail := n.tail ++ [⟨false, [116]⟩] }, T.2)
  else if k = 11 then (T.1.take (T.1.length - 1), T.2)
  else if k = 12 then (T.1 ++ [nod0], T.2)
  else if k = 13 then (T.1, T.2 ++ [⟨false, [255]⟩])
  else if k = 14 then (modN T.1 i fun n => { n with units := n.units ++ [7] }, T.2)
  else (modN T.1 i fun n => { n with lead := n.lead ++ [⟨true, [13]⟩] }, T.2)
def deepN (n : Nat) : List Nod := (List.range n).map fun i => { nod0 with k := 5, cnt := if i + 1 = n then 0 else 1 }
def dTree (zs : List Int) (i : Nat) : (List Nod × List Cm) × Nat :=
  let k := nx zs i
  if k.1 = 7 then ((deepN (10 + (nx zs k.2).1).toNat, []), (nx zs k.2).2)
  else if k.1 % 8 = 0 then
    let g := dGood zs k.2
    let a := nx zs g.2
    let b := nx zs a.2
    (spoil g.1 (a.1 % 16) (b.1 % g.1.1.length).toNat, b.2)
  else dGood zs k.2
end Go.Proofs.YtakkdniikhgpdaaGreatDoor

