import Derived.Test.YtakkdniikhgpdaaGreatDoorMAL
import Derived.Test.YtakkdniikhgpdaaGreatDoorMAN
import Derived.Test.YtakkdniikhgpdaaGreatDoorMAS
import Derived.Test.YtakkdniikhgpdaaGreatDoorMBI
import Derived.Test.YtakkdniikhgpdaaGreatDoorMBL
namespace Go.Proofs.YtakkdniikhgpdaaGreatDoor
open Go.RowKit

/-! Drawn file systems, as plain lists. -/
def namW : List (List Int) := [[97, 46, 106, 115, 111, 110], [98], [97, 46, 106, 115, 111, 110, 46, 116, 109, 112], [99, 111, 110, 102, 47, 120, 46, 106, 115, 111, 110, 53], [122, 122], [98, 46, 116, 109, 112]]
def cutD (t : List Int) : List Int := if 2000 < t.length then t.take 20 else t
def flOf (k : Int) (t : List Int) : Fl := ⟨namW.getD (k % 6).toNat [], cutD t, if k / 6 % 5 = 0 then k % (((cutD t).length : Int) + 1) else ((cutD t).length : Int)⟩
def fsN (zs : List Int) : Nat → Nat → List Fl × Nat
  | 0, i => ([], i)
  | m + 1, i => (withF (fsN zs m i).1 (flOf (nx zs (fsN zs m i).2).1 (txF zs (nx zs (fsN zs m i).2).2).1), (txF zs (nx zs (fsN zs m i).2).2).2)
def fName (m : Nat) : List Int := [102, 97 + ((m / 26 : Nat) : Int), 97 + ((m % 26 : Nat) : Int)]
def fillN (fs : List Fl) : Nat → List Fl
  | 0 => fs
  | m + 1 => withF (fillN fs m) ⟨fName m, [], 0⟩
def dFs (zs : List Int) (i : Nat) : List Fl × Nat :=
  let s := fsN zs ((nx zs i).1 % 5).toNat (nx zs i).2
  (if (nx zs s.2).1 = 3 then fillN s.1 (49 - s.1.length) else s.1, (nx zs s.2).2)
def modF (fs : List Fl) (q : Nat) (g : Fl → Fl) : List Fl := match fs[q]? with | some p => fs.set q (g p) | none => fs
def sp5 (zs : List Int) : Nat → List Fl → Nat → List Fl × Nat
  | 0, fs, i => (fs, i)
  | m + 1, fs, i => if (fs.length : Int) < 50 + (nx zs i).1 % 2 then sp5 zs m (fs ++ [⟨[126, (fs.length : Int)], [], 0⟩]) (nx zs i).2 else (fs, (nx zs i).2)
def spF (zs : List Int) (fs : List Fl) (i : Nat) : List Fl × Nat :=
  if fs.length = 0 then ([⟨[], [], 0⟩], (nx zs i).2)
  else
    let j := nx zs (nx zs i).2
    let q := (j.1 % fs.length).toNat
    if (nx zs i).1 % 7 = 0 then (modF fs q fun p => { p with s := p.d.length + 1 }, j.2)
    else if (nx zs i).1 % 7 = 1 then (modF fs q fun p => { p with s := -1 }, j.2)
    else if (nx zs i).1 % 7 = 2 then (modF fs q fun p => { p with n := [] }, j.2)
    else if (nx zs i).1 % 7 = 3 then (modF fs q fun p => { p with n := List.replicate (100 + (nx zs j.2).1 % 2).toNat 122 }, (nx zs j.2).2)
    else if (nx zs i).1 % 7 = 4 then (fs ++ (fs[q]?).toList, j.2)
    else if (nx zs i).1 % 7 = 5 then sp5 zs 60 fs j.2
    else (modF fs q fun p => { p with n := [109] }, j.2)
def dAny (zs : List Int) (i : Nat) : List Fl × Nat := if (nx zs i).1 % 10 = 0 then spF zs (dFs zs (nx zs i).2).1 (dFs zs (nx zs i).2).2 else dFs zs (nx zs i).2
/-- What DrawFsWrite draws: the files, the data. -/
def dWri (zs : List Int) : List Fl × List Int := ((dAny (zs.take 500) (nx (zs.take 500) 0).2).1, ddt ((zs.take 500).drop (nx (zs.take 500) 0).2))

/-! How great they are. -/
structure Smf (L : Nat) (fs : List Fl) : Prop where
  l : fs.length ≤ L
  b : ∀ p ∈ fs, BL 200 p.n ∧ BL 2000 p.d
theorem Smf.fss {L : Nat} {fs : List Fl} (h : Smf L fs) (hL : L ≤ 1000) : Fss fs := ⟨by have := h.l; omega, fun p hp => ⟨by have := (h.b p hp).1.1; omega, by have := (h.b p hp).2.1; omega⟩, fun p hp => ⟨(h.b p hp).1.2, (h.b p hp).2.2⟩⟩
theorem Smf.with {L : Nat} {fs : List Fl} (h : Smf L fs) {f : Fl} (hf : BL 200 f.n ∧ BL 2000 f.d) : Smf (L + 1) (withF fs f) := by
  refine ⟨?_, fun p hp => ?_⟩
  · unfold withF; rw [insF_length]; have := without_len fs f.n; have := h.l; omega
  · rcases insF_mem f _ p hp with rfl | hp
    · exact hf
    · exact h.b p (without_mem hp)
theorem cutD_bl {L : Nat} {t : List Int} (h : BL L t) : BL 2000 (cutD t) := by
  unfold cutD
  split
  · exact ⟨by simp; omega, fun z hz => h.2 z (List.mem_of_mem_take hz)⟩
  · exact ⟨by omega, h.2⟩
theorem nam_bl (k : Int) : BL 12 (namW.getD (k % 6).toNat []) := BLs.at (by decide) _
theorem flOf_bl {L : Nat} {t : List Int} (h : BL L t) (k : Int) : BL 200 (flOf k t).n ∧ BL 2000 (flOf k t).d := ⟨(nam_bl k).up (by omega), cutD_bl h⟩
theorem nam_in (k : Int) : namW.getD (k % 6).toNat [] ∈ namW := by
  have hn : (k % 6).toNat < namW.length := by simp [namW]; omega
  rw [List.getD_eq_getElem?_getD, List.getElem?_eq_getElem hn]
  exact List.getElem_mem hn
section
variable {zs : List Int}
theorem fsN_sm (hz : Bys zs) : ∀ (m i : Nat), Smf m (fsN zs m i).1 ∧ ∀ p ∈ (fsN zs m i).1, p.n ∈ namW
  | 0, i => ⟨⟨by simp [fsN], fun p h => by simp [fsN] at h⟩, fun p h => by simp [fsN] at h⟩
  | m + 1, i => by
    obtain ⟨h1, h2⟩ := fsN_sm hz m i
    refine ⟨h1.with (flOf_bl (tx_bl hz _) _), fun p hp => ?_⟩
    rcases insF_mem _ _ p hp with rfl | hp
    · exact nam_in _
    · exact h2 p (without_mem hp)
theorem fName_bl {m : Nat} (h : m ≤ 60) : BL 3 (fName m) := ⟨by simp [fName], fun z hz => by
  simp only [fName, List.mem_cons, List.not_mem_nil, or_false] at hz
  omega⟩
theorem fName_no (m : Nat) : fName m ∉ namW := by
  intro h
  have : namW.all (fun t => decide (t.head? ≠ some 102)) = true := by decide
  have := List.all_eq_true.1 this _ h
  simp [fName] at this
theorem fName_inj {a b : Nat} (h : fName a = fName b) : a = b := by
  simp only [fName, List.cons.injEq, true_and, and_true] at h
  omega
theorem with_new {fs : List Fl} {f : Fl} (h : ∀ p ∈ fs, p.n ≠ f.n) : (withF fs f).length = fs.length + 1 := by
  unfold withF
  rw [insF_length, show withoutF fs f.n = fs from List.filter_eq_self.2 fun p hp => by simpa using h p hp]
theorem fill_len {fs : List Fl} (h : ∀ p ∈ fs, p.n ∈ namW) : ∀ m, (fillN fs m).length = fs.length + m ∧ ∀ p ∈ fillN fs m, p.n ∈ namW ∨ ∃ j, j < m ∧ p.n = fName j
  | 0 => ⟨rfl, fun p hp => .inl (h p hp)⟩
  | m + 1 => by
    obtain ⟨h1, h2⟩ := fill_len h m
    refine ⟨?_, fun p hp => ?_⟩
    · rw [fillN, with_new, h1]
      · omega
      · intro p hp e
        rcases h2 p hp with h3 | ⟨j, hj, h3⟩
        · have e' : p.n = fName m := e
          rw [e'] at h3
          exact fName_no m h3
        · have := fName_inj (h3.symm.trans e); omega
    · rcases insF_mem _ _ p hp with rfl | hp
      · exact .inr ⟨m, by omega, rfl⟩
      · rcases h2 p (without_mem hp) with h3 | ⟨j, hj, h3⟩
        · exact .inl h3
        · exact .inr ⟨j, by omega, h3⟩
theorem fill_sm {L : Nat} {fs : List Fl} (h : Smf L fs) : ∀ m, m ≤ 60 → Smf (L + m) (fillN fs m)
  | 0, _ => h
  | m + 1, hm => by
    have := (fill_sm h m (by omega)).with (f := ⟨fName m, [], 0⟩) ⟨(fName_bl (by omega)).up (by omega), bl_nil⟩
    exact this
theorem dFs_sm (hz : Bys zs) (i : Nat) : Smf 60 (dFs zs i).1 := by
  have hb := nx_bd hz i
  obtain ⟨h1, h2⟩ := fsN_sm hz ((nx zs i).1 % 5).toNat (nx zs i).2
  unfold dFs
  simp only
  split
  · have := fill_sm h1 (49 - (fsN zs ((nx zs i).1 % 5).toNat (nx zs i).2).1.length) (by omega)
    exact ⟨by have := this.l; omega, this.b⟩
  · exact ⟨by have := h1.l; omega, h1.b⟩
theorem mod_sm {L : Nat} {fs : List Fl} (h : Smf L fs) (q : Nat) (g : Fl → Fl) (hg : ∀ p, BL 200 p.n ∧ BL 2000 p.d → BL 200 (g p).n ∧ BL 2000 (g p).d) : Smf L (modF fs q g) := by
  unfold modF
  split
  · rename_i p hp
    refine ⟨by rw [List.length_set]; exact h.l, fun x hx => ?_⟩
    rcases List.mem_or_eq_of_mem_set hx with hx | rfl
    · exact h.b x hx
    · exact hg p (h.b p (List.mem_of_getElem? hp))
  · exact h
theorem Smf.snoc {L : Nat} {fs : List Fl} (h : Smf L fs) {f : Fl} (hf : BL 200 f.n ∧ BL 2000 f.d) : Smf (L + 1) (fs ++ [f]) := ⟨by have := h.l; simp; omega, fun p hp => by
  rcases List.mem_append.1 hp with hp | hp
  · exact h.b p hp
  · simp at hp; subst hp; exact hf⟩
theorem sp5_sm (hz : Bys zs) : ∀ (m : Nat) (fs : List Fl) (i : Nat), Smf fs.length fs → fs.length ≤ 60 → (sp5 zs m fs i).1.length ≤ 60 ∧ ∀ p ∈ (sp5 zs m fs i).1, BL 200 p.n ∧ BL 2000 p.d
  | 0, fs, i, h, hl => ⟨hl, h.b⟩
  | m + 1, fs, i, h, hl => by
    have hb := nx_bd hz i
    rw [sp5]
    split
    · rename_i hc
      have hs := h.snoc (f := ⟨[126, (fs.length : Int)], [], 0⟩) ⟨⟨by simp, fun z hz => by simp at hz; omega⟩, bl_nil⟩
      refine sp5_sm hz m _ _ ⟨Nat.le_refl _, hs.b⟩ (by simp; omega)
    · exact ⟨hl, h.b⟩
theorem sp_sm (hz : Bys zs) {fs : List Fl} (h : Smf 60 fs) (i : Nat) : Smf 61 (spF zs fs i).1 := by
  have h61 : Smf 61 fs := ⟨by have := h.l; omega, h.b⟩
  unfold spF
  split
  · exact ⟨by simp, fun p hp => by simp at hp; subst hp; exact ⟨bl_nil, bl_nil⟩⟩
  · simp only
    split
    · exact mod_sm h61 _ _ (fun p hp => hp)
    · split
      · exact mod_sm h61 _ _ (fun p hp => hp)
      · split
        · exact mod_sm h61 _ _ (fun p hp => ⟨bl_nil, hp.2⟩)
        · split
          · exact mod_sm h61 _ _ (fun p hp => ⟨(bl_rep (by omega) _).up (by omega), hp.2⟩)
          · split
            · cases hq : fs[((nx zs (nx zs i).2).1 % fs.length).toNat]? with
              | none => simpa using h61
              | some p => exact h.snoc (h.b p (List.mem_of_getElem? hq))
            · split
              · have := sp5_sm hz 60 fs (nx zs (nx zs i).2).2 ⟨Nat.le_refl _, h.b⟩ h.l
                exact ⟨by omega, this.2⟩
              · exact mod_sm h61 _ _ (fun p hp => ⟨⟨by simp, fun z hz => by simp at hz; omega⟩, hp.2⟩)
theorem dAny_sm (hz : Bys zs) (i : Nat) : Smf 61 (dAny zs i).1 := by
  unfold dAny
  split
  · exact sp_sm hz (dFs_sm hz _) _
  · exact ⟨by have := (dFs_sm hz (nx zs i).2).l; omega, (dFs_sm hz _).b⟩
end
end Go.Proofs.YtakkdniikhgpdaaGreatDoor

namespace Go.Proofs.YtakkdniikhgpdaaGreatDoor
open Go.RowKit
attribute [-go_sem] Builtin.append_

set_option maxHeartbeats 2000000 in
set_option maxRecDepth 100000 in
theorem names_any (w : World) : Calls Tryz.prog 37 #[] w fun e w' => e = .returned (.slice (some ⟨w.heap.size, 0, none⟩) 6 6) ∧ (∀ n, n < 6 → w'.cell? ⟨w.heap.size, n, none⟩ = some (.string (strOfNums (namW.getD n [])))) ∧ w.grownBy w' none ∧ w'.heap.size = w.heap.size + 1 := by
  have HC : Hid (∀ n, n < 6 → (w.alloc (Obj.cells #[.string { data := #[97, 46, 106, 115, 111, 110] }, .string { data := #[98] }, .string { data := #[97, 46, 106, 115, 111, 110, 46, 116, 109, 112] }, .string { data := #[99, 111, 110, 102, 47, 120, 46, 106, 115, 111, 110, 53] }, .string { data := #[122, 122] }, .string { data := #[98, 46, 116, 109, 112] }] 9)).cell? ⟨w.heap.size, n, none⟩ = some (.string (strOfNums (namW.getD n [])))) := fun n hn => lit_cellK w namW 9 n (by simp [namW]; omega) #[.string { data := #[97, 46, 106, 115, 111, 110] }, .string { data := #[98] }, .string { data := #[97, 46, 106, 115, 111, 110, 46, 116, 109, 112] }, .string { data := #[99, 111, 110, 102, 47, 120, 46, 106, 115, 111, 110, 53] }, .string { data := #[122, 122] }, .string { data := #[98, 46, 116, 109, 112] }] rfl
  have HG := hide (World.grownBy_alloc w (Obj.cells #[.string { data := #[97, 46, 106, 115, 111, 110] }, .string { data := #[98] }, .string { data := #[97, 46, 106, 115, 111, 110, 46, 116, 109, 112] }, .string { data := #[99, 111, 110, 102, 47, 120, 46, 106, 115, 111, 110, 53] }, .string { data := #[122, 122] }, .string { data := #[98, 46, 116, 109, 112] }] 9) none)
  go_enter Tryz.func37, Tryz.ntmps37
  go_wp2
  go_ret
  exact ⟨rfl, HC.out, HG.out, by simp⟩

set_option maxHeartbeats 4000000 in
set_option maxRecDepth 100000 in
/-- spec.l7drawName. -/
theorem drawName_k {F : Nat} {v : Value} {zs : List Int} (hz : Zk zs) (i : Nat) (Γ : Gk) (w : World) (hs : KS F v zs i Γ w) :
    Calls Tryz.prog 18 #[.pointer (some ⟨F, 0, none⟩)] w fun e w' => (∃ a n c, e = .returned (.slice a n c)) ∧ KD F v zs Γ w (nx zs i).2 Γ w' := by
  have HN := hide ((KD.refl hs).next hz)
  have hkb := nx_bd hz.by' i
  generalize (nx zs i).1 = k at *
  generalize (nx zs i).2 = j at *
  obtain ⟨hk0, hk1⟩ := hkb
  clear hs hz
  go_enter Tryz.func18, Tryz.ntmps18
  go_wp2_with fail
  refine HN.out.mono ?_
  rintro e w1 ⟨rfl, D1, _⟩
  have HD1 := hide D1
  have HM := hide (names_any w1)
  clear D1 HN
  go_wp2_with fail
  refine HM.out.mono ?_
  rintro e w2 ⟨rfl, hc, g2, hsz⟩
  have HD2 := hide (HD1.out.keep g2)
  have HC := hide hc
  clear hc g2 hsz HD1 HM
  by_cases h1 : k = 250
  · clear HC
    rw [h1]
    go_wp2
    go_ret
    exact ⟨⟨_, _, _, rfl⟩, HD2.out⟩
  have b1 : (k == 250) = false := by simpa using h1
  by_cases h2 : 250 < k
  · have hq : -152 + k = ((-152 + k).toNat : Int) := by omega
    have HF := hide (fill_any 110 (-152 + k).toNat w2 (by omega))
    rw [← hq] at HF
    clear hq HC
    go_wp2_with fail
    refine HF.out.mono ?_
    rintro e w3 ⟨v3, rfl, o3, g3⟩
    have HD3 := hide (HD2.out.keep g3)
    obtain ⟨a3, c3, hv3, _, _⟩ := o3.sl
    generalize (List.replicate (-152 + k).toNat (110 : Int)).length = LL at hv3
    subst hv3
    clear o3 g3 HF HD2
    go_wp2
    go_ret
    exact ⟨⟨_, _, _, rfl⟩, HD3.out⟩
  · have hc := HC.out (k % 6).toNat (by omega)
    have hb := nam_bl k
    generalize namW.getD (k % 6).toNat [] = tt at *
    obtain ⟨cap6, w6, run6, t6, g6, _, _⟩ := conv_bytes tt hb.2 (by have := hb.1; omega) w2
    have HD6 := hide (HD2.out.keep g6)
    generalize tt.length = LL at run6
    clear t6 g6 HC HD2
    go_wp2
    go_ret
    exact ⟨⟨_, _, _, rfl⟩, HD6.out⟩
end Go.Proofs.YtakkdniikhgpdaaGreatDoor

namespace Go.Proofs.YtakkdniikhgpdaaGreatDoor
open Go.RowKit
attribute [-go_sem] Builtin.append_

/-! A row of files of one's own, whose texts lie apart from it and from block F. -/
def Txo (F : Nat) (g : Option Nat) (w : World) (u : Value) (t : List Int) : Prop :=
  ∃ a cap, u = .slice a t.length cap ∧ t.length ≤ cap ∧ cap ≤ maxLen ∧ (t ≠ [] → ∃ b off, a = some ⟨b, off, none⟩ ∧ b < w.heap.size ∧ b ≠ F ∧ g ≠ some b ∧ ∀ j, j < t.length → w.cell? ⟨b, off + j, none⟩ = some (.int .u8 (t[j]?.getD 0)))
theorem Txo.nil (F : Nat) (g : Option Nat) (w : World) : Txo F g w (.slice none 0 0) [] := ⟨none, 0, rfl, Nat.le_refl _, by unfold maxLen; omega, fun h => absurd rfl h⟩
theorem Txo.sl {F : Nat} {g : Option Nat} {w : World} {u : Value} {t : List Int} (h : Txo F g w u t) : Sl u t.length := by
  obtain ⟨a, cap, h1, h2, h3, _⟩ := h
  exact ⟨a, cap, h1, h2, h3⟩
theorem Txo.rd {F : Nat} {g : Option Nat} {w : World} {u : Value} {t : List Int} (h : Txo F g w u t) : RdB w.heap.size w u t := by
  obtain ⟨a, cap, h1, h2, h3, h4⟩ := h
  refine ⟨a, cap, h1, fun h0 => ?_⟩
  obtain ⟨b, off, e, hb, _, _, hc⟩ := h4 h0
  exact ⟨b, off, e, hb, hc⟩
/-- .. where only F, or the row, or nothing of old has turned; the row may lie in a new block then. -/
theorem Txo.step {F : Nat} {g g' r : Option Nat} {w w' : World} {u : Value} {t : List Int} (h : Txo F g w u t) (gr : w.grownBy w' r) (hr : r = none ∨ r = some F ∨ r = g) (hg : g' = g ∨ ∃ x, g' = some x ∧ w.heap.size ≤ x) : Txo F g' w' u t := by
  obtain ⟨a, cap, h1, h2, h3, h4⟩ := h
  refine ⟨a, cap, h1, h2, h3, fun h0 => ?_⟩
  obtain ⟨b, off, e, hb, hF, hg0, hc⟩ := h4 h0
  have hne : some b ≠ r := by
    rcases hr with rfl | rfl | rfl
    · simp
    · simpa using hF
    · exact fun e => hg0 e.symm
  refine ⟨b, off, e, Nat.lt_of_lt_of_le hb gr.size, hF, ?_, fun j hj => gr.cell (hc j hj) hne⟩
  rcases hg with rfl | ⟨x, rfl, hx⟩
  · exact hg0
  · intro e'; cases e'; omega
theorem txo_own {F B : Nat} {g : Option Nat} {w : World} {u : Value} {t : List Int} (h : OwB B w u t) (hF : F < B) (hg : ∀ k, g = some k → u.ownBlock ≠ some k) : Txo F g w u t := by
  have hsl := h.sl
  obtain ⟨a, cap, e, h1, h2⟩ := hsl
  refine ⟨a, cap, e, h1, h2, fun h0 => ?_⟩
  obtain ⟨a', cap', e', hr⟩ := h.rd
  rw [e] at e'
  cases e'
  obtain ⟨b, off, ha, hb, hc⟩ := hr h0
  subst ha
  rcases h.2 with ⟨hv, hn⟩ | ⟨g', cp, cur, hv, hB, _⟩
  · exact absurd (List.length_eq_zero_iff.1 (by simpa using hn)) h0
  · rw [e] at hv
    simp only [Value.slice.injEq, Option.some.injEq, Addr.mk.injEq] at hv
    obtain ⟨⟨rfl, rfl, _⟩, _, _⟩ := hv
    refine ⟨b, 0, rfl, hb, by omega, fun e2 => ?_, hc⟩
    exact hg b e2 (by rw [e]; rfl)
/-- A text apart from F that was laid behind the row. -/
theorem txo_new {F : Nat} {g : Option Nat} {w : World} {b cap : Nat} {t : List Int} (hc : ∀ j, j < t.length → w.cell? ⟨b, j, none⟩ = some (.int .u8 (t[j]?.getD 0))) (hb : b < w.heap.size) (hF : b ≠ F) (hg : g ≠ some b) (h1 : t.length ≤ cap) (h2 : cap ≤ maxLen) : Txo F g w (.slice (some ⟨b, 0, none⟩) t.length cap) t :=
  ⟨_, cap, rfl, h1, h2, fun _ => ⟨b, 0, rfl, hb, hF, hg, fun j hj => by rw [Nat.zero_add]; exact hc j hj⟩⟩
def RwF (F B : Nat) (w : World) (v : Value) (fs : List Fl) : Prop :=
  F < B ∧ ∃ xs : List (Value × Value), xs.length = fs.length ∧ w.ownsRow B 45 3 v fs.length (cellsF fs xs) ∧ ∀ (j : Nat) (p : Fl) (x : Value × Value), fs[j]? = some p → xs[j]? = some x → Txo F v.ownBlock w x.1 p.n ∧ Txo F v.ownBlock w x.2 p.d
theorem OwF.rw {F B : Nat} {w : World} {v : Value} {fs : List Fl} (h : OwF B w v fs) (hF : F < B) : RwF F B w v fs := by
  obtain ⟨xs, ho, ht⟩ := h
  refine ⟨hF, xs, ht.len, ho, fun j p x hp hx => ?_⟩
  obtain ⟨o1, o2, o3⟩ := ht.own j p x hp hx
  exact ⟨txo_own o1 hF (fun k hk => (o3 k hk).1), txo_own o2 hF (fun k hk => (o3 k hk).2)⟩
theorem RwF.rd {F B : Nat} {w : World} {v : Value} {fs : List Fl} (h : RwF F B w v fs) : RdF w.heap.size w v fs := by
  obtain ⟨hF, xs, hl, ho, hx⟩ := h
  exact row_rd hl ho (Nat.le_refl _) (fun j p x hp hxj => ⟨(hx j p x hp hxj).1.rd, (hx j p x hp hxj).1.sl, (hx j p x hp hxj).2.rd, (hx j p x hp hxj).2.sl⟩)
theorem RwF.lt {F B : Nat} {w : World} {v : Value} {fs : List Fl} (h : RwF F B w v fs) : ∀ k, v.ownBlock = some k → B ≤ k ∧ k < w.heap.size := fun k hk => World.ownsRow.lt h.2.choose_spec.2.1 k hk
theorem RwF.keep {F B : Nat} {w w' : World} {v : Value} {fs : List Fl} {r : Option Nat} (h : RwF F B w v fs) (g : w.grownBy w' r) (hr : r = none ∨ r = some F) : RwF F B w' v fs := by
  obtain ⟨hF, xs, hl, ho, hx⟩ := h
  refine ⟨hF, xs, hl, World.ownsRow.kept ho g ?_, fun j p x hp hxj => ⟨(hx j p x hp hxj).1.step g (by rcases hr with h | h <;> simp [h]) (.inl rfl), (hx j p x hp hxj).2.step g (by rcases hr with h | h <;> simp [h]) (.inl rfl)⟩⟩
  cases hv : v.ownBlock with
  | none => exact .inl rfl
  | some k =>
    refine .inr (fun e => ?_)
    have := (World.ownsRow.lt ho _ hv).1
    rcases hr with rfl | rfl
    · cases e
    · simp only [Option.some.injEq] at e; omega
theorem RwF.low {F B : Nat} {w : World} {v : Value} {fs : List Fl} (h : RwF F B w v fs) (a : Addr) (u : Value) (hb : v.ownBlock ≠ some a.block) (hx : ∀ (b off : Nat) (z : Value), w.cell? ⟨b, off, none⟩ = some z → b = a.block → ∃ u', z = u' ∧ ∀ q, z ≠ .int .u8 q) : RwF F B (w.setCell a u) v fs := by
  obtain ⟨hF, xs, hl, ho, hx'⟩ := h
  have hg : w.grownBy (w.setCell a u) (some a.block) := ⟨rfl, rfl, rfl, by simp, fun i _ hn => Below.heap_setCell _ _ _ _ (fun e => hn (by rw [e]))⟩
  have key : ∀ y t, Txo F v.ownBlock w y t → Txo F v.ownBlock (w.setCell a u) y t := fun y t h => by
    obtain ⟨a', cap, h1, h2, h3, h4⟩ := h
    refine ⟨a', cap, h1, h2, h3, fun h0 => ?_⟩
    obtain ⟨b, off, e, hb', hF', hg0, hc⟩ := h4 h0
    refine ⟨b, off, e, Nat.lt_of_lt_of_le hb' hg.size, hF', hg0, fun j hj => hg.cell (hc j hj) (fun e2 => ?_)⟩
    simp only [Option.some.injEq] at e2
    obtain ⟨_, _, hq⟩ := hx b (off + j) _ (hc j hj) e2
    exact hq _ rfl
  refine ⟨hF, xs, hl, World.ownsRow.kept ho hg (.inr (fun e => hb (by rw [e]))), fun j p x hp hxj => ⟨key _ _ (hx' j p x hp hxj).1, key _ _ (hx' j p x hp hxj).2⟩⟩
theorem set_selfL {l : List Value} {i : Nat} {u : Value} (h : l[i]? = some u) : l.set i u = l := by
  apply List.ext_getElem?
  intro j
  by_cases e : i = j
  · subst e
    rw [List.getElem?_set_self (List.getElem?_eq_some_iff.1 h).1, h]
  · rw [List.getElem?_set_ne e]
theorem cellsF_mod : ∀ (L : List Fl) (xs : List (Value × Value)) (k : Nat) (p' : Fl) (x' : Value × Value), xs.length = L.length → k < L.length → cellsF (L.set k p') (xs.set k x') = (((cellsF L xs).set (k * 3) x'.1).set (k * 3 + 1) x'.2).set (k * 3 + 2) (.int .i64 p'.s)
  | p :: L, x :: xs, 0, p', x', _, _ => by simp [cellsF]
  | p :: L, x :: xs, k + 1, p', x', h, hk => by
    simp only [List.length_cons, Nat.add_right_cancel_iff] at h
    have ih := cellsF_mod L xs k p' x' h (by simpa using hk)
    rw [List.set_cons_succ, List.set_cons_succ, cellsF, ih, cellsF, show (k + 1) * 3 = k * 3 + 3 by omega, show k * 3 + 3 + 1 = (k * 3 + 1) + 3 by omega, show k * 3 + 3 + 2 = (k * 3 + 2) + 3 by omega]
    rfl
  | [], _, _, _, _, _, hk => by simp at hk
  | _ :: _, [], _, _, _, h, _ => by simp at h
/-- A file of the row: where it lies. -/
theorem RwF.at {F B : Nat} {w : World} {v : Value} {fs : List Fl} (h : RwF F B w v fs) {q : Nat} (hq : q < fs.length) : ∃ (g cap : Nat) (x : Value × Value), v = .slice (some ⟨g, 0, none⟩) fs.length cap ∧ fs.length ≤ cap ∧ cap ≤ maxLen ∧ B ≤ g ∧ g < w.heap.size ∧ w.cell? ⟨g, q * 3, none⟩ = some x.1 ∧ w.cell? ⟨g, q * 3 + 1, none⟩ = some x.2 ∧ w.cell? ⟨g, q * 3 + 2, none⟩ = some (.int .i64 fs[q].s) ∧ (∀ j, w.frozen? ⟨g, j, none⟩ = false) ∧ Txo F (some g) w x.1 fs[q].n ∧ Txo F (some g) w x.2 fs[q].d ∧
    (∀ s', RwF F B (w.setCell ⟨g, q * 3 + 2, none⟩ (.int .i64 s')) v (fs.set q { fs[q] with s := s' })) ∧ (∀ u n', Txo F (some g) w u n' → RwF F B (w.setCell ⟨g, q * 3, none⟩ u) v (fs.set q { fs[q] with n := n' })) := by
  obtain ⟨hF, xs, hl, ho, hx⟩ := h
  obtain ⟨x, hxq, c0, c1, c2⟩ := cellsF_at fs xs q fs[q] hl (by simp [hq])
  rcases ho.2 with ⟨hv, hn⟩ | ⟨g, cap, cur, hv, hb, hg, hnc, hcm, hcs, ht⟩
  · omega
  · have hlt := World.ownsRow.lt ho g (by rw [hv]; rfl)
    have ho' : w.ownsRow B 45 3 (.slice (some ⟨g, 0, none⟩) fs.length cap) fs.length (cellsF fs xs) := by rw [← hv]; exact ho
    have hx0 := hx q fs[q] x (by simp [hq]) hxq
    rw [hv] at hx0
    have hcl := cellsF_len fs xs hl
    have hxl : q < xs.length := by omega
    have hxe : xs[q] = x := by rw [List.getElem?_eq_getElem hxl] at hxq; simpa using hxq
    refine ⟨g, cap, x, hv, hnc, hcm, hb, hlt.2, ?_, ?_, ?_, fun j => World.ownsRow.frozenAt ho' j, hx0.1, hx0.2, fun s' => ?_, fun u n' hu => ?_⟩
    · rw [World.ownsRow.cellAt ho' (q * 3) (by omega)]; exact c0
    · rw [World.ownsRow.cellAt ho' (q * 3 + 1) (by omega)]; exact c1
    · rw [World.ownsRow.cellAt ho' (q * 3 + 2) (by omega)]; exact c2
    · obtain ⟨s1, s2⟩ := World.ownsRow.stored ho' (q * 3 + 2) (.int .i64 s')
      refine ⟨hF, xs, by simp [hl], ?_, fun j p y hp hy => ?_⟩
      · rw [List.length_set, hv]
        have e := cellsF_mod fs xs q { fs[q] with s := s' } x hl hq
        rw [show xs.set q x = xs by rw [← hxe]; simp] at e
        rw [e, set_selfL c0, set_selfL c1]
        exact s1
      · by_cases hjq : q = j
        · subst hjq
          rw [List.getElem?_set_self hq] at hp
          cases hp
          rw [hv]
          rw [hxq] at hy
          cases hy
          exact ⟨hx0.1.step s2 (.inr (.inr rfl)) (.inl rfl), hx0.2.step s2 (.inr (.inr rfl)) (.inl rfl)⟩
        · rw [List.getElem?_set_ne hjq] at hp
          have := hx j p y hp hy
          rw [hv] at this ⊢
          exact ⟨this.1.step s2 (.inr (.inr rfl)) (.inl rfl), this.2.step s2 (.inr (.inr rfl)) (.inl rfl)⟩
    · obtain ⟨s1, s2⟩ := World.ownsRow.stored ho' (q * 3) u
      refine ⟨hF, xs.set q (u, x.2), by simp [hl], ?_, fun j p y hp hy => ?_⟩
      · rw [List.length_set, hv]
        rw [cellsF_mod fs xs q { fs[q] with n := n' } (u, x.2) hl hq, set_selfL (i := q * 3 + 1) (by rw [List.getElem?_set_ne (by omega)]; exact c1), set_selfL (i := q * 3 + 2) (by rw [List.getElem?_set_ne (by omega)]; exact c2)]
        exact s1
      · by_cases hjq : q = j
        · subst hjq
          rw [List.getElem?_set_self hq] at hp
          rw [List.getElem?_set_self hxl] at hy
          cases hp
          cases hy
          rw [hv]
          exact ⟨hu.step s2 (.inr (.inr rfl)) (.inl rfl), hx0.2.step s2 (.inr (.inr rfl)) (.inl rfl)⟩
        · rw [List.getElem?_set_ne hjq] at hp hy
          have := hx j p y hp hy
          rw [hv] at this ⊢
          exact ⟨this.1.step s2 (.inr (.inr rfl)) (.inl rfl), this.2.step s2 (.inr (.inr rfl)) (.inl rfl)⟩
/-- One file more. -/
theorem RwF.push {F B : Nat} {w : World} {v : Value} {fs : List Fl} (h : RwF F B w v fs) (b : Nat) (p : Fl) (x : Value × Value) (h0 : w.cell? ⟨b, 0, none⟩ = some x.1) (h1 : w.cell? ⟨b, 1, none⟩ = some x.2) (h2 : w.cell? ⟨b, 2, none⟩ = some (.int .i64 p.s)) (t1 : Txo F v.ownBlock w x.1 p.n) (t2 : Txo F v.ownBlock w x.2 p.d) (hB : B ≤ w.heap.size) (hn : fs.length ≤ 100000000) :
    ∃ a cap w', (Builtin.append_ #[23, 23] 23 #[v, .slice (some ⟨b, 0, none⟩) 1 1]).run Tryz.prog w = .ok (.slice a (fs.length + 1) cap) w' ∧ RwF F B w' (.slice a (fs.length + 1) cap) (fs ++ [p]) ∧ w.grownBy w' v.ownBlock ∧ ((Value.slice a (fs.length + 1) cap).ownBlock = v.ownBlock ∨ (Value.slice a (fs.length + 1) cap).ownBlock = some w.heap.size) := by
  obtain ⟨hF, xs, hl, ho, hx⟩ := h
  obtain ⟨v', w', hr, ho', g, hb, a, cap, rfl⟩ := append_fl B w v fs xs b p x hl ho h0 h1 h2 t1.sl t2.sl hB hn
  have hg' : (Value.slice a (fs.length + 1) cap).ownBlock = v.ownBlock ∨ ∃ y, (Value.slice a (fs.length + 1) cap).ownBlock = some y ∧ w.heap.size ≤ y := by
    rcases hb with e | e
    · exact .inl e
    · exact .inr ⟨_, e, Nat.le_refl _⟩
  refine ⟨a, cap, w', hr, ⟨hF, xs ++ [x], by simp [hl], ho', fun j q y hq hy => ?_⟩, g, hb⟩
  by_cases hj : j < fs.length
  · rw [List.getElem?_append_left hj] at hq
    rw [List.getElem?_append_left (by omega)] at hy
    have := hx j q y hq hy
    exact ⟨this.1.step g (.inr (.inr rfl)) hg', this.2.step g (.inr (.inr rfl)) hg'⟩
  · have hj2 : j = fs.length := by
      have := (List.getElem?_eq_some_iff.1 hq).1
      simp at this; omega
    subst hj2
    simp at hq
    rw [← hl] at hy
    simp at hy
    subst hq hy
    exact ⟨t1.step g (.inr (.inr rfl)) hg', t2.step g (.inr (.inr rfl)) hg'⟩
end Go.Proofs.YtakkdniikhgpdaaGreatDoor

namespace Go.Proofs.YtakkdniikhgpdaaGreatDoor
open Go.RowKit
attribute [-go_sem] Builtin.append_

/-- A block that holds a list of files' slice. -/
def Bx (W : World) (b : Nat) (u : Value) : Prop := W.heap[b]? = some (Obj.cells #[u] 25 (0, 0))
/-- A block that holds a file. -/
def Fx (W : World) (b : Nat) (x y s : Value) : Prop := W.heap[b]? = some (Obj.cells #[x, y, s] 45 (0, 0))
section
variable {W W' : World} {b : Nat} {u x y s : Value}
theorem Bx.c (h : Bx W b u) : W.cell? ⟨b, 0, none⟩ = some u := by rw [cell_of_row W b 0 _ _ _ h]; rfl
theorem Bx.fr (h : Bx W b u) : W.frozen? ⟨b, 0, none⟩ = false := frozen_of_row W b 0 _ _ h
theorem Bx.lt (h : Bx W b u) : b < W.heap.size := (Array.getElem?_eq_some_iff.1 h).1
theorem Bx.keep (h : Bx W b u) {r : Option Nat} (g : W.grownBy W' r) (hr : some b ≠ r) : Bx W' b u := (g.block b h.lt hr).trans h
theorem Bx.new (W : World) (u : Value) : Bx (W.alloc (.cells #[u] 25)) W.heap.size u := heap_alloc_new W _
theorem Bx.set (h : Bx W b u) (u' : Value) : Bx (W.setCell ⟨b, 0, none⟩ u') b u' := heap_setCell_same W b 0 _ _ _ h
theorem Bx.off (h : Bx W b u) (a : Addr) (u' : Value) (ha : b ≠ a.block) : Bx (W.setCell a u') b u := (heap_setCell_other W a b u' ha).trans h
theorem Fx.c0 (h : Fx W b x y s) : W.cell? ⟨b, 0, none⟩ = some x := by rw [cell_of_row W b 0 _ _ _ h]; rfl
theorem Fx.c1 (h : Fx W b x y s) : W.cell? ⟨b, 1, none⟩ = some y := by rw [cell_of_row W b 1 _ _ _ h]; rfl
theorem Fx.c2 (h : Fx W b x y s) : W.cell? ⟨b, 2, none⟩ = some s := by rw [cell_of_row W b 2 _ _ _ h]; rfl
theorem Fx.fr (h : Fx W b x y s) (j : Nat) : W.frozen? ⟨b, j, none⟩ = false := frozen_of_row W b j _ _ h
theorem Fx.keep (h : Fx W b x y s) {r : Option Nat} (g : W.grownBy W' r) (hr : some b ≠ r) : Fx W' b x y s := (g.block b (Array.getElem?_eq_some_iff.1 h).1 hr).trans h
theorem Fx.new (W : World) (x y s : Value) : Fx (W.alloc (.cells #[x, y, s] 45)) W.heap.size x y s := heap_alloc_new W _
theorem Fx.set1 (h : Fx W b x y s) (u : Value) : Fx (W.setCell ⟨b, 1, none⟩ u) b x u s := heap_setCell_same W b 1 _ _ _ h
theorem Fx.set2 (h : Fx W b x y s) (u : Value) : Fx (W.setCell ⟨b, 2, none⟩ u) b x y u := heap_setCell_same W b 2 _ _ _ h
theorem kk_fs (k : KK) : k.ty ≠ 25 ∧ k.ty ≠ 45 := by cases k <;> exact ⟨by decide, by decide⟩
theorem mt_none {H : Nat} {Γ : Gk} {arr : Array Value} {ty : TypeId} {mk : Nat × Nat} (hm : MT H Γ W) (hb : W.heap[b]? = some (Obj.cells arr ty mk)) (hty : ∀ k : KK, k.ty ≠ ty) : Γ b = none := by
  cases e : Γ b with
  | none => rfl
  | some z =>
    obtain ⟨k, m, ys⟩ := z
    obtain ⟨_, arr', mk', h2, _⟩ := hm b k m ys e
    rw [hb] at h2
    cases h2
    exact absurd rfl (hty k)
theorem KD.box {F : Nat} {v : Value} {zs : List Int} {Γ Γ1 : Gk} {w : World} {i : Nat} (D : KD F v zs Γ w i Γ1 W) (hb : Bx W b u) (hlo : w.heap.size ≤ b) (u' : Value) : KD F v zs Γ w i Γ1 (W.setCell ⟨b, 0, none⟩ u') := D.off (mt_none D.st.mt hb (fun k => (kk_fs k).1)) hlo 0 u'
theorem KD.fox {F : Nat} {v : Value} {zs : List Int} {Γ Γ1 : Gk} {w : World} {i : Nat} (D : KD F v zs Γ w i Γ1 W) (hb : Fx W b x y s) (hlo : w.heap.size ≤ b) (j : Nat) (u' : Value) : KD F v zs Γ w i Γ1 (W.setCell ⟨b, j, none⟩ u') := D.off (mt_none D.st.mt hb (fun k => (kk_fs k).2)) hlo j u'
end
theorem RwF.base {F B B' : Nat} {w : World} {v : Value} {fs : List Fl} (h : RwF F B w v fs) (hB : B' ≤ B) (hF : F < B') : RwF F B' w v fs := by
  obtain ⟨_, xs, hl, ho, hx⟩ := h
  exact ⟨hF, xs, hl, row_base hB ho, hx⟩
theorem RwF.nil {F B : Nat} (w : World) (hF : F < B) : RwF F B w (.slice none 0 0) [] := ⟨hF, [], rfl, ⟨by simp [cellsF], .inl ⟨rfl, rfl⟩⟩, fun j p x h _ => by simp at h⟩
theorem RwF.box {F B b : Nat} {w : World} {v : Value} {fs : List Fl} {a : Option Addr} {n c : Nat} (h : RwF F B w v fs) (hb : Bx w b (.slice a n c)) (hlt : b < B) (u : Value) : RwF F B (w.setCell ⟨b, 0, none⟩ u) v fs := by
  refine h.low ⟨b, 0, none⟩ u (fun e => by have := (h.lt b e).1; omega) (fun b' off z hz e => ⟨z, rfl, fun q e2 => ?_⟩)
  simp only at e
  subst e
  rw [cell_of_row w b' off _ _ _ hb] at hz
  cases off with
  | zero => simp at hz; rw [← hz] at e2; cases e2
  | succ o => simp at hz
/-- A text that is cut. -/
theorem Ab.cut {F : Nat} {w : World} {a : Option Addr} {n cap : Nat} {t : List Int} (h : Ab F w (.slice a n cap) t) {m : Nat} (hm : m ≤ t.length) : Ab F w (.slice a m cap) (t.take m) := by
  have hl : (t.take m).length = m := by simp; omega
  obtain ⟨⟨a', cap', e, h1, h2⟩, h3⟩ := h
  simp only [Value.slice.injEq] at e
  obtain ⟨rfl, rfl, rfl⟩ := e
  refine ⟨⟨a, cap, by rw [hl], by rw [hl]; omega, h2⟩, fun W g => ?_⟩
  obtain ⟨a', cap', e, hr⟩ := h3 W g
  simp only [Value.slice.injEq] at e
  obtain ⟨rfl, _, rfl⟩ := e
  refine ⟨a, cap, by rw [hl], fun h0 => ?_⟩
  obtain ⟨b, off, ha, hb, hc⟩ := hr (fun e => h0 (by rw [e]; simp))
  exact ⟨b, off, ha, hb, fun j hj => by rw [hl] at hj; rw [List.getElem?_take, if_pos hj]; exact hc j (by omega)⟩
theorem joinQ {Q P : Option Addr → Nat → Option Addr → Nat → Nat → World → Prop} {G : Prop} (main : (∀ a b c d e f, P a b c d e f → Q a b c d e f) → G) (key : ∀ a b c d e f, P a b c d e f → Q a b c d e f) : G := main key
theorem Fx.set0 {W : World} {b : Nat} {x y s : Value} (h : Fx W b x y s) (u : Value) : Fx (W.setCell ⟨b, 0, none⟩ u) b u y s := heap_setCell_same W b 0 _ _ _ h
theorem Txo.fox {F : Nat} {g : Option Nat} {W : World} {u : Value} {t : List Int} {b : Nat} {a1 a2 : Option Addr} {l1 l2 c1 c2 : Nat} {q : Int} (h : Txo F g W u t) (hf : Fx W b (.slice a1 l1 c1) (.slice a2 l2 c2) (.int .i64 q)) (j : Nat) (z : Value) : Txo F g (W.setCell ⟨b, j, none⟩ z) u t := by
  obtain ⟨a, cap, h1, h2, h3, h4⟩ := h
  refine ⟨a, cap, h1, h2, h3, fun h0 => ?_⟩
  obtain ⟨b', off, e, hb, hF, hg, hc⟩ := h4 h0
  have hne : b' ≠ b := fun e2 => by
    subst e2
    have := hc 0 (List.length_pos_iff.2 h0)
    rw [cell_of_row W b' _ _ _ _ hf] at this
    rcases hj : off + 0 with _ | _ | _ | n
    · rw [hj] at this; simp at this
    · rw [hj] at this; simp at this
    · rw [hj] at this; simp at this
    · rw [hj] at this; simp at this
  have gr : W.grownBy (W.setCell ⟨b, j, none⟩ z) (some b) := ⟨rfl, rfl, rfl, by simp, fun i _ hn => heap_setCell_other W ⟨b, j, none⟩ i z (fun e => hn (by rw [e]))⟩
  exact ⟨b', off, e, Nat.lt_of_lt_of_le hb gr.size, hF, hg, fun k hk => gr.cell (hc k hk) (by simpa using hne)⟩
theorem Txo.cut {F : Nat} {g : Option Nat} {w : World} {a : Option Addr} {n cap : Nat} {t : List Int} (h : Txo F g w (.slice a n cap) t) {m : Nat} (hm : m ≤ t.length) : Txo F g w (.slice a m cap) (t.take m) := by
  have hl : (t.take m).length = m := by simp; omega
  obtain ⟨a', cap', e, h1, h2, h3⟩ := h
  simp only [Value.slice.injEq] at e
  obtain ⟨rfl, rfl, rfl⟩ := e
  refine ⟨a, cap, by rw [hl], by rw [hl]; omega, h2, fun h0 => ?_⟩
  obtain ⟨b, off, ha, hb, hF, hg, hc⟩ := h3 (fun e => h0 (by rw [e]; simp))
  exact ⟨b, off, ha, hb, hF, hg, fun j hj => by rw [hl] at hj; rw [List.getElem?_take, if_pos hj]; exact hc j (by omega)⟩
theorem Ab.txo {F : Nat} {w : World} {u : Value} {t : List Int} (h : Ab F w u t) : Txo F none w u t := by
  obtain ⟨⟨a, cap, h1, h2, h3⟩, h4⟩ := h
  refine ⟨a, cap, h1, h2, h3, fun h0 => ?_⟩
  obtain ⟨a', cap', e, hr⟩ := h4 w (World.grownBy.refl _ _)
  rw [h1] at e
  cases e
  obtain ⟨b, off, ha, hb, hc⟩ := hr h0
  refine ⟨b, off, ha, hb, fun e => ?_, by simp, hc⟩
  subst e ha
  have gr : w.grownBy (w.setCell ⟨b, off + 0, none⟩ (.bool false)) (some b) := ⟨rfl, rfl, rfl, by simp, fun i _ hn => heap_setCell_other w ⟨b, off + 0, none⟩ i _ (fun e => hn (by rw [e]))⟩
  obtain ⟨a', cap', e, hr'⟩ := h4 _ gr
  rw [h1] at e
  cases e
  obtain ⟨b', off', ha', hb', hc'⟩ := hr' h0
  cases ha'
  have p1 := hc 0 (List.length_pos_iff.2 h0)
  have p2 := hc' 0 (List.length_pos_iff.2 h0)
  have p3 : (w.setCell ⟨b, off + 0, none⟩ (.bool false)).cell? ⟨b, off + 0, none⟩ = some (.bool false) := World.cell?_setCell_same _ _ _ p1
  rw [p2] at p3
  cases p3
theorem grown_later {F : Nat} {w W : World} (g : w.grownBy W (some F)) (b : Nat) (hb : w.heap.size ≤ b) (j : Nat) (z : Value) : w.grownBy (W.setCell ⟨b, j, none⟩ z) (some F) :=
  ⟨g.os, g.tape, g.output, by simpa using g.size, fun k hk hn => (heap_setCell_other W ⟨b, j, none⟩ k z (by simp only; omega)).trans (g.block k hk hn)⟩
/-- Two operations stand ready. -/
theorem anyI_two {P : Program} {ops : Array Oper} {Q : Exit → Act → World → Prop} {md : Region.Mode} {I : World → Prop} {ex : Nat → Bool} {i j fuel : Nat} {listed : Array Bool} {a : Act} {w : World} (hr : Region.ready md ops listed = [i, j])
    (h : wpOp P ops Q i (fun a' w' => (ex i = true ∨ I w') ∧ anyI P md ops Q I ex fuel (listed.setIfInBounds i true) a' w') a w) (h' : wpOp P ops Q j (fun a' w' => (ex j = true ∨ I w') ∧ anyI P md ops Q I ex fuel (listed.setIfInBounds j true) a' w') a w) : anyI P md ops Q I ex (fuel + 1) listed a w :=
  ⟨fun h0 => (by rw [hr] at h0; cases h0), fun k hk => by
    rw [hr] at hk
    simp at hk
    rcases hk with rfl | rfl
    · exact h
    · exact h'⟩

theorem anyI_three {P : Program} {ops : Array Oper} {Q : Exit → Act → World → Prop} {md : Region.Mode} {I : World → Prop} {ex : Nat → Bool} {i j k fuel : Nat} {listed : Array Bool} {a : Act} {w : World} (hr : Region.ready md ops listed = [i, j, k])
    (h : wpOp P ops Q i (fun a' w' => (ex i = true ∨ I w') ∧ anyI P md ops Q I ex fuel (listed.setIfInBounds i true) a' w') a w) (h' : wpOp P ops Q j (fun a' w' => (ex j = true ∨ I w') ∧ anyI P md ops Q I ex fuel (listed.setIfInBounds j true) a' w') a w) (h'' : wpOp P ops Q k (fun a' w' => (ex k = true ∨ I w') ∧ anyI P md ops Q I ex fuel (listed.setIfInBounds k true) a' w') a w) : anyI P md ops Q I ex (fuel + 1) listed a w :=
  ⟨fun h0 => (by rw [hr] at h0; cases h0), fun q hq => by
    rw [hr] at hq
    simp at hq
    rcases hq with rfl | rfl | rfl
    · exact h
    · exact h'
    · exact h''⟩
end Go.Proofs.YtakkdniikhgpdaaGreatDoor

