import Derived.Test.YtakkdniikhgpdaaGreatDoorMAA
import Derived.Test.YtakkdniikhgpdaaGreatDoorMAM
import Derived.Test.YtakkdniikhgpdaaGreatDoorNAW
import Derived.Test.YtakkdniikhgpdaaGreatDoorNBC
namespace Go.Proofs.YtakkdniikhgpdaaGreatDoor

/-! What FnFs asks of the lists. -/
theorem crashed_n (keep : Int) (f : Fl) : (crashed keep f).n = f.n := by unfold crashed; split <;> rfl
theorem crashed_ok {keep : Int} (hk : 0 ≤ keep) {f : Fl} (h : okF f = true) : okF (crashed keep f) = true := by
  unfold okF at h ⊢
  rw [crashed_n]
  rw [Bool.and_eq_true] at h ⊢
  refine ⟨h.1, ?_⟩
  have := of_decide_eq_true h.2
  refine decide_eq_true ?_
  unfold crashed
  split
  · simp only [List.length_take]; omega
  · simp only; omega
theorem crash_valid {keep : Int} (hk : 0 ≤ keep) {fs : List Fl} (h : validF fs = true) : validF (crashF keep fs) = true := by
  refine valid_mk (by rw [crashF, List.length_map]; exact valid_len50 h) (fun p hp => ?_) ?_
  · obtain ⟨q, hq, rfl⟩ := List.mem_map.1 hp
    exact crashed_ok hk (valid_ok h q hq)
  · have := valid_ascF h
    rw [AscF, crashF, List.pairwise_map]
    refine this.imp ?_
    intro a b hab
    rw [crashed_n, crashed_n]
    exact hab
theorem crash_none {keep : Int} {fs : List Fl} {n : List Int} (h : findF fs n = none) : findF (crashF keep fs) n = none := by
  refine find_of_none fun p hp => ?_
  obtain ⟨q, hq, rfl⟩ := List.mem_map.1 hp
  rw [crashed_n]
  exact find_noneF h q hq
theorem craF_ok {keep : Int} (hk : 0 ≤ keep) {fs : List Fl} (h : validF fs = true) : craF fs keep = crashF keep fs ∧ craC fs keep = 0 := by
  unfold craF craC
  rw [h, decide_eq_true hk]
  exact ⟨rfl, rfl⟩
theorem crashed_new (n d : List Int) {keep : Int} (hk : 0 ≤ keep) : (crashed keep ⟨n, d, 0⟩).d = d.take (min keep.toNat d.length) := by
  unfold crashed
  split
  · rename_i h
    simp only at h ⊢
    rw [Nat.min_eq_left (by omega), Int.zero_add]
  · rename_i h
    simp only at h ⊢
    rw [Nat.min_eq_right (by omega), List.take_length]
theorem crashed_safe (n d : List Int) {keep : Int} (hk : 0 ≤ keep) : (crashed keep ⟨n, d, (d.length : Int)⟩).d = d := by
  unfold crashed
  rw [if_neg (by simp only; omega)]
/-- Found, by the name: a list with one file put in. -/
theorem find_same {fs : List Fl} (h : validF fs = true) {i : Nat} (hi : i < fs.length) {n : List Int} (hn : fs[i].n = n) : findF fs n = some fs[i] :=
  find_yes i hi (fun j hj e => by
    have := name_once h (show j < fs.length by omega) hi (e.trans hn.symm)
    omega) hn
structure Chn2 (F : List Fl) (n m d : List Int) (keep : Int) : Prop where
  v : validF F = true
  l : F.length < 50
  n0 : findF F n = none
  m0 : findF F m = none
  nm : n ≠ m
  on : nameOK n = true
  om : nameOK m = true
  k0 : 0 ≤ keep
theorem okF_mk {d : List Int} (x : List Int) (hx : nameOK x = true) (s : Int) (h0 : 0 ≤ s) (h1 : s ≤ (d.length : Int)) : okF ⟨x, d, s⟩ = true := by
  unfold okF
  rw [hx, decide_eq_true (show 0 ≤ s ∧ s ≤ _ from ⟨h0, h1⟩)]
  rfl
section
variable {F : List Fl} {n m d : List Int} {keep : Int} (H : Chn2 F n m d keep)
include H
theorem Chn2.a {i : Nat} (hp : Pos F n i) : validF (F.take i ++ (⟨n, d, 0⟩ : Fl) :: F.drop i) = true ∧ findF (F.take i ++ (⟨n, d, 0⟩ : Fl) :: F.drop i) n = some ⟨n, d, 0⟩ ∧ findF (F.take i ++ (⟨n, d, 0⟩ : Fl) :: F.drop i) m = none :=
  ⟨valid_ins H.v (p := ⟨n, d, 0⟩) hp H.n0 (okF_mk n H.on 0 (by omega) (by omega)) H.l, ins_find (p := ⟨n, d, 0⟩) H.n0, ins_find_no H.m0 H.nm⟩
/-- What is synced is where it was. -/
theorem Chn2.c {i j : Nat} (hp : Pos F n i) (hj : j < (F.take i ++ (⟨n, d, 0⟩ : Fl) :: F.drop i).length) (hn : (F.take i ++ (⟨n, d, 0⟩ : Fl) :: F.drop i)[j].n = n) : j = i := by
  have hl : i < (F.take i ++ (⟨n, d, 0⟩ : Fl) :: F.drop i).length := by have := hp.le; simp; omega
  refine name_once (H.a hp).1 hj hl ?_
  rw [hn, ins_at hp.le]
theorem Chn2.cs {i : Nat} (hp : Pos F n i) : validF (F.take i ++ (⟨n, d, (d.length : Int)⟩ : Fl) :: F.drop i) = true ∧ findF (F.take i ++ (⟨n, d, (d.length : Int)⟩ : Fl) :: F.drop i) n = some ⟨n, d, (d.length : Int)⟩ ∧ findF (F.take i ++ (⟨n, d, (d.length : Int)⟩ : Fl) :: F.drop i) m = none :=
  ⟨valid_ins H.v (p := ⟨n, d, (d.length : Int)⟩) hp H.n0 (okF_mk n H.on _ (by omega) (by omega)) H.l, ins_find (p := ⟨n, d, (d.length : Int)⟩) H.n0, ins_find_no H.m0 H.nm⟩
theorem Chn2.dd {k : Nat} (hp : Pos F m k) : validF (F.take k ++ (⟨m, d, (d.length : Int)⟩ : Fl) :: F.drop k) = true ∧ findF (F.take k ++ (⟨m, d, (d.length : Int)⟩ : Fl) :: F.drop k) n = none :=
  ⟨valid_ins H.v (p := ⟨m, d, (d.length : Int)⟩) hp H.m0 (okF_mk m H.om _ (by omega) (by omega)) H.l, ins_find_no H.n0 (fun e => H.nm e.symm)⟩
end
end Go.Proofs.YtakkdniikhgpdaaGreatDoor

namespace Go.Proofs.YtakkdniikhgpdaaGreatDoor

/-! FnFs's lists, one after the other. -/
theorem crash_find {keep : Int} {fs : List Fl} {n : List Int} {f : Fl} (h : findF fs n = some f) : findF (crashF keep fs) n = some (crashed keep f) := by
  unfold findF crashF at *
  rw [List.find?_map]
  have : (fun f => decide (f.n = n)) ∘ crashed keep = fun f => decide (f.n = n) := by
    funext x
    simp only [Function.comp, crashed_n]
  rw [this, h]
  rfl
theorem cutF_at {F : List Fl} {i : Nat} (hi : i ≤ F.length) (x : Fl) : (F.take i ++ x :: F.drop i).take i ++ (F.take i ++ x :: F.drop i).drop (i + 1) = F := by
  have hl : (F.take i).length = i := by simp; omega
  rw [List.take_append_of_le_length (by omega), List.take_take, Nat.min_self, List.drop_append, hl, show i + 1 - i = 1 by omega, List.drop_eq_nil_of_le (by omega), List.nil_append, List.drop_one, List.tail_cons, List.take_append_drop]
theorem setF_at {F : List Fl} {i : Nat} (hi : i ≤ F.length) (x y : Fl) : (F.take i ++ x :: F.drop i).set i y = F.take i ++ y :: F.drop i := by
  have hl : (F.take i).length = i := by simp; omega
  rw [List.set_append_right _ _ (by omega), hl, Nat.sub_self, List.set_cons_zero]
theorem crashF_ins (keep : Int) (F : List Fl) (i : Nat) (x : Fl) : crashF keep (F.take i ++ x :: F.drop i) = (crashF keep F).take i ++ crashed keep x :: (crashF keep F).drop i := by
  simp [crashF]
section
variable {F : List Fl} {n m d : List Int} {keep : Int} (H : Chn2 F n m d keep)
include H
/-- Written, crashed, read. -/
theorem Chn2.readA {i : Nat} (hp : Pos F n i) : craC (F.take i ++ (⟨n, d, 0⟩ : Fl) :: F.drop i) keep = 0 ∧ readC (craF (F.take i ++ (⟨n, d, 0⟩ : Fl) :: F.drop i) keep) n = 0 ∧ readL (craF (F.take i ++ (⟨n, d, 0⟩ : Fl) :: F.drop i) keep) n = d.take (min keep.toNat d.length) := by
  obtain ⟨h1, h2, _⟩ := H.a (d := d) hp
  obtain ⟨e1, e2⟩ := craF_ok H.k0 h1
  have hv := crash_valid H.k0 h1
  have hf := crash_find (keep := keep) h2
  refine ⟨e2, ?_, ?_⟩
  · rw [e1]; unfold readC okArg; rw [hv, H.on, hf]; rfl
  · rw [e1]; unfold readL okArg; rw [hv, H.on, hf]; exact crashed_new n d H.k0
theorem Chn2.sync {i j : Nat} (hp : Pos F n i) (hj : j < (F.take i ++ (⟨n, d, 0⟩ : Fl) :: F.drop i).length) (hn : (F.take i ++ (⟨n, d, 0⟩ : Fl) :: F.drop i)[j].n = n) : (F.take i ++ (⟨n, d, 0⟩ : Fl) :: F.drop i).set j { (F.take i ++ (⟨n, d, 0⟩ : Fl) :: F.drop i)[j] with s := ((F.take i ++ (⟨n, d, 0⟩ : Fl) :: F.drop i)[j].d.length : Int) } = F.take i ++ (⟨n, d, (d.length : Int)⟩ : Fl) :: F.drop i := by
  have e := H.c hp hj hn
  subst e
  have := ins_at (p := (⟨n, d, 0⟩ : Fl)) hp.le
  rw [this]
  exact setF_at hp.le _ _
theorem Chn2.ren {i j k : Nat} (hp : Pos F n i) (hj : j < (F.take i ++ (⟨n, d, (d.length : Int)⟩ : Fl) :: F.drop i).length) (hn : (F.take i ++ (⟨n, d, (d.length : Int)⟩ : Fl) :: F.drop i)[j].n = n)
    (hk : Pos ((F.take i ++ (⟨n, d, (d.length : Int)⟩ : Fl) :: F.drop i).take j ++ (F.take i ++ (⟨n, d, (d.length : Int)⟩ : Fl) :: F.drop i).drop (j + 1)) m k) : Pos F m k ∧ ((F.take i ++ (⟨n, d, (d.length : Int)⟩ : Fl) :: F.drop i).take j ++ (F.take i ++ (⟨n, d, (d.length : Int)⟩ : Fl) :: F.drop i).drop (j + 1)).take k ++ { (F.take i ++ (⟨n, d, (d.length : Int)⟩ : Fl) :: F.drop i)[j] with n := m } :: ((F.take i ++ (⟨n, d, (d.length : Int)⟩ : Fl) :: F.drop i).take j ++ (F.take i ++ (⟨n, d, (d.length : Int)⟩ : Fl) :: F.drop i).drop (j + 1)).drop k = F.take k ++ (⟨m, d, (d.length : Int)⟩ : Fl) :: F.drop k := by
  have hl : i < (F.take i ++ (⟨n, d, (d.length : Int)⟩ : Fl) :: F.drop i).length := by have := hp.le; simp; omega
  have e : j = i := name_once (H.cs hp).1 hj hl (by rw [hn, ins_at hp.le])
  subst e
  rw [cutF_at hp.le] at hk ⊢
  refine ⟨hk, ?_⟩
  rw [ins_at (p := (⟨n, d, (d.length : Int)⟩ : Fl)) hp.le]
/-- Renamed, crashed. -/
theorem Chn2.readD {k : Nat} (hp : Pos F m k) : craC (F.take k ++ (⟨m, d, (d.length : Int)⟩ : Fl) :: F.drop k) keep = 0 ∧ validF (craF (F.take k ++ (⟨m, d, (d.length : Int)⟩ : Fl) :: F.drop k) keep) = true ∧ findF (craF (F.take k ++ (⟨m, d, (d.length : Int)⟩ : Fl) :: F.drop k) keep) m ≠ none ∧ readC (craF (F.take k ++ (⟨m, d, (d.length : Int)⟩ : Fl) :: F.drop k) keep) m = 0 ∧ readL (craF (F.take k ++ (⟨m, d, (d.length : Int)⟩ : Fl) :: F.drop k) keep) m = d ∧ readC (craF (F.take k ++ (⟨m, d, (d.length : Int)⟩ : Fl) :: F.drop k) keep) n = 5 := by
  obtain ⟨h1, h2⟩ := H.dd (d := d) hp
  obtain ⟨e1, e2⟩ := craF_ok H.k0 h1
  have hv := crash_valid H.k0 h1
  have hf := crash_find (keep := keep) (ins_find (p := (⟨m, d, (d.length : Int)⟩ : Fl)) (i := k) H.m0)
  have hno := crash_none (keep := keep) h2
  rw [e1]
  refine ⟨e2, hv, by rw [hf]; simp, ?_, ?_, ?_⟩
  · unfold readC okArg; rw [hv, H.om, hf]; rfl
  · unfold readL okArg; rw [hv, H.om, hf]; exact crashed_safe m d H.k0
  · unfold readC okArg; rw [hv, H.on, hno]; rfl
theorem Chn2.rem {k j : Nat} (hp : Pos F m k) (hj : j < (craF (F.take k ++ (⟨m, d, (d.length : Int)⟩ : Fl) :: F.drop k) keep).length) (hn : (craF (F.take k ++ (⟨m, d, (d.length : Int)⟩ : Fl) :: F.drop k) keep)[j].n = m) : (craF (F.take k ++ (⟨m, d, (d.length : Int)⟩ : Fl) :: F.drop k) keep).take j ++ (craF (F.take k ++ (⟨m, d, (d.length : Int)⟩ : Fl) :: F.drop k) keep).drop (j + 1) = crashF keep F := by
  obtain ⟨h1, _⟩ := H.dd (d := d) hp
  obtain ⟨e1, _⟩ := craF_ok H.k0 h1
  have hv := crash_valid H.k0 h1
  have hlk : k ≤ (crashF keep F).length := by have := hp.le; simp [crashF]; omega
  generalize hE : craF (F.take k ++ (⟨m, d, (d.length : Int)⟩ : Fl) :: F.drop k) keep = E at *
  have hE2 : E = (crashF keep F).take k ++ crashed keep ⟨m, d, (d.length : Int)⟩ :: (crashF keep F).drop k := by rw [e1, crashF_ins]
  rw [← e1] at hv
  have hl : k < E.length := by rw [hE2]; simp; omega
  have e : j = k := by
    refine name_once hv hj hl ?_
    rw [hn]
    have : E[k] = crashed keep ⟨m, d, (d.length : Int)⟩ := by
      simp only [hE2]
      exact ins_at hlk _
    rw [this, crashed_n]
  subst e
  rw [hE2]
  exact cutF_at hlk _
end
end Go.Proofs.YtakkdniikhgpdaaGreatDoor

namespace Go.Proofs.YtakkdniikhgpdaaGreatDoor
open Go.RowKit

/-- What the law asks of an answer: not too long. -/
def Lens (R : List Fl) : Prop := R.length ≤ 1048577 ∧ (∀ p ∈ R, p.n.length ≤ 4194304 ∧ p.d.length ≤ 4194304) ∧ 1 + totM R ≤ 1000000000000
theorem lens_of {R : List Fl} (h1 : R.length ≤ 1048577) (h2 : ∀ p ∈ R, p.n.length ≤ 1048576 ∧ p.d.length ≤ 1048576) (h3 : totM R ≤ 4194304) : Lens R :=
  ⟨h1, fun p hp => by have := h2 p hp; omega, by omega⟩
theorem totM_filter (q : Fl → Bool) : ∀ fs : List Fl, totM (fs.filter q) ≤ totM fs
  | [] => by simp [totM]
  | p :: ps => by
    have := totM_filter q ps
    by_cases h : q p = true
    · rw [List.filter_cons_of_pos h]; simp only [totM]; omega
    · rw [List.filter_cons_of_neg h]; simp only [totM]; omega
theorem totM_ins (f : Fl) : ∀ rs : List Fl, totM (insF f rs) = totM rs + (f.n.length + f.d.length + 1)
  | [] => by simp [insF, totM]
  | r :: rs => by
    unfold insF
    split
    · simp only [totM, totM_ins f rs]; omega
    · simp only [totM]; omega
theorem totM_with (fs : List Fl) (f : Fl) : totM (withF fs f) ≤ totM fs + (f.n.length + f.d.length + 1) := by
  unfold withF; rw [totM_ins]; have := totM_filter (fun g => decide (g.n ≠ f.n)) fs; unfold withoutF; omega
theorem with_fss {fs : List Fl} (hd : Fss fs) {f : Fl} (hf : f.n.length ≤ 1048576 ∧ f.d.length ≤ 1048576) : ∀ p ∈ withF fs f, p.n.length ≤ 1048576 ∧ p.d.length ≤ 1048576 := fun p hp => by
  unfold withF at hp
  rcases insF_mem f _ p hp with rfl | h
  · exact hf
  · exact hd.tlen p (without_mem h)
theorem with_len2 (fs : List Fl) (f : Fl) : (withF fs f).length ≤ fs.length + 1 := by unfold withF; rw [insF_length]; have := without_len fs f.n; omega
theorem totM_one {fs : List Fl} {f : Fl} (h : f ∈ fs) : (f.n.length : Int) + f.d.length + 1 ≤ totM fs := by
  induction fs with
  | nil => simp at h
  | cons p ps ih =>
    have := totM_nonneg ps
    simp only [List.mem_cons] at h
    rcases h with rfl | h
    · simp only [totM]; omega
    · have := ih h; simp only [totM]; omega
theorem lens_nil : Lens [] := ⟨by simp, by simp, by simp [totM]⟩
theorem lens_self {fs : List Fl} (hd : Fss fs) (hle : ((fs.length + tot fs : Nat) : Int) ≤ 1048576) : Lens fs := lens_of (by omega) hd.tlen (by have := totM_bd fs; omega)

end Go.Proofs.YtakkdniikhgpdaaGreatDoor

namespace Go.Proofs.YtakkdniikhgpdaaGreatDoor
open Go.RowKit

theorem totM_crash (keep : Int) (hk : 0 ≤ keep) : ∀ fs : List Fl, (∀ p ∈ fs, 0 ≤ p.s) → totM (crashF keep fs) ≤ totM fs
  | [], _ => by simp [crashF, totM]
  | p :: ps, h => by
    have ih := totM_crash keep hk ps (fun q hq => h q (by simp [hq]))
    have hc : ((crashed keep p).n.length : Int) + (crashed keep p).d.length ≤ p.n.length + p.d.length := by
      unfold crashed; split
      · simp; omega
      · simp
    show totM (crashed keep p :: crashF keep ps) ≤ _
    simp only [totM]; omega
theorem lenFsCrash {fs : List Fl} (z1 : Int) (hd : Fss fs) (hle : ((fs.length + tot fs : Nat) : Int) ≤ 1048576) : Lens (craF fs z1) := by
  unfold craF
  split
  · rename_i hc
    rw [Bool.and_eq_true] at hc
    obtain ⟨hv, hk⟩ := hc
    have hk0 : 0 ≤ z1 := by simpa using hk
    have h1 := totM_crash z1 hk0 fs (fun p hp => (valid_safe hv hp).1)
    have h3 := totM_bd fs
    refine lens_of (by simp [crashF]; omega) (fun p hp => ?_) (by omega)
    simp only [crashF, List.mem_map] at hp
    obtain ⟨q, hq, rfl⟩ := hp
    have := hd.tlen q hq
    unfold crashed; split
    · simp; omega
    · exact this
  · exact lens_nil

/-- What is asked of the program. -/
def ImplFsCrash (w : World) : Prop := ∀ (fs : List Fl) (z1 : Int), Fss fs → z1 ≤ 9223372036854775807 → -9223372036854775808 ≤ z1 → ∀ (u : Value) (w' : World), Below w.heap.size w w' → RdF w'.heap.size w' u fs → Calls Tryz.prog 10 #[.agg #[u], .int .i64 z1] w' fun e w'' => ∃ v', e = .returned (.tuple #[.agg #[v'], .int .i64 (craC fs z1)]) ∧ OwF w'.heap.size w'' v' (craF fs z1) ∧ w'.grownBy w'' none

end Go.Proofs.YtakkdniikhgpdaaGreatDoor

