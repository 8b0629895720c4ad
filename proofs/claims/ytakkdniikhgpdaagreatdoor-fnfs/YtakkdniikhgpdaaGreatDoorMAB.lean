import Derived.ArgAppend
import Derived.Handy
import Derived.Test.YtakkdniikhgpdaaGreatDoorMAA
namespace Go.Proofs.YtakkdniikhgpdaaGreatDoor
open Go.RowKit

def okPt (p : Int) : Bool := decide ((0 ≤ p ∧ p ≤ 1114111) ∧ ¬ (55296 ≤ p ∧ p ≤ 57343))
def need (p : Int) : Int := if okPt p then (if p < 128 then 1 else if p < 2048 then 2 else if p < 65536 then 3 else 4) else 0
/-- The form of a point. -/
def enc (p : Int) : List Int :=
  if p < 128 then [p] else if p < 2048 then [192 + p / 64, 128 + p % 64] else if p < 65536 then [224 + p / 4096, 128 + p / 64 % 64, 128 + p % 64]
  else [240 + p / 262144, 128 + p / 4096 % 64, 128 + p / 64 % 64, 128 + p % 64]
def encAll (zs : List Int) : List Int := zs.flatMap enc
def encR (zs : List Int) : List Int × Int := if zs.all okPt then (encAll zs, 0) else ([], 1)
/-- What k rounds leave: the number that is left and the bytes that go on. -/
def st : Nat → Int → Int × List Int
  | 0, p => (p, [])
  | k + 1, p => ((st k p).1 / 64, (128 + (st k p).1 % 64) :: (st k p).2)

theorem st_len (k : Nat) (p : Int) : (st k p).2.length = k := by
  induction k with
  | zero => rfl
  | succ k ih => simp [st, ih]
theorem st_bd (k : Nat) (p : Int) (h0 : 0 ≤ p) (h1 : p ≤ 1114111) : 0 ≤ (st k p).1 ∧ (st k p).1 ≤ 1114111 := by
  induction k with
  | zero => exact ⟨h0, h1⟩
  | succ k ih => simp only [st]; omega
theorem ok_bd {p : Int} (h : okPt p = true) : (0 ≤ p ∧ p ≤ 1114111) ∧ ¬ (55296 ≤ p ∧ p ≤ 57343) := of_decide_eq_true h
theorem enc1 (p : Int) (h : p < 128) : enc p = [p] := by simp only [enc, if_pos h]
theorem enc2 (p : Int) (h : ¬ p < 128) (h2 : p < 2048) : enc p = [192 + p / 64, 128 + p % 64] := by simp only [enc, if_neg h, if_pos h2]
theorem enc3 (p : Int) (h2 : ¬ p < 2048) (h3 : p < 65536) : enc p = [224 + p / 4096, 128 + p / 64 % 64, 128 + p % 64] := by
  simp only [enc, if_neg (show ¬ p < 128 by omega), if_neg h2, if_pos h3]
theorem enc4 (p : Int) (h3 : ¬ p < 65536) : enc p = [240 + p / 262144, 128 + p / 4096 % 64, 128 + p / 64 % 64, 128 + p % 64] := by
  simp only [enc, if_neg (show ¬ p < 128 by omega), if_neg (show ¬ p < 2048 by omega), if_neg h3]
theorem st2 (p : Int) (h : ¬ p < 128) (h2 : p < 2048) : (192 + (st 1 p).1) :: (st 1 p).2 = enc p := by rw [enc2 p h h2]; rfl
theorem st3 (p : Int) (h2 : ¬ p < 2048) (h3 : p < 65536) : (224 + (st 2 p).1) :: (st 2 p).2 = enc p := by
  rw [enc3 p h2 h3]; simp only [st, List.cons.injEq, and_true]; omega
theorem st4 (p : Int) (h3 : ¬ p < 65536) : (240 + (st 3 p).1) :: (st 3 p).2 = enc p := by
  rw [enc4 p h3]; simp only [st, List.cons.injEq, and_true]; omega
theorem enc_len (p : Int) : 1 ≤ (enc p).length ∧ (enc p).length ≤ 4 := by unfold enc; split <;> (try split) <;> (try split) <;> simp
theorem encAll_len (zs : List Int) : (encAll zs).length ≤ 4 * zs.length := by
  induction zs with
  | nil => simp [encAll]
  | cons p zs ih =>
    have := enc_len p
    simp only [encAll, List.flatMap_cons, List.length_append, List.length_cons] at ih ⊢
    omega
theorem encAll_step (zs : List Int) (k : Nat) (hk : k < zs.length) : encAll (zs.take (k + 1)) = encAll (zs.take k) ++ enc (zs[k]?.getD 0) := by
  rw [take_snoc zs k hk]; simp [encAll]
theorem encR_bad (zs : List Int) (h : zs.all okPt = false) : encR zs = ([], 1) := by simp [encR, h]
theorem encR_ok (zs : List Int) (h : zs.all okPt = true) : encR zs = (encAll zs, 0) := by simp [encR, h]
theorem encR_len (zs : List Int) : (encR zs).1.length ≤ 4 * zs.length := by
  unfold encR; split
  · exact encAll_len zs
  · simp
theorem ok_parts (p : Int) : okPt p = (isPt p && !isHi p && !isLo p) := by
  rw [Bool.eq_iff_iff]; simp [okPt, isPt, isHi, isLo]; omega

end Go.Proofs.YtakkdniikhgpdaaGreatDoor

namespace Go.Proofs.YtakkdniikhgpdaaGreatDoor
open Go.RowKit

def Bys (zs : List Int) : Prop := ∀ z ∈ zs, 0 ≤ z ∧ z ≤ 255
theorem Bys.get {zs : List Int} (h : Bys zs) (k : Nat) : 0 ≤ zs[k]?.getD 0 ∧ zs[k]?.getD 0 ≤ 255 := by
  by_cases hk : k < zs.length
  · rw [List.getElem?_eq_getElem hk]; exact h _ (List.getElem_mem hk)
  · rw [List.getElem?_eq_none (by omega)]; simp

/-- Further bytes taken in; -1 where one is none. -/
def foldc : Int → List Int → Int
  | v, [] => v
  | v, d :: r => if d / 64 = 2 then foldc (v * 64 + d % 64) r else -1
/-- What the first byte of a form of n bytes tells; -1 where it is none. -/
def lead (n : Nat) (c : Int) : Int :=
  if n = 1 ∧ c < 128 then c else if n = 2 ∧ c / 32 = 6 then c % 32 else if n = 3 ∧ c / 16 = 14 then c % 16 else if n = 4 ∧ c / 8 = 30 then c % 8 else -1
/-- What the first n bytes of s stand for; -1 where they are no form's shape. -/
def lv (s : List Int) (n : Nat) : Int :=
  if s.length < n then -1 else if lead n (s[0]?.getD 0) < 0 then -1 else foldc (lead n (s[0]?.getD 0)) ((s.drop 1).take (n - 1))
def hit (s : List Int) (n : Nat) : Bool := decide (0 ≤ lv s n) && (need (lv s n) == (n : Int))
/-- How many bytes the form at the head of s has; 0 where none stands. -/
def fsize (s : List Int) : Nat := if hit s 1 then 1 else if hit s 2 then 2 else if hit s 3 then 3 else if hit s 4 then 4 else 0
def pts : Nat → List Int → List Int
  | 0, _ => []
  | f + 1, s => if s = [] then [] else if fsize s = 0 then [] else lv s (fsize s) :: pts f (s.drop (fsize s))
def err : Nat → List Int → Nat → Option Nat
  | 0, _, _ => none
  | f + 1, s, k => if s = [] then none else if fsize s = 0 then some k else err f (s.drop (fsize s)) (k + fsize s)
def decR (bs : List Int) : List Int × Int × Int :=
  match err bs.length bs 0 with
  | none => (pts bs.length bs, 0, 0)
  | some k => ([], 2, (k : Int))

def widthR (bs : List Int) : Int := if (decR bs).2.1 = 0 then ((decR bs).1.length : Int) else -1

theorem pts_nil (f : Nat) : pts f [] = [] := by cases f <;> simp [pts]
theorem err_nil (f k : Nat) : err f [] k = none := by cases f <;> simp [err]
theorem pts_go {f : Nat} {s : List Int} (hs : s ≠ []) (h : fsize s ≠ 0) : pts (f + 1) s = lv s (fsize s) :: pts f (s.drop (fsize s)) := by simp [pts, hs, h]
theorem err_go {f k : Nat} {s : List Int} (hs : s ≠ []) (h : fsize s ≠ 0) : err (f + 1) s k = err f (s.drop (fsize s)) (k + fsize s) := by simp [err, hs, h]
theorem err_bad {f k : Nat} {s : List Int} (hs : s ≠ []) (h : fsize s = 0) : err (f + 1) s k = some k := by simp [err, hs, h]
theorem pts_len (f : Nat) : ∀ s : List Int, (pts f s).length ≤ f := by
  induction f with
  | zero => intro s; simp [pts]
  | succ f ih =>
    intro s
    unfold pts
    split
    · simp
    · split
      · simp
      · have := ih (s.drop (fsize s)); simp only [List.length_cons]; omega
theorem decR_len (bs : List Int) : (decR bs).1.length ≤ bs.length := by
  unfold decR; split
  · exact pts_len _ _
  · simp
theorem decR_ok {bs : List Int} (h : err bs.length bs 0 = none) : decR bs = (pts bs.length bs, 0, 0) := by unfold decR; rw [h]
theorem decR_bad {bs : List Int} {k : Nat} (h : err bs.length bs 0 = some k) : decR bs = ([], 2, (k : Int)) := by unfold decR; rw [h]
theorem hit_len {s : List Int} {n : Nat} (h : hit s n = true) : n ≤ s.length := by
  simp only [hit, Bool.and_eq_true, decide_eq_true_eq] at h
  have h1 := h.1
  unfold lv at h1
  split at h1
  · omega
  · omega
theorem fsize_le (s : List Int) : fsize s ≤ s.length := by
  unfold fsize
  split
  · exact hit_len ‹_›
  · split
    · exact hit_len ‹_›
    · split
      · exact hit_len ‹_›
      · split
        · exact hit_len ‹_›
        · omega
theorem fsize_four (s : List Int) : fsize s ≤ 4 := by
  unfold fsize; split <;> (try split) <;> (try split) <;> (try split) <;> omega

/-- What lies between two rounds: acc has come; from k on f rounds are left at the most. -/
def Mid (bs acc : List Int) (k : Nat) : Prop := k ≤ bs.length ∧ acc.length ≤ k ∧ ∃ f, bs.length - k ≤ f ∧ acc ++ pts f (bs.drop k) = pts bs.length bs ∧ err f (bs.drop k) k = err bs.length bs 0
theorem Mid.start (bs : List Int) : Mid bs [] 0 := ⟨Nat.zero_le _, Nat.le_refl _, bs.length, by omega, by simp, by simp⟩
theorem Mid.step {bs acc : List Int} {k : Nat} (h : Mid bs acc k) (hk : k < bs.length) (hf : fsize (bs.drop k) ≠ 0) :
    Mid bs (acc ++ [lv (bs.drop k) (fsize (bs.drop k))]) (k + fsize (bs.drop k)) := by
  obtain ⟨h1, ha, f, h2, h3, h4⟩ := h
  have hs : bs.drop k ≠ [] := by rw [ne_eq, List.drop_eq_nil_iff]; omega
  have hl := fsize_le (bs.drop k)
  rw [List.length_drop] at hl
  obtain ⟨f', rfl⟩ : ∃ f', f = f' + 1 := ⟨f - 1, by omega⟩
  rw [pts_go hs hf] at h3
  rw [err_go hs hf] at h4
  rw [List.drop_drop] at h3 h4
  refine ⟨by omega, by simp only [List.length_append, List.length_singleton]; omega, f', by omega, ?_, ?_⟩
  · rw [← h3]; simp
  · exact h4
theorem Mid.bad {bs acc : List Int} {k : Nat} (h : Mid bs acc k) (hk : k < bs.length) (hf : fsize (bs.drop k) = 0) : decR bs = ([], 2, (k : Int)) := by
  obtain ⟨h1, ha, f, h2, h3, h4⟩ := h
  have hs : bs.drop k ≠ [] := by rw [ne_eq, List.drop_eq_nil_iff]; omega
  obtain ⟨f', rfl⟩ : ∃ f', f = f' + 1 := ⟨f - 1, by omega⟩
  rw [err_bad hs hf] at h4
  exact decR_bad h4.symm
theorem Mid.done {bs acc : List Int} {k : Nat} (h : Mid bs acc k) (hk : ¬ k < bs.length) : decR bs = (acc, 0, 0) := by
  obtain ⟨h1, ha, f, h2, h3, h4⟩ := h
  rw [List.drop_eq_nil_of_le (by omega), pts_nil] at h3
  rw [List.drop_eq_nil_of_le (by omega), err_nil] at h4
  rw [decR_ok h4.symm, ← h3]; simp

theorem drop_at (bs : List Int) (k j : Nat) : (bs.drop k)[j]?.getD 0 = bs[k + j]?.getD 0 := by simp [List.getElem?_drop]
theorem foldc_step {s : List Int} {n k : Nat} {x : Int} (hk : k < n) (hn : n ≤ s.length) :
    foldc x ((s.drop k).take (n - k)) = if s[k]?.getD 0 / 64 = 2 then foldc (x * 64 + s[k]?.getD 0 % 64) ((s.drop (k + 1)).take (n - (k + 1))) else -1 := by
  rw [List.drop_eq_getElem_cons (by omega), show n - k = (n - (k + 1)) + 1 by omega, List.take_succ_cons, foldc]
  simp [show k < s.length by omega]
theorem lv_short {s : List Int} {n : Nat} (h : s.length < n) : lv s n = -1 := by simp [lv, h]
theorem lv_lead {s : List Int} {n : Nat} (h : n ≤ s.length) (hl : lead n (s[0]?.getD 0) < 0) : lv s n = -1 := by
  rw [lv, if_neg (by omega), if_pos hl]
theorem lv_fold {s : List Int} {n : Nat} (h : n ≤ s.length) (hl : 0 ≤ lead n (s[0]?.getD 0)) : lv s n = foldc (lead n (s[0]?.getD 0)) ((s.drop 1).take (n - 1)) := by
  rw [lv, if_neg (by omega), if_neg (by omega)]

end Go.Proofs.YtakkdniikhgpdaaGreatDoor

namespace Go.Proofs.YtakkdniikhgpdaaGreatDoor
open Go.RowKit

/-- A comment. -/
structure Cm where
  b : Bool
  t : List Int

theorem Rd.wideC {q : IntKind} {B B' : Nat} {w : World} {v : Value} {zs : List Int} (h : Rd q B w v zs) (hB : B ≤ B') : Rd q B' w v zs := by
  obtain ⟨a, cap, hv, hr⟩ := h
  refine ⟨a, cap, hv, fun h0 => ?_⟩
  obtain ⟨b, off, ha, hb, hc⟩ := hr h0
  exact ⟨b, off, ha, by omega, hc⟩

/-- One comment lies at block b from cell o on; its Text's value is tv. -/
structure CmAt (B : Nat) (w : World) (b o : Nat) (p : Cm) (tv : Value) : Prop where
  k : w.cell? ⟨b, o, none⟩ = some (.bool p.b)
  t : w.cell? ⟨b, o + 1, none⟩ = some tv
  rd : RdB B w tv p.t
  sl : Sl tv p.t.length

/-- The slice value v reads as the comments cs; all lies below block B. -/
def RdC (B : Nat) (w : World) (v : Value) (cs : List Cm) : Prop :=
  ∃ a cap, v = .slice a cs.length cap ∧ cs.length ≤ cap ∧ cap ≤ maxLen ∧ (cs ≠ [] → ∃ b off, a = some ⟨b, off, none⟩ ∧ b < B ∧ ∀ j p, cs[j]? = some p → ∃ tv, CmAt B w b (off + j * 2) p tv)

theorem CmAt.beside {B : Nat} {w w' : World} {b o : Nat} {p : Cm} {tv : Value} {row : Option Nat} (h : CmAt B w b o p tv) (hb : b < B) (hg : w.grownBy w' row) (hr : ∀ k, row = some k → B ≤ k) : CmAt B w' b o p tv :=
  have hn : some b ≠ row := fun e => by have := hr b e.symm; omega
  ⟨hg.cell h.k hn, hg.cell h.t hn, h.rd.beside hg hr, h.sl⟩
theorem RdC.beside {B : Nat} {w w' : World} {v : Value} {cs : List Cm} {row : Option Nat} (h : RdC B w v cs) (hg : w.grownBy w' row) (hr : ∀ k, row = some k → B ≤ k) : RdC B w' v cs := by
  obtain ⟨a, cap, hv, h1, h2, hh⟩ := h
  refine ⟨a, cap, hv, h1, h2, fun h0 => ?_⟩
  obtain ⟨b, off, ha, hb, hc⟩ := hh h0
  refine ⟨b, off, ha, hb, fun j p hp => ?_⟩
  obtain ⟨tv, ht⟩ := hc j p hp
  exact ⟨tv, ht.beside hb hg hr⟩
theorem RdC.keep {B : Nat} {w w' : World} {v : Value} {cs : List Cm} (h : RdC B w v cs) (hg : w.grownBy w' none) : RdC B w' v cs := h.beside hg (fun _ e => by cases e)
theorem RdC.wide {B B' : Nat} {w : World} {v : Value} {cs : List Cm} (h : RdC B w v cs) (hB : B ≤ B') : RdC B' w v cs := by
  obtain ⟨a, cap, hv, h1, h2, hh⟩ := h
  refine ⟨a, cap, hv, h1, h2, fun h0 => ?_⟩
  obtain ⟨b, off, ha, hb, hc⟩ := hh h0
  refine ⟨b, off, ha, by omega, fun j p hp => ?_⟩
  obtain ⟨tv, ht⟩ := hc j p hp
  exact ⟨tv, ⟨ht.k, ht.t, ht.rd.wideC hB, ht.sl⟩⟩
theorem RdC.at {B : Nat} {w : World} {v : Value} {cs : List Cm} (h : RdC B w v cs) (j : Nat) (hj : j < cs.length) :
    ∃ b off cap tv, v = .slice (some ⟨b, off, none⟩) cs.length cap ∧ b < B ∧ CmAt B w b (off + j * 2) cs[j] tv := by
  obtain ⟨a, cap, hv, h1, h2, hh⟩ := h
  obtain ⟨b, off, ha, hb, hc⟩ := hh (fun e => by rw [e] at hj; simp at hj)
  obtain ⟨tv, ht⟩ := hc j cs[j] (by simp [hj])
  exact ⟨b, off, cap, tv, by rw [hv, ha], hb, ht⟩
theorem RdC.sl {B : Nat} {w : World} {v : Value} {cs : List Cm} (h : RdC B w v cs) : Sl v cs.length := by
  obtain ⟨a, cap, hv, h1, h2, _⟩ := h
  exact ⟨a, cap, hv, h1, h2⟩

/-- A node. -/
structure Nod where
  k : Int
  lead : List Cm
  mem : Bool
  key : List Int
  text : List Int
  units : List Int
  cnt : Int
  tail : List Cm

/-- One node lies at block b from cell o on; lv, kv, xv, uv, tv are its lists' values. -/
structure NodAt (B : Nat) (w : World) (b o : Nat) (p : Nod) (lv kv xv uv tv : Value) : Prop where
  k : w.cell? ⟨b, o, none⟩ = some (.int .i64 p.k)
  lead : w.cell? ⟨b, o + 1, none⟩ = some lv
  mem : w.cell? ⟨b, o + 2, none⟩ = some (.bool p.mem)
  key : w.cell? ⟨b, o + 3, none⟩ = some kv
  text : w.cell? ⟨b, o + 4, none⟩ = some xv
  units : w.cell? ⟨b, o + 5, none⟩ = some uv
  cnt : w.cell? ⟨b, o + 6, none⟩ = some (.int .i64 p.cnt)
  tail : w.cell? ⟨b, o + 7, none⟩ = some tv
  rl : RdC B w lv p.lead
  rk : RdI B w kv p.key
  sk : Sl kv p.key.length
  rx : RdB B w xv p.text
  sx : Sl xv p.text.length
  ru : RdI B w uv p.units
  su : Sl uv p.units.length
  rt : RdC B w tv p.tail

/-- The slice value v reads as the nodes ns; all lies below block B. -/
def RdN (B : Nat) (w : World) (v : Value) (ns : List Nod) : Prop :=
  ∃ a cap, v = .slice a ns.length cap ∧ ns.length ≤ cap ∧ cap ≤ maxLen ∧ (ns ≠ [] → ∃ b off, a = some ⟨b, off, none⟩ ∧ b < B ∧ ∀ j p, ns[j]? = some p → ∃ lv kv xv uv tv, NodAt B w b (off + j * 8) p lv kv xv uv tv)
theorem NodAt.beside {B : Nat} {w w' : World} {b o : Nat} {p : Nod} {lv kv xv uv tv : Value} {row : Option Nat} (h : NodAt B w b o p lv kv xv uv tv) (hb : b < B) (hg : w.grownBy w' row) (hr : ∀ k, row = some k → B ≤ k) : NodAt B w' b o p lv kv xv uv tv :=
  have hn : some b ≠ row := fun e => by have := hr b e.symm; omega
  ⟨hg.cell h.k hn, hg.cell h.lead hn, hg.cell h.mem hn, hg.cell h.key hn, hg.cell h.text hn, hg.cell h.units hn, hg.cell h.cnt hn, hg.cell h.tail hn,
    h.rl.beside hg hr, h.rk.beside hg hr, h.sk, h.rx.beside hg hr, h.sx, h.ru.beside hg hr, h.su, h.rt.beside hg hr⟩
theorem RdN.beside {B : Nat} {w w' : World} {v : Value} {ns : List Nod} {row : Option Nat} (h : RdN B w v ns) (hg : w.grownBy w' row) (hr : ∀ k, row = some k → B ≤ k) : RdN B w' v ns := by
  obtain ⟨a, cap, hv, h1, h2, hh⟩ := h
  refine ⟨a, cap, hv, h1, h2, fun h0 => ?_⟩
  obtain ⟨b, off, ha, hb, hc⟩ := hh h0
  refine ⟨b, off, ha, hb, fun j p hp => ?_⟩
  obtain ⟨lv, kv, xv, uv, tv, ht⟩ := hc j p hp
  exact ⟨lv, kv, xv, uv, tv, ht.beside hb hg hr⟩
theorem RdN.keep {B : Nat} {w w' : World} {v : Value} {ns : List Nod} (h : RdN B w v ns) (hg : w.grownBy w' none) : RdN B w' v ns := h.beside hg (fun _ e => by cases e)
theorem RdN.wide {B B' : Nat} {w : World} {v : Value} {ns : List Nod} (h : RdN B w v ns) (hB : B ≤ B') : RdN B' w v ns := by
  obtain ⟨a, cap, hv, h1, h2, hh⟩ := h
  refine ⟨a, cap, hv, h1, h2, fun h0 => ?_⟩
  obtain ⟨b, off, ha, hb, hc⟩ := hh h0
  refine ⟨b, off, ha, by omega, fun j p hp => ?_⟩
  obtain ⟨lv, kv, xv, uv, tv, t⟩ := hc j p hp
  exact ⟨lv, kv, xv, uv, tv, t.k, t.lead, t.mem, t.key, t.text, t.units, t.cnt, t.tail, t.rl.wide hB, t.rk.wideC hB, t.sk, t.rx.wideC hB, t.sx, t.ru.wideC hB, t.su, t.rt.wide hB⟩
theorem RdN.at {B : Nat} {w : World} {v : Value} {ns : List Nod} (h : RdN B w v ns) (j : Nat) (hj : j < ns.length) :
    ∃ b off cap lv kv xv uv tv, v = .slice (some ⟨b, off, none⟩) ns.length cap ∧ b < B ∧ NodAt B w b (off + j * 8) ns[j] lv kv xv uv tv := by
  obtain ⟨a, cap, hv, h1, h2, hh⟩ := h
  obtain ⟨b, off, ha, hb, hc⟩ := hh (fun e => by rw [e] at hj; simp at hj)
  obtain ⟨lv, kv, xv, uv, tv, ht⟩ := hc j ns[j] (by simp [hj])
  exact ⟨b, off, cap, lv, kv, xv, uv, tv, by rw [hv, ha], hb, ht⟩

end Go.Proofs.YtakkdniikhgpdaaGreatDoor

namespace Go.Proofs.YtakkdniikhgpdaaGreatDoor
open Go.RowKit

/-! The memory of a drawn tree with what it holds: blocks of bytes, of numbers, of comments, of nodes. -/

inductive KK where
  | bs | is | cm | nd
def KK.ty : KK → TypeId
  | .bs => 5
  | .is => 3
  | .cm => 127
  | .nd => 119
def KK.sl : KK → TypeId
  | .bs => 22
  | .is => 71
  | .cm => 98
  | .nd => 97
def KK.sz : KK → Nat
  | .bs => 1
  | .is => 1
  | .cm => 2
  | .nd => 8
theorem KK.pos (k : KK) : 0 < k.sz := by cases k <;> exact Nat.succ_pos _
/-- A slice's value. -/
abbrev Sv := Option Addr × Nat × Nat
def Sv.v (s : Sv) : Value := .slice s.1 s.2.1 s.2.2
def nilS : Sv := (none, 0, 0)
/-- An element, as it lies in memory. -/
inductive El where
  | b (z : Int)
  | i (z : Int)
  | c (x : Bool) (t : Sv)
  | d (k : Int) (l : Sv) (m : Bool) (y x u : Sv) (n : Int) (t : Sv)
def El.kd : El → KK
  | .b _ => .bs
  | .i _ => .is
  | .c _ _ => .cm
  | .d _ _ _ _ _ _ _ _ => .nd
def El.en : El → List Value
  | .b z => [.int .u8 z]
  | .i z => [.int .i64 z]
  | .c x t => [.bool x, t.v]
  | .d k l m y x u n t => [.int .i64 k, l.v, .bool m, y.v, x.v, u.v, .int .i64 n, t.v]
theorem El.len (e : El) : e.en.length = e.kd.sz := by cases e <;> rfl
theorem El.one (e : El) : ∀ u ∈ e.en, u.oneCell' = true := by cases e <;> simp [El.en, Sv.v, Value.oneCell']
def ens (ys : List El) : List Value := ys.flatMap El.en
def Kds (k : KK) (ys : List El) : Prop := ∀ y ∈ ys, y.kd = k
theorem ens_app (a b : List El) : ens (a ++ b) = ens a ++ ens b := by simp [ens]
theorem ens_len {k : KK} : ∀ {ys : List El}, Kds k ys → (ens ys).length = ys.length * k.sz
  | [], _ => by simp [ens]
  | y :: ys, h => by
    have h1 := h y (by simp)
    have h2 := ens_len (fun x hx => h x (by simp [hx]) : Kds k ys)
    have e : ens (y :: ys) = y.en ++ ens ys := by simp [ens]
    rw [e, List.length_append, h2, El.len, h1, List.length_cons, Nat.add_mul]
    omega
theorem ens_at {k : KK} : ∀ {ys : List El}, Kds k ys → ∀ {i f : Nat} {y : El}, ys[i]? = some y → f < k.sz → (ens ys)[i * k.sz + f]? = y.en[f]?
  | [], _, i, f, y, hy, _ => by simp at hy
  | x :: ys, h, 0, f, y, hy, hf => by
    have h1 := h x (by simp)
    have e : ens (x :: ys) = x.en ++ ens ys := by simp [ens]
    simp at hy
    subst hy
    rw [e, List.getElem?_append_left (by rw [El.len, h1]; omega), Nat.zero_mul, Nat.zero_add]
  | x :: ys, h, i + 1, f, y, hy, hf => by
    have h1 := h x (by simp)
    have e : ens (x :: ys) = x.en ++ ens ys := by simp [ens]
    rw [e, List.getElem?_append_right (by rw [El.len, h1, Nat.add_mul]; omega), El.len, h1, Nat.add_mul, Nat.one_mul, show i * k.sz + k.sz + f - k.sz = i * k.sz + f by omega]
    exact ens_at (fun x hx => h x (by simp [hx]) : Kds k ys) (by simpa using hy) hf
theorem ens_set {k : KK} : ∀ {ys : List El}, Kds k ys → ∀ {i f : Nat} {y y' : El} {u : Value}, ys[i]? = some y → f < k.sz → y'.en = y.en.set f u → ens (ys.set i y') = (ens ys).set (i * k.sz + f) u
  | [], _, i, f, y, y', u, hy, _, _ => by simp at hy
  | x :: ys, h, 0, f, y, y', u, hy, hf, he => by
    have h1 := h x (by simp)
    simp at hy
    subst hy
    have e : ∀ z, ens (z :: ys) = z.en ++ ens ys := fun z => by simp [ens]
    rw [List.set_cons_zero, e, e, he, Nat.zero_mul, Nat.zero_add, List.set_append_left _ _ (by rw [El.len, h1]; omega)]
  | x :: ys, h, i + 1, f, y, y', u, hy, hf, he => by
    have h1 := h x (by simp)
    have e : ∀ zs, ens (x :: zs) = x.en ++ ens zs := fun z => by simp [ens]
    rw [List.set_cons_succ, e, e, ens_set (fun x hx => h x (by simp [hx]) : Kds k ys) (by simpa using hy) hf he, List.set_append_right _ _ (by rw [El.len, h1, Nat.add_mul]; omega), El.len, h1, Nat.add_mul, Nat.one_mul, show i * k.sz + k.sz + f - k.sz = i * k.sz + f by omega]

abbrev Gk := Nat → Option (KK × Nat × List El)
def Bk (w : World) (b : Nat) (k : KK) (m : Nat) (ys : List El) : Prop :=
  ∃ arr mk, w.heap[b]? = some (.cells arr k.ty mk) ∧ arr.size = m * k.sz ∧ ys.length ≤ m ∧ (mk = (0, 0) ∨ mk = (arr.size, arr.size + 1)) ∧ Kds k ys ∧ ∀ (j : Nat) (u : Value), (ens ys)[j]? = some u → arr[j]? = some u
/-- The memory from block H on holds what Γ says. -/
def MT (H : Nat) (Γ : Gk) (w : World) : Prop := ∀ b k m ys, Γ b = some (k, m, ys) → H ≤ b ∧ Bk w b k m ys
def updK (Γ : Gk) (b : Nat) (x : KK × Nat × List El) : Gk := fun c => if c = b then some x else Γ c
theorem updK_at (Γ : Gk) (b : Nat) (x : KK × Nat × List El) : updK Γ b x b = some x := by unfold updK; rw [if_pos rfl]
theorem updK_ne {Γ : Gk} {b c : Nat} {x : KK × Nat × List El} (h : c ≠ b) : updK Γ b x c = Γ c := by unfold updK; rw [if_neg h]
section
variable {H : Nat} {Γ : Gk} {w w' : World}
theorem MT.lt (h : MT H Γ w) {b : Nat} {k : KK} {m : Nat} {ys : List El} (hb : Γ b = some (k, m, ys)) : H ≤ b ∧ b < w.heap.size := by
  obtain ⟨h1, arr, mk, h2, _⟩ := h b k m ys hb
  exact ⟨h1, (Array.getElem?_eq_some_iff.1 h2).1⟩
theorem MT.kept (h : MT H Γ w) (hk : ∀ b, H ≤ b → b < w.heap.size → w'.heap[b]? = w.heap[b]?) : MT H Γ w' := fun b k m ys hb => by
  have hl := h.lt hb
  obtain ⟨h1, arr, mk, h2, h3⟩ := h b k m ys hb
  exact ⟨h1, arr, mk, by rw [hk b h1 hl.2]; exact h2, h3⟩
theorem MT.grown {r : Option Nat} (h : MT H Γ w) (g : w.grownBy w' r) (hr : ∀ x, r = some x → x < H) : MT H Γ w' :=
  h.kept fun b h1 h2 => g.block b h2 (fun e => by have := hr b e.symm; omega)
theorem MT.gone (h : MT H Γ w) {c : Nat} (hc : w.heap.size ≤ c) : Γ c = none := by
  cases e : Γ c with
  | none => rfl
  | some x =>
    obtain ⟨k, m, s⟩ := x
    have := (h.lt e).2
    omega
theorem MT.bare (h : MT H Γ w) {b : Nat} {k : KK} {m : Nat} {ys : List El} (hb : Γ b = some (k, m, ys)) {j : Nat} (hj : j < m * k.sz) : (w.cell? ⟨b, j, none⟩).isSome = true ∧ w.frozen? ⟨b, j, none⟩ = false := by
  obtain ⟨h1, arr, mk, h2, h3, h4, h5, h6⟩ := h b k m ys hb
  refine ⟨?_, ?_⟩
  · rw [cell_of_row w b j _ _ _ h2, Array.getElem?_eq_getElem (by omega)]; rfl
  · simp only [World.frozen?, h2]
    rcases h5 with rfl | rfl
    · simp
    · simp; omega
theorem MT.kds (h : MT H Γ w) {b : Nat} {k : KK} {m : Nat} {ys : List El} (hb : Γ b = some (k, m, ys)) : Kds k ys ∧ ys.length ≤ m := by
  obtain ⟨_, arr, mk, _, _, h4, _, h6, _⟩ := h b k m ys hb
  exact ⟨h6, h4⟩
/-- A cell of an element. -/
theorem MT.cell (h : MT H Γ w) {b : Nat} {k : KK} {m : Nat} {ys : List El} (hb : Γ b = some (k, m, ys)) {i f : Nat} {y : El} (hy : ys[i]? = some y) (hf : f < k.sz) : w.cell? ⟨b, i * k.sz + f, none⟩ = y.en[f]? ∧ w.frozen? ⟨b, i * k.sz + f, none⟩ = false := by
  have hi := (List.getElem?_eq_some_iff.1 hy).1
  obtain ⟨hk, hm⟩ := h.kds hb
  have hlt : i * k.sz + f < m * k.sz := by
    have := Nat.mul_le_mul_right k.sz (show i + 1 ≤ m by omega)
    rw [Nat.add_mul, Nat.one_mul] at this
    omega
  have hfr := (h.bare hb hlt).2
  obtain ⟨h1, arr, mk, h2, h3, h4, h5, h6, h7⟩ := h b k m ys hb
  have hkd := hk y (List.mem_of_getElem? hy)
  obtain ⟨u, hu⟩ : ∃ u, y.en[f]? = some u := ⟨_, List.getElem?_eq_getElem (by rw [El.len, hkd]; exact hf)⟩
  refine ⟨?_, hfr⟩
  rw [cell_of_row w b _ _ _ _ h2, hu]
  exact h7 _ u (by rw [ens_at hk hy hf]; exact hu)
/-- One block more, or one that has become another. -/
theorem MT.put (h : MT H Γ w) {c : Nat} (hc : H ≤ c) {k : KK} {m : Nat} {ys : List El} (ho : ∀ b, b ≠ c → b < w.heap.size → w'.heap[b]? = w.heap[b]?) (hB : Bk w' c k m ys) : MT H (updK Γ c (k, m, ys)) w' := fun b k' m' ys' hb => by
  by_cases e : b = c
  · subst e
    rw [updK_at] at hb
    cases hb
    exact ⟨hc, hB⟩
  · rw [updK_ne e] at hb
    have hl := h.lt hb
    obtain ⟨h1, arr, mk, h2, h3⟩ := h b k' m' ys' hb
    exact ⟨h1, arr, mk, by rw [ho b e hl.2]; exact h2, h3⟩
theorem MT.new (h : MT H Γ w) (hH : H ≤ w.heap.size) (k : KK) (m : Nat) (ys : List El) (arr : Array Value) (mk : Nat × Nat) (hs : arr.size = m * k.sz) (hm : mk = (0, 0) ∨ mk = (arr.size, arr.size + 1)) (hl : ys.length ≤ m) (hk : Kds k ys) (hc : ∀ (j : Nat) (u : Value), (ens ys)[j]? = some u → arr[j]? = some u) :
    MT H (updK Γ w.heap.size (k, m, ys)) (w.alloc (.cells arr k.ty mk)) :=
  h.put hH (fun b _ hb => (World.grownBy_alloc w _ none).block b hb (by simp)) ⟨arr, mk, heap_alloc_new w _, hs, hl, hm, hk, hc⟩
/-- A cell of an element is written. -/
theorem MT.set (h : MT H Γ w) {b : Nat} {k : KK} {m : Nat} {ys : List El} (hb : Γ b = some (k, m, ys)) {i f : Nat} {y y' : El} {u : Value} (hy : ys[i]? = some y) (hf : f < k.sz) (he : y'.en = y.en.set f u) (hkd : y'.kd = k) : MT H (updK Γ b (k, m, ys.set i y')) (w.setCell ⟨b, i * k.sz + f, none⟩ u) := by
  obtain ⟨h1, arr, mk, h2, h3, h4, h5, h6, h7⟩ := h b k m ys hb
  refine h.put h1 (fun c hc _ => heap_setCell_other w ⟨b, i * k.sz + f, none⟩ c u hc) ⟨arr.setIfInBounds (i * k.sz + f) u, mk, ?_, by simpa using h3, by simpa using h4, by simpa using h5, fun x hx => ?_, fun j v hj => ?_⟩
  · rw [setCell_eq_setRow w b (i * k.sz + f) arr k.ty _ _ h2]
    exact setRow_heap w b arr _ k.ty _ h2
  · rcases List.mem_or_eq_of_mem_set hx with hx | rfl
    · exact h6 x hx
    · exact hkd
  · rw [ens_set h6 hy hf he] at hj
    rw [Array.getElem?_setIfInBounds]
    by_cases e : i * k.sz + f = j
    · subst e
      have hjl := (List.getElem?_eq_some_iff.1 hj).1
      rw [List.length_set] at hjl
      rw [List.getElem?_set_self hjl] at hj
      have h9 := h7 _ _ (List.getElem?_eq_getElem hjl)
      rw [if_pos rfl, if_pos (Array.getElem?_eq_some_iff.1 h9).1]
      exact hj
    · rw [if_neg e]
      rw [List.getElem?_set_ne e] at hj
      exact h7 j v hj
end
/-- The whole of a block is what v reads. -/
def Ful (Γ : Gk) (k : KK) (v : Sv) (ys : List El) : Prop := (v = nilS ∧ ys = []) ∨ ∃ b m, v = (some ⟨b, 0, none⟩, ys.length, m) ∧ Γ b = some (k, m, ys) ∧ m ≤ maxLen
theorem setCells_row (b : Nat) (t : TypeId) (mk : Nat × Nat) : ∀ (us : List Value) (o : Nat) (w : World) (arr : Array Value), w.heap[b]? = some (.cells arr t mk) → o + us.length ≤ arr.size → ∃ arr', (w.setCells b o us).heap[b]? = some (.cells arr' t mk) ∧ arr'.size = arr.size ∧ (∀ j, j < o → arr'[j]? = arr[j]?) ∧ ∀ j, j < us.length → arr'[o + j]? = us[j]?
  | [], o, w, arr, h, _ => ⟨arr, h, rfl, fun _ _ => rfl, fun j hj => by simp at hj⟩
  | u :: us, o, w, arr, h, hl => by
    simp only [List.length_cons] at hl
    obtain ⟨arr', h1, h2, h3, h4⟩ := setCells_row b t mk us (o + 1) (w.setCell ⟨b, o, none⟩ u) (arr.setIfInBounds o u) (by
      rw [setCell_eq_setRow w b o arr t _ _ h]
      exact setRow_heap w b arr _ t _ h) (by simp; omega)
    refine ⟨arr', h1, by simpa using h2, fun j hj => ?_, fun j hj => ?_⟩
    · rw [h3 j (by omega), Array.getElem?_setIfInBounds, if_neg (by omega)]
    · cases j with
      | zero => rw [Nat.add_zero, h3 o (by omega), Array.getElem?_setIfInBounds, if_pos rfl, if_pos (by omega)]; rfl
      | succ j =>
        have := h4 j (by simpa using hj)
        rw [show o + (j + 1) = o + 1 + j by omega, this]
        simp
theorem setCells_other (b : Nat) (x : Nat) (hx : x ≠ b) : ∀ (us : List Value) (o : Nat) (w : World), (w.setCells b o us).heap[x]? = w.heap[x]?
  | [], _, _ => rfl
  | u :: us, o, w => (setCells_other b x hx us (o + 1) _).trans (heap_setCell_other w ⟨b, o, none⟩ x u hx)
theorem infoCmK : (Tryz.prog.info? 127).map (fun i => (i.zero, i.size, i.bytes)) = some (some (.agg #[.bool false, .slice none 0 0]), 2, 32) := by kernel_rfl
theorem infoNdK : (Tryz.prog.info? 119).map (fun i => (i.zero, i.size, i.bytes)) = some (some (.agg #[.int .i64 0, .slice none 0 0, .bool false, .slice none 0 0, .slice none 0 0, .slice none 0 0, .int .i64 0, .slice none 0 0]), 8, 144) := by kernel_rfl
theorem kk_info (k : KK) : ∃ i z, Tryz.prog.underlying k.sl = some (.slice k.ty) ∧ Tryz.prog.info? k.ty = some i ∧ i.zero = some z ∧ i.size = k.sz ∧ i.bytes ≤ 200 ∧ z.cells.size = k.sz := by
  cases k with
  | bs =>
    obtain ⟨i, h1, h2, h3, h4⟩ := info_parts info5
    exact ⟨i, _, Tryz.underlying22, h1, h2, h3, by rw [h4]; omega, rfl⟩
  | is =>
    obtain ⟨i, h1, h2, h3, h4⟩ := info_parts info3
    exact ⟨i, _, Tryz.underlying71, h1, h2, h3, by rw [h4]; omega, rfl⟩
  | cm =>
    obtain ⟨i, h1, h2, h3, h4⟩ := info_parts infoCmK
    exact ⟨i, _, Tryz.underlying98, h1, h2, h3, by rw [h4]; omega, rfl⟩
  | nd =>
    obtain ⟨i, h1, h2, h3, h4⟩ := info_parts infoNdK
    exact ⟨i, _, Tryz.underlying97, h1, h2, h3, by rw [h4]; omega, rfl⟩

set_option maxRecDepth 100000 in
/-- 'append' of elements that are read. -/
theorem MT.app {H : Nat} {Γ : Gk} {w : World} (h : MT H Γ w) (hH : H ≤ w.heap.size) {k : KK} {v : Sv} {ys : List El} (hv : Ful Γ k v ys) (b' o' c : Nat) (els : List El) (hq : 0 < els.length) (hk : Kds k els) (hsrc : ∀ (j : Nat) (u : Value), (ens els)[j]? = some u → w.cell? ⟨b', o' + j, none⟩ = some u) (hb : ys.length + els.length ≤ 1000000) :
    ∃ g m w', (Builtin.append_ #[k.sl, k.sl] k.sl #[v.v, .slice (some ⟨b', o', none⟩) els.length c]).run Tryz.prog w = .ok (.slice (some ⟨g, 0, none⟩) (ys ++ els).length m) w' ∧ MT H (updK Γ g (k, m, ys ++ els)) w' ∧ (g = w.heap.size ∨ (Γ g = some (k, m, ys) ∧ v = (some ⟨g, 0, none⟩, ys.length, m))) ∧ H ≤ g ∧ m ≤ maxLen ∧ w.grownBy w' (some g) := by
  obtain ⟨i, z, hu, hi, hz, hs, hbt, hzs⟩ := kk_info k
  have hkp := k.pos
  have hsrc' : ∀ (j : Nat) (u : Value), (ens els)[j]? = some u → w.cell? ((⟨b', o', none⟩ : Addr).add j) = some u := fun j u hj => by rw [Addr.add_lit]; exact hsrc j u hj
  have hel := ens_len hk
  have hnl : (ens els).length = els.length * i.size := by rw [hs]; exact hel
  have hbts : ∀ x, x ≤ 1000000 → x * i.bytes ≤ 140737488355328 := fun x hx => by
    have := Nat.mul_le_mul hx hbt
    omega
  have gd : w.grownBy w.drew none := ⟨rfl, rfl, rfl, Nat.le_refl _, fun _ _ _ => rfl⟩
  have gsome : ∀ (o : Obj), w.grownBy (w.drew.alloc o) (some w.heap.size) := fun o => by
    have g := grown_trans gd (World.grownBy_alloc w.drew o none)
    exact ⟨g.os, g.tape, g.output, g.size, fun x hx _ => g.block x hx (by simp)⟩
  rcases hv with ⟨rfl, rfl⟩ | ⟨b, m, rfl, hΓ, hmm⟩
  · have hr := run_append_nil (P := Tryz.prog) w k.sl k.sl k.ty i z hu hi hz ⟨b', o', none⟩ els.length c (ens els) hnl hsrc' hq (by omega) (by have := hbts els.length (by omega); omega)
    have hge := grownCap_ge w els.length 0 k.ty
    have hcm : grownCap w els.length 0 k.ty ≤ maxLen := grownCap_le_maxLen w els.length 0 k.ty (by unfold maxLen; omega)
    have hd : MT H Γ w.drew := h
    have hN := hd.new hH k (grownCap w els.length 0 k.ty) els ((ens els).toArray ++ Builtin.zeroCells z.cells (grownCap w els.length 0 k.ty - els.length)) (0, 0) (by rw [Array.size_append, size_zeroCells, hzs]; simp only [List.size_toArray, hel]; rw [← Nat.add_mul]; congr 1; omega) (.inl rfl) hge hk (fun j u hj => by
      rw [Array.getElem?_append_left (by simpa using (List.getElem?_eq_some_iff.1 hj).1)]
      simpa using hj)
    exact ⟨w.heap.size, _, _, hr, hN, .inl rfl, hH, hcm, gsome _⟩
  · obtain ⟨hkd, hym⟩ := h.kds hΓ
    have hyl := ens_len hkd
    by_cases hroom : ys.length + els.length ≤ m
    · have hmul := Nat.mul_le_mul_right k.sz hroom
      rw [Nat.add_mul] at hmul
      have hcell : ∀ j, j < (ens els).length → (w.cell? ⟨b, 0 + ys.length * i.size + j, none⟩).isSome = true ∧ w.frozen? ⟨b, 0 + ys.length * i.size + j, none⟩ = false := fun j hj => h.bare hΓ (by rw [hs, Nat.zero_add]; omega)
      have hr := run_append_room_cells (P := Tryz.prog) w k.sl k.sl k.ty i hu hi b 0 ys.length m ⟨b', o', none⟩ els.length c (ens els) hnl hsrc' (fun u hu => by
        obtain ⟨e, _, he⟩ := List.mem_flatMap.1 hu
        exact e.one u he) hroom (fun j hj => (hcell j hj).1) (fun j hj => (hcell j hj).2)
      rw [hs, Nat.zero_add] at hr
      obtain ⟨h1, arr, mk, h2, h3, h4, h5, h6, h7⟩ := h b k m ys hΓ
      obtain ⟨arr', a1, a2, a3, a4⟩ := setCells_row b k.ty mk (ens els) (ys.length * k.sz) w arr h2 (by rw [h3]; omega)
      refine ⟨b, m, _, by rw [List.length_append]; exact hr, h.put h1 (fun x hx _ => setCells_other b x hx _ _ _) ⟨arr', mk, a1, by rw [a2]; exact h3, by rw [List.length_append]; exact hroom, by rw [a2]; exact h5, fun y hy => ?_, fun j u hj => ?_⟩, .inr ⟨hΓ, rfl⟩, h1, hmm, ?_⟩
      · rcases List.mem_append.1 hy with hy | hy
        · exact h6 y hy
        · exact hk y hy
      · rw [ens_app] at hj
        by_cases hjl : j < ys.length * k.sz
        · rw [List.getElem?_append_left (by rw [hyl]; exact hjl)] at hj
          rw [a3 j hjl]
          exact h7 j u hj
        · rw [List.getElem?_append_right (by rw [hyl]; omega), hyl] at hj
          have := a4 _ (List.getElem?_eq_some_iff.1 hj).1
          rw [show ys.length * k.sz + (j - ys.length * k.sz) = j by omega] at this
          rw [this]
          exact hj
      · have hB : ∀ (us : List Value) (o : Nat) (x : World), w.grownBy x (some b) → w.grownBy (x.setCells b o us) (some b) := fun us => by
          induction us with
          | nil => intro o x hx; exact hx
          | cons u us ih =>
            intro o x hx
            refine ih (o + 1) _ ⟨hx.os, hx.tape, hx.output, by simpa using hx.size, fun y hy hn => ?_⟩
            rw [heap_setCell_other x ⟨b, o, none⟩ y u (fun e => hn (by rw [e]))]
            exact hx.block y hy hn
        exact hB _ _ w (World.grownBy.refl _ _)
    · obtain ⟨h1, arr, mk, h2, h3, h4, h5, h6, h7⟩ := h b k m ys hΓ
      have hol : (ens ys).length = ys.length * i.size := by rw [hs]; exact hyl
      have hr := run_append_grow (P := Tryz.prog) w k.sl k.sl k.ty i z hu hi hz ⟨b, 0, none⟩ ys.length m (ens ys) hol (fun j u hj => by rw [Addr.add_lit, Nat.zero_add, cell_of_row w b j _ _ _ h2]; exact h7 j u hj) ⟨b', o', none⟩ els.length c (ens els) hnl hsrc' (by omega) (by omega) (growslice_fits (by omega) (hbts _ hb))
      have hge := grownCap_ge w (ys.length + els.length) m k.ty
      have hcm : grownCap w (ys.length + els.length) m k.ty ≤ maxLen := grownCap_le_maxLen w (ys.length + els.length) m k.ty (by unfold maxLen; omega)
      have hd : MT H Γ w.drew := h
      have hlo : (ens ys ++ ens els).length = (ys.length + els.length) * k.sz := by rw [List.length_append, hyl, hel, Nat.add_mul]
      have hN := hd.new hH k (grownCap w (ys.length + els.length) m k.ty) (ys ++ els) ((ens ys ++ ens els).toArray ++ Builtin.zeroCells z.cells (grownCap w (ys.length + els.length) m k.ty - (ys.length + els.length))) (0, 0)
        (by rw [Array.size_append, size_zeroCells, hzs]; simp only [List.size_toArray, hlo]; rw [← Nat.add_mul]; congr 1; omega) (.inl rfl) (by rw [List.length_append]; exact hge) (fun y hy => by
          rcases List.mem_append.1 hy with hy | hy
          · exact h6 y hy
          · exact hk y hy) (fun j u hj => by
          rw [ens_app] at hj
          rw [Array.getElem?_append_left (by simpa using (List.getElem?_eq_some_iff.1 hj).1)]
          simpa using hj)
      rw [show (ens ys).toArray ++ (ens els).toArray = (ens ys ++ ens els).toArray by simp] at hr
      exact ⟨w.heap.size, _, _, by rw [List.length_append]; exact hr, hN, .inl rfl, hH, hcm, gsome _⟩

end Go.Proofs.YtakkdniikhgpdaaGreatDoor

