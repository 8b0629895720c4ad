import Derived.Test.YtgmjpdejfdldlaaDoorProg
import Derived.WalkKit
import Derived.WalkSpells
import Derived.WalkLawsBesides
import Derived.Deep.QuietTactic
import Derived.BigQuiet
namespace Go.Proofs.YtgmjpdejfdldlaaDoor
open Go.RowKit

theorem info5 : (Tryd.prog.info? 5).map (fun i => (i.zero, i.size, i.bytes)) = some (some (.int .u8 0), 1, 1) := by kernel_rfl
theorem info3 : (Tryd.prog.info? 3).map (fun i => (i.zero, i.size, i.bytes)) = some (some (.int .i64 0), 1, 8) := by kernel_rfl

/-- The slice value v reads as the integers zs in w; its cells lie below block B. -/
def Rd (q : IntKind) (B : Nat) (w : World) (v : Value) (zs : List Int) : Prop :=
  ∃ a cap, v = .slice a zs.length cap ∧ (zs ≠ [] → ∃ b off, a = some ⟨b, off, none⟩ ∧ b < B ∧ ∀ j, j < zs.length → w.cell? ⟨b, off + j, none⟩ = some (.int q (zs[j]?.getD 0)))
abbrev RdI (B : Nat) (w : World) (v : Value) (zs : List Int) : Prop := Rd .i64 B w v zs
abbrev RdB (B : Nat) (w : World) (v : Value) (zs : List Int) : Prop := Rd .u8 B w v zs

/-- The slice value v is a row of its own, from block B on, and holds the integers zs. -/
def Ow (q : IntKind) (t : TypeId) (B : Nat) (w : World) (v : Value) (zs : List Int) : Prop := w.ownsRow B t 1 v zs.length (zs.map (Value.int q))
abbrev OwI (B : Nat) (w : World) (v : Value) (zs : List Int) : Prop := Ow .i64 3 B w v zs
abbrev OwB (B : Nat) (w : World) (v : Value) (zs : List Int) : Prop := Ow .u8 5 B w v zs

theorem Ow.rd {q : IntKind} {t : TypeId} {B : Nat} {w : World} {v : Value} {zs : List Int} (h : Ow q t B w v zs) : Rd q w.heap.size w v zs := by
  rcases h.2 with ⟨hv, hn⟩ | ⟨g, cap, cur, hv, hb, hg, hnc, hcm, hcs, ht⟩
  · subst hv
    refine ⟨_, 0, by rw [hn], fun h0 => absurd (List.eq_nil_of_length_eq_zero hn) h0⟩
  · subst hv
    refine ⟨_, cap, rfl, fun _ => ⟨g, 0, rfl, (Array.getElem?_eq_some_iff.1 hg).1, fun j hj => ?_⟩⟩
    have := World.ownsRow.cellAt h j (by simpa using hj)
    simp only [Nat.zero_add]
    rw [this]
    simp [hj]

theorem Rd.later {q : IntKind} {B : Nat} {w w' : World} {v : Value} {zs : List Int} (h : Rd q B w v zs) (hg : w.grownBy w' none) : Rd q w'.heap.size w' v zs := by
  obtain ⟨a, cap, hv, hr⟩ := h
  refine ⟨a, cap, hv, fun h0 => ?_⟩
  obtain ⟨b, off, ha, hb, hc⟩ := hr h0
  have h1 := hc 0 (List.length_pos_iff.2 h0)
  have hlt : b < w.heap.size := World.block_lt_of_cell? w _ h1
  exact ⟨b, off, ha, Nat.lt_of_lt_of_le hlt hg.size, fun j hj => hg.cell (hc j hj) (by simp)⟩

/-- .. over a write into a row of its own that lies from B on. -/
theorem Rd.beside {q : IntKind} {B : Nat} {w w' : World} {v : Value} {zs : List Int} {row : Option Nat} (h : Rd q B w v zs) (hg : w.grownBy w' row) (hr : ∀ k, row = some k → B ≤ k) : Rd q B w' v zs := by
  obtain ⟨a, cap, hv, hr'⟩ := h
  refine ⟨a, cap, hv, fun h0 => ?_⟩
  obtain ⟨b, off, ha, hb, hc⟩ := hr' h0
  exact ⟨b, off, ha, hb, fun j hj => hg.cell (hc j hj) (fun e => by have := hr b e.symm; omega)⟩

theorem Ow.later {q : IntKind} {t : TypeId} {B : Nat} {w w' : World} {v : Value} {zs : List Int} (h : Ow q t B w v zs) (hg : w.grownBy w' none) : Ow q t B w' v zs :=
  World.ownsRow.kept h hg (by cases hv : v.ownBlock <;> simp)

theorem Ow.beside {q : IntKind} {t : TypeId} {B : Nat} {w w' : World} {v : Value} {zs : List Int} {row : Option Nat} (h : Ow q t B w v zs) (hg : w.grownBy w' row) (hr : ∀ k, v.ownBlock = some k → ∀ j, row = some j → k ≠ j) : Ow q t B w' v zs := by
  refine World.ownsRow.kept h hg ?_
  cases hv : v.ownBlock with
  | none => exact .inl rfl
  | some k =>
    refine .inr fun e => ?_
    exact hr k hv k e.symm rfl

theorem gWA {w : World} {o : Obj} {r : Option Nat} : w.grownBy (w.alloc o) r := World.grownBy_alloc w o r
theorem grown_trans {a b c : World} {r : Option Nat} (h : a.grownBy b r) (k : b.grownBy c r) : a.grownBy c r :=
  ⟨k.os.trans h.os, k.tape.trans h.tape, k.output.trans h.output, Nat.le_trans h.size k.size, fun i hi hn => (k.block i (Nat.lt_of_lt_of_le hi h.size) hn).trans (h.block i hi hn)⟩

/-- A write into a row that was laid since a: nothing of a has turned. -/
theorem grown_new {a b c : World} {r : Option Nat} (h : a.grownBy b none) (k : b.grownBy c r) (hr : ∀ j, r = some j → a.heap.size ≤ j) : a.grownBy c none :=
  ⟨k.os.trans h.os, k.tape.trans h.tape, k.output.trans h.output, Nat.le_trans h.size k.size, fun i hi _ => (k.block i (Nat.lt_of_lt_of_le hi h.size) (fun e => by have := hr i e.symm; omega)).trans (h.block i hi (by simp))⟩

theorem grown_drewN {a b : World} {r : Option Nat} (h : a.grownBy b r) (n : Nat) : a.grownBy (b.drewN n) r := ⟨h.os, h.tape, h.output, h.size, h.block⟩

theorem below_of_grown {w w' : World} (h : w.grownBy w' none) : Below w.heap.size w w' := ⟨h.os, h.tape, h.output, h.size, fun k hk => h.block k hk (by simp)⟩
theorem grown_of_below {w w' : World} (h : Below w.heap.size w w') : w.grownBy w' none := ⟨h.os, h.tape, h.output, h.size, fun k hk _ => h.block k hk⟩

theorem take_snoc (zs : List Int) (k : Nat) (hk : k < zs.length) : zs.take (k + 1) = zs.take k ++ [zs[k]?.getD 0] := by
  rw [List.take_add_one, List.getElem?_eq_getElem hk]; rfl

/-- The numbers f 0, f 1, .., f (n - 1). -/
def upto (f : Nat → Int) (n : Nat) : List Int := (List.range n).map f
theorem upto_length (f : Nat → Int) (n : Nat) : (upto f n).length = n := by simp [upto]
theorem upto_get (f : Nat → Int) (n j : Nat) (h : j < n) : (upto f n)[j]?.getD 0 = f j := by simp [upto, h]
theorem upto_succ (f : Nat → Int) (n : Nat) : upto f (n + 1) = upto f n ++ [f n] := by simp [upto, List.range_succ]
theorem upto_zero (f : Nat → Int) : upto f 0 = [] := rfl
/-- What a mark lays: k, k + 1, .. as ints; the same as bytes. -/
def markI (k : Int) (i : Nat) : Int := k + (i : Int)
def markB (k : Int) (i : Nat) : Int := (k + (i : Int)) % 256

theorem copy_step (q : IntKind) (zs : List Int) (k : Nat) (hk : k < zs.length) :
    ((zs.take k ++ List.replicate (zs.length - k) 0).map (Value.int q)).set k (.int q (zs[k]?.getD 0)) = (zs.take (k + 1) ++ List.replicate (zs.length - (k + 1)) 0).map (Value.int q) := by
  rw [take_snoc zs k hk, show zs.length - k = (zs.length - (k + 1)) + 1 by omega, List.replicate_succ]
  simp [Nat.min_eq_left (Nat.le_of_lt hk)]

theorem mark_step (q : IntKind) (f : Nat → Int) (zs : List Int) (i : Nat) (hi : i < zs.length) :
    ((upto f i ++ zs.drop i).map (Value.int q)).set i (.int q (f i)) = (upto f (i + 1) ++ zs.drop (i + 1)).map (Value.int q) := by
  rw [List.drop_eq_getElem_cons hi, upto_succ, List.map_append, List.set_append_right _ _ (by simp [upto_length])]
  simp only [List.length_map, upto_length, Nat.sub_self, List.map_cons, List.set_cons_zero, List.map_append, List.append_assoc, List.cons_append, List.nil_append]

theorem row_base {w : World} {B B' : Nat} {e : TypeId} {size : Nat} {v : Value} {k : Nat} {xs : List Value} (h : B' ≤ B) (hr : w.ownsRow B e size v k xs) : w.ownsRow B' e size v k xs := by
  refine ⟨hr.1, ?_⟩
  rcases hr.2 with h1 | ⟨g, cap, cur, hv, hb, rest⟩
  · exact .inl h1
  · exact .inr ⟨g, cap, cur, hv, by omega, rest⟩

/-- A row of one's own over an append of the list xs. -/
theorem own_app {q : IntKind} {t : TypeId} {B : Nat} {w w1 : World} {v v' : Value} {ys xs : List Int} {o : Obj} (n : Nat) (hB : B ≤ w.heap.size)
    (hv : Ow q t B w v ys) (hown' : w1.ownsRow B t 1 v' n (ys.map (Value.int q) ++ xs.map (Value.int q))) (hn : n = (ys ++ xs).length) (hgrow : (w.alloc o).grownBy w1 v.ownBlock) :
    Ow q t B w1 v' (ys ++ xs) ∧ Below B w w1 := by
  subst hn
  refine ⟨by unfold Ow; simpa using hown', ((Below.refl B w).alloc hB o).grown hgrow (by simp; omega) (fun k hk => (World.ownsRow.lt hv k hk).1)⟩

theorem rd_of_row {q : IntKind} (x : Addr) (ys z0 : List Int) (len cap : Nat) (w : World) (hys : ys = z0.take len) (hlen : ys.length = len) (hl : len ≤ z0.length)
    (hcell : ∀ i, i < z0.length → w.cell? (x.add i) = some (.int q (z0.getD i 0))) : Rd q w.heap.size w (.slice (some x) ys.length cap) ys := by
  refine ⟨some x, cap, rfl, fun h0 => ?_⟩
  have hp : 0 < ys.length := List.length_pos_iff.2 h0
  obtain ⟨b, off, spot⟩ := x
  have hc := hcell 0 (by omega)
  have hspot : spot = none := by simpa [Addr.add] using World.cell?_spot hc
  subst hspot
  refine ⟨b, off, rfl, ?_, fun j hj => ?_⟩
  · have := World.block_lt_of_cell? w _ hc
    simpa [Addr.add] using this
  · have hj2 : j < len := by omega
    have := hcell j (by omega)
    rw [Addr.add_lit] at this
    rw [this, hys]
    simp [List.getD, hj2]

theorem Rd.now {q : IntKind} {B : Nat} {w : World} {v : Value} {zs : List Int} (h : Rd q B w v zs) : Rd q w.heap.size w v zs := h.later (World.grownBy.refl _ _)
theorem Rd.keep {q : IntKind} {B : Nat} {w w' : World} {v : Value} {zs : List Int} (h : Rd q B w v zs) (hg : w.grownBy w' none) : Rd q B w' v zs := h.beside hg (fun _ e => by cases e)

/-- The slice's capacity holds its length. -/
def Sl (v : Value) (n : Nat) : Prop := ∃ a cap, v = .slice a n cap ∧ n ≤ cap ∧ cap ≤ maxLen
theorem Ow.sl {q : IntKind} {t : TypeId} {B : Nat} {w : World} {v : Value} {zs : List Int} (h : Ow q t B w v zs) : Sl v zs.length := by
  rcases h.2 with ⟨hv, hn⟩ | ⟨g, cap, cur, hv, hb, hg, hnc, hcm, hcs, ht⟩
  · exact ⟨_, 0, by rw [hv, hn], by omega, by unfold maxLen; omega⟩
  · exact ⟨_, cap, hv, hnc, hcm⟩

theorem hide {p : Prop} (h : p) : Hid p := h

def isPt (p : Int) : Bool := decide (0 ≤ p ∧ p ≤ 1114111)
def isUn (p : Int) : Bool := decide (0 ≤ p ∧ p < 65536)
def isHi (p : Int) : Bool := decide (55296 ≤ p ∧ p < 56320)
def isLo (p : Int) : Bool := decide (56320 ≤ p ∧ p ≤ 57343)

theorem all_snoc (zs : List Int) (f : Int → Bool) (k : Nat) (hk : k < zs.length) (h : (zs.take k).all f = true) (hp : f (zs[k]?.getD 0) = true) : (zs.take (k + 1)).all f = true := by
  rw [take_snoc zs k hk, List.all_append, h]; simp [hp]
theorem all_not (zs : List Int) (f : Int → Bool) (k : Nat) (hk : k < zs.length) (hp : f (zs[k]?.getD 0) = false) : zs.all f = false := by
  rw [List.all_eq_false]
  exact ⟨zs[k], List.getElem_mem hk, by simpa [hk] using hp⟩

end Go.Proofs.YtgmjpdejfdldlaaDoor

namespace Go.Proofs.YtgmjpdejfdldlaaDoor
open Go.RowKit

def okPt (p : Int) : Bool := decide ((0 ≤ p ∧ p ≤ 1114111) ∧ ¬ (55296 ≤ p ∧ p ≤ 57343))
def need (p : Int) : Int := if okPt p then (if p < 128 then 1 else if p < 2048 then 2 else if p < 65536 then 3 else 4) else 0
/-- The form of a point. -/
def enc (p : Int) : List Int :=
  if p < 128 then [p] else if p < 2048 then [192 + p / 64, 128 + p % 64] else if p < 65536 then [224 + p / 4096, 128 + p / 64 % 64, 128 + p % 64]
  else [240 + p / 262144, 128 + p / 4096 % 64, 128 + p / 64 % 64, 128 + p % 64]
def encAll (zs : List Int) : List Int := zs.flatMap enc
def encR (zs : List Int) : List Int × Int := if zs.all okPt then (encAll zs, 0) else ([], 1)
/-- What k rounds leave: the number that is left and the bytes that go on. -/
def st : Nat → Int → Int × List Int
  | 0, p => (p, [])
  | k + 1, p => ((st k p).1 / 64, (128 + (st k p).1 % 64) :: (st k p).2)

theorem st_len (k : Nat) (p : Int) : (st k p).2.length = k := by
  induction k with
  | zero => rfl
  | succ k ih => simp [st, ih]
theorem st_bd (k : Nat) (p : Int) (h0 : 0 ≤ p) (h1 : p ≤ 1114111) : 0 ≤ (st k p).1 ∧ (st k p).1 ≤ 1114111 := by
  induction k with
  | zero => exact ⟨h0, h1⟩
  | succ k ih => simp only [st]; omega
theorem ok_bd {p : Int} (h : okPt p = true) : (0 ≤ p ∧ p ≤ 1114111) ∧ ¬ (55296 ≤ p ∧ p ≤ 57343) := of_decide_eq_true h
theorem enc1 (p : Int) (h : p < 128) : enc p = [p] := by simp only [enc, if_pos h]
theorem enc2 (p : Int) (h : ¬ p < 128) (h2 : p < 2048) : enc p = [192 + p / 64, 128 + p % 64] := by simp only [enc, if_neg h, if_pos h2]
theorem enc3 (p : Int) (h2 : ¬ p < 2048) (h3 : p < 65536) : enc p = [224 + p / 4096, 128 + p / 64 % 64, 128 + p % 64] := by
  simp only [enc, if_neg (show ¬ p < 128 by omega), if_neg h2, if_pos h3]
theorem enc4 (p : Int) (h3 : ¬ p < 65536) : enc p = [240 + p / 262144, 128 + p / 4096 % 64, 128 + p / 64 % 64, 128 + p % 64] := by
  simp only [enc, if_neg (show ¬ p < 128 by omega), if_neg (show ¬ p < 2048 by omega), if_neg h3]
theorem st2 (p : Int) (h : ¬ p < 128) (h2 : p < 2048) : (192 + (st 1 p).1) :: (st 1 p).2 = enc p := by rw [enc2 p h h2]; rfl
theorem st3 (p : Int) (h2 : ¬ p < 2048) (h3 : p < 65536) : (224 + (st 2 p).1) :: (st 2 p).2 = enc p := by
  rw [enc3 p h2 h3]; simp only [st, List.cons.injEq, and_true]; omega
theorem st4 (p : Int) (h3 : ¬ p < 65536) : (240 + (st 3 p).1) :: (st 3 p).2 = enc p := by
  rw [enc4 p h3]; simp only [st, List.cons.injEq, and_true]; omega
theorem enc_len (p : Int) : 1 ≤ (enc p).length ∧ (enc p).length ≤ 4 := by unfold enc; split <;> (try split) <;> (try split) <;> simp
theorem encAll_len (zs : List Int) : (encAll zs).length ≤ 4 * zs.length := by
  induction zs with
  | nil => simp [encAll]
  | cons p zs ih =>
    have := enc_len p
    simp only [encAll, List.flatMap_cons, List.length_append, List.length_cons] at ih ⊢
    omega
theorem encAll_step (zs : List Int) (k : Nat) (hk : k < zs.length) : encAll (zs.take (k + 1)) = encAll (zs.take k) ++ enc (zs[k]?.getD 0) := by
  rw [take_snoc zs k hk]; simp [encAll]
theorem encR_bad (zs : List Int) (h : zs.all okPt = false) : encR zs = ([], 1) := by simp [encR, h]
theorem encR_ok (zs : List Int) (h : zs.all okPt = true) : encR zs = (encAll zs, 0) := by simp [encR, h]
theorem encR_len (zs : List Int) : (encR zs).1.length ≤ 4 * zs.length := by
  unfold encR; split
  · exact encAll_len zs
  · simp
theorem ok_parts (p : Int) : okPt p = (isPt p && !isHi p && !isLo p) := by
  rw [Bool.eq_iff_iff]; simp [okPt, isPt, isHi, isLo]; omega

end Go.Proofs.YtgmjpdejfdldlaaDoor

namespace Go.Proofs.YtgmjpdejfdldlaaDoor
open Go.RowKit

def Bys (zs : List Int) : Prop := ∀ z ∈ zs, 0 ≤ z ∧ z ≤ 255
theorem Bys.get {zs : List Int} (h : Bys zs) (k : Nat) : 0 ≤ zs[k]?.getD 0 ∧ zs[k]?.getD 0 ≤ 255 := by
  by_cases hk : k < zs.length
  · rw [List.getElem?_eq_getElem hk]; exact h _ (List.getElem_mem hk)
  · rw [List.getElem?_eq_none (by omega)]; simp

/-- Further bytes taken in; -1 where one is none. -/
def foldc : Int → List Int → Int
  | v, [] => v
  | v, d :: r => if d / 64 = 2 then foldc (v * 64 + d % 64) r else -1
/-- What the first byte of a form of n bytes tells; -1 where it is none. -/
def lead (n : Nat) (c : Int) : Int :=
  if n = 1 ∧ c < 128 then c else if n = 2 ∧ c / 32 = 6 then c % 32 else if n = 3 ∧ c / 16 = 14 then c % 16 else if n = 4 ∧ c / 8 = 30 then c % 8 else -1
/-- What the first n bytes of s stand for; -1 where they are no form's shape. -/
def lv (s : List Int) (n : Nat) : Int :=
  if s.length < n then -1 else if lead n (s[0]?.getD 0) < 0 then -1 else foldc (lead n (s[0]?.getD 0)) ((s.drop 1).take (n - 1))
def hit (s : List Int) (n : Nat) : Bool := decide (0 ≤ lv s n) && (need (lv s n) == (n : Int))
/-- How many bytes the form at the head of s has; 0 where none stands. -/
def fsize (s : List Int) : Nat := if hit s 1 then 1 else if hit s 2 then 2 else if hit s 3 then 3 else if hit s 4 then 4 else 0
def pts : Nat → List Int → List Int
  | 0, _ => []
  | f + 1, s => if s = [] then [] else if fsize s = 0 then [] else lv s (fsize s) :: pts f (s.drop (fsize s))
def err : Nat → List Int → Nat → Option Nat
  | 0, _, _ => none
  | f + 1, s, k => if s = [] then none else if fsize s = 0 then some k else err f (s.drop (fsize s)) (k + fsize s)
def decR (bs : List Int) : List Int × Int × Int :=
  match err bs.length bs 0 with
  | none => (pts bs.length bs, 0, 0)
  | some k => ([], 2, (k : Int))

def widthR (bs : List Int) : Int := if (decR bs).2.1 = 0 then ((decR bs).1.length : Int) else -1

theorem pts_nil (f : Nat) : pts f [] = [] := by cases f <;> simp [pts]
theorem err_nil (f k : Nat) : err f [] k = none := by cases f <;> simp [err]
theorem pts_go {f : Nat} {s : List Int} (hs : s ≠ []) (h : fsize s ≠ 0) : pts (f + 1) s = lv s (fsize s) :: pts f (s.drop (fsize s)) := by simp [pts, hs, h]
theorem err_go {f k : Nat} {s : List Int} (hs : s ≠ []) (h : fsize s ≠ 0) : err (f + 1) s k = err f (s.drop (fsize s)) (k + fsize s) := by simp [err, hs, h]
theorem err_bad {f k : Nat} {s : List Int} (hs : s ≠ []) (h : fsize s = 0) : err (f + 1) s k = some k := by simp [err, hs, h]
theorem pts_len (f : Nat) : ∀ s : List Int, (pts f s).length ≤ f := by
  induction f with
  | zero => intro s; simp [pts]
  | succ f ih =>
    intro s
    unfold pts
    split
    · simp
    · split
      · simp
      · have := ih (s.drop (fsize s)); simp only [List.length_cons]; omega
theorem decR_len (bs : List Int) : (decR bs).1.length ≤ bs.length := by
  unfold decR; split
  · exact pts_len _ _
  · simp
theorem decR_ok {bs : List Int} (h : err bs.length bs 0 = none) : decR bs = (pts bs.length bs, 0, 0) := by unfold decR; rw [h]
theorem decR_bad {bs : List Int} {k : Nat} (h : err bs.length bs 0 = some k) : decR bs = ([], 2, (k : Int)) := by unfold decR; rw [h]
theorem hit_len {s : List Int} {n : Nat} (h : hit s n = true) : n ≤ s.length := by
  simp only [hit, Bool.and_eq_true, decide_eq_true_eq] at h
  have h1 := h.1
  unfold lv at h1
  split at h1
  · omega
  · omega
theorem fsize_le (s : List Int) : fsize s ≤ s.length := by
  unfold fsize
  split
  · exact hit_len ‹_›
  · split
    · exact hit_len ‹_›
    · split
      · exact hit_len ‹_›
      · split
        · exact hit_len ‹_›
        · omega
theorem fsize_four (s : List Int) : fsize s ≤ 4 := by
  unfold fsize; split <;> (try split) <;> (try split) <;> (try split) <;> omega

/-- What lies between two rounds: acc has come; from k on f rounds are left at the most. -/
def Mid (bs acc : List Int) (k : Nat) : Prop := k ≤ bs.length ∧ acc.length ≤ k ∧ ∃ f, bs.length - k ≤ f ∧ acc ++ pts f (bs.drop k) = pts bs.length bs ∧ err f (bs.drop k) k = err bs.length bs 0
theorem Mid.start (bs : List Int) : Mid bs [] 0 := ⟨Nat.zero_le _, Nat.le_refl _, bs.length, by omega, by simp, by simp⟩
theorem Mid.step {bs acc : List Int} {k : Nat} (h : Mid bs acc k) (hk : k < bs.length) (hf : fsize (bs.drop k) ≠ 0) :
    Mid bs (acc ++ [lv (bs.drop k) (fsize (bs.drop k))]) (k + fsize (bs.drop k)) := by
  obtain ⟨h1, ha, f, h2, h3, h4⟩ := h
  have hs : bs.drop k ≠ [] := by rw [ne_eq, List.drop_eq_nil_iff]; omega
  have hl := fsize_le (bs.drop k)
  rw [List.length_drop] at hl
  obtain ⟨f', rfl⟩ : ∃ f', f = f' + 1 := ⟨f - 1, by omega⟩
  rw [pts_go hs hf] at h3
  rw [err_go hs hf] at h4
  rw [List.drop_drop] at h3 h4
  refine ⟨by omega, by simp only [List.length_append, List.length_singleton]; omega, f', by omega, ?_, ?_⟩
  · rw [← h3]; simp
  · exact h4
theorem Mid.bad {bs acc : List Int} {k : Nat} (h : Mid bs acc k) (hk : k < bs.length) (hf : fsize (bs.drop k) = 0) : decR bs = ([], 2, (k : Int)) := by
  obtain ⟨h1, ha, f, h2, h3, h4⟩ := h
  have hs : bs.drop k ≠ [] := by rw [ne_eq, List.drop_eq_nil_iff]; omega
  obtain ⟨f', rfl⟩ : ∃ f', f = f' + 1 := ⟨f - 1, by omega⟩
  rw [err_bad hs hf] at h4
  exact decR_bad h4.symm
theorem Mid.done {bs acc : List Int} {k : Nat} (h : Mid bs acc k) (hk : ¬ k < bs.length) : decR bs = (acc, 0, 0) := by
  obtain ⟨h1, ha, f, h2, h3, h4⟩ := h
  rw [List.drop_eq_nil_of_le (by omega), pts_nil] at h3
  rw [List.drop_eq_nil_of_le (by omega), err_nil] at h4
  rw [decR_ok h4.symm, ← h3]; simp

theorem drop_at (bs : List Int) (k j : Nat) : (bs.drop k)[j]?.getD 0 = bs[k + j]?.getD 0 := by simp [List.getElem?_drop]
theorem foldc_step {s : List Int} {n k : Nat} {x : Int} (hk : k < n) (hn : n ≤ s.length) :
    foldc x ((s.drop k).take (n - k)) = if s[k]?.getD 0 / 64 = 2 then foldc (x * 64 + s[k]?.getD 0 % 64) ((s.drop (k + 1)).take (n - (k + 1))) else -1 := by
  rw [List.drop_eq_getElem_cons (by omega), show n - k = (n - (k + 1)) + 1 by omega, List.take_succ_cons, foldc]
  simp [show k < s.length by omega]
theorem lv_short {s : List Int} {n : Nat} (h : s.length < n) : lv s n = -1 := by simp [lv, h]
theorem lv_lead {s : List Int} {n : Nat} (h : n ≤ s.length) (hl : lead n (s[0]?.getD 0) < 0) : lv s n = -1 := by
  rw [lv, if_neg (by omega), if_pos hl]
theorem lv_fold {s : List Int} {n : Nat} (h : n ≤ s.length) (hl : 0 ≤ lead n (s[0]?.getD 0)) : lv s n = foldc (lead n (s[0]?.getD 0)) ((s.drop 1).take (n - 1)) := by
  rw [lv, if_neg (by omega), if_neg (by omega)]

end Go.Proofs.YtgmjpdejfdldlaaDoor

