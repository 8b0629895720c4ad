import Derived.Maps.AppendAt
import Derived.Lib.BufferMore
import Derived.Deep.Slices
import Derived.Handy
import Derived.Test.YtalkhnhhaiigiaaGreatDoorMAA
import Derived.Test.YtalkhnhhaiigiaaGreatDoorMAD
import Derived.Test.YtalkhnhhaiigiaaGreatDoorMAH
import Derived.Test.YtalkhnhhaiigiaaGreatDoorMAO
import Derived.Test.YtalkhnhhaiigiaaGreatDoorMAU
import Derived.Test.YtalkhnhhaiigiaaGreatDoorMAV
namespace Go.Proofs.YtalkhnhhaiigiaaGreatDoor
open Go.RowKit

def hd16 (n : Int) : Int := if n < 10 then 48 + n else 87 + n
def hex4 (p : Int) : List Int := [92, 117, hd16 (p / 4096 % 16), hd16 (p / 256 % 16), hd16 (p / 16 % 16), hd16 (p % 16)]
/-- Which points are written as numbers. -/
def byHex (p : Int) : Bool := decide (p < 32) || decide (p = 127) || decide (p = 8232) || decide (p = 8233) || !okPt p
def short (p : Int) : List Int :=
  if p = 8 then [92, 98] else if p = 12 then [92, 102] else if p = 10 then [92, 110] else if p = 13 then [92, 114] else if p = 9 then [92, 116]
  else if p = 34 then [92, 34] else if p = 92 then [92, 92] else []
/-- A point between quotes. -/
def qOne (p : Int) : List Int := if short p ≠ [] then short p else if byHex p then hex4 p else enc p
def qAll (ps : List Int) : List Int := ps.flatMap qOne
def quR (us : List Int) : List Int × Int := if (fuR us).2 = 0 then (34 :: qAll (fuR us).1 ++ [34], 0) else ([], (fuR us).2)

theorem short_len (p : Int) : (short p).length ≤ 2 := by
  unfold short
  repeat' split
  all_goals simp
theorem qOne_len (p : Int) : (qOne p).length ≤ 6 := by
  unfold qOne
  have h1 := short_len p
  have h2 := enc_len p
  split
  · omega
  · split
    · simp [hex4]
    · omega
theorem qAll_len (ps : List Int) : (qAll ps).length ≤ 6 * ps.length := by
  induction ps with
  | nil => simp [qAll]
  | cons p ps ih =>
    have := qOne_len p
    simp only [qAll, List.flatMap_cons, List.length_append, List.length_cons] at ih ⊢
    omega
theorem qAll_step (zs : List Int) (k : Nat) (hk : k < zs.length) : qAll (zs.take (k + 1)) = qAll (zs.take k) ++ qOne (zs[k]?.getD 0) := by
  rw [take_snoc zs k hk]; simp [qAll]

def hexS : ByteArray := { data := #[48, 49, 50, 51, 52, 53, 54, 55, 56, 57, 97, 98, 99, 100, 101, 102] }
theorem hex_at (n : Nat) (h : n < 16) (W : World) : (Instr.index 9 (.string hexS) (.int .i32 (n : Int))).run Tryz.prog W = .ok (.int .u8 (hd16 n)) W := by
  rw [run_index_string W 9 hexS .i32 (n : Int) Tryz.underlying9]
  have hs : hexS.size = 16 := rfl
  rw [dif_pos ⟨by omega, by rw [hs]; omega⟩]
  congr 2
  match n, h with
  | 0, _ => rfl
  | 1, _ => rfl
  | 2, _ => rfl
  | 3, _ => rfl
  | 4, _ => rfl
  | 5, _ => rfl
  | 6, _ => rfl
  | 7, _ => rfl
  | 8, _ => rfl
  | 9, _ => rfl
  | 10, _ => rfl
  | 11, _ => rfl
  | 12, _ => rfl
  | 13, _ => rfl
  | 14, _ => rfl
  | 15, _ => rfl
  | n + 16, h => omega
theorem hex_at64 (n : Nat) (h : n < 16) (W : World) : (Instr.index 9 (.string hexS) (.int .i64 (n : Int))).run Tryz.prog W = .ok (.int .u8 (hd16 n)) W := by
  have := hex_at n h W
  rw [run_index_string W 9 hexS _ (n : Int) Tryz.underlying9] at this ⊢
  have hs : hexS.size = 16 := rfl
  rw [dif_pos ⟨by omega, by rw [hs]; omega⟩] at this ⊢
  exact this
theorem and15 (p : Int) (h0 : 0 ≤ p) (h1 : p < 2147483648) : bits .and .i32 p 15 = p % 16 := mask_i32 4 (by omega) p h0 h1
theorem hex_i (p : Int) (W : World) : (Instr.index 9 (.string hexS) (.int .i32 (p % 16))).run Tryz.prog W = .ok (.int .u8 (hd16 (p % 16))) W := by
  obtain ⟨n, hn⟩ := Int.eq_ofNat_of_zero_le (show 0 ≤ p % 16 by omega)
  rw [hn]
  exact hex_at n (by omega) W
theorem hex_i64 (p : Int) (W : World) : (Instr.index 9 (.string hexS) (.int .i64 (p % 16))).run Tryz.prog W = .ok (.int .u8 (hd16 (p % 16))) W := by
  obtain ⟨n, hn⟩ := Int.eq_ofNat_of_zero_le (show 0 ≤ p % 16 by omega)
  rw [hn]
  exact hex_at64 n (by omega) W

end Go.Proofs.YtalkhnhhaiigiaaGreatDoor

namespace Go.Proofs.YtalkhnhhaiigiaaGreatDoor

/-! The document of a tree, as plain lists: both sides build it so. -/

def leafP (k : Int) : List Pc := [⟨k, [], 0⟩]
def textP (t : List Int) : List Pc := [⟨1, t, 0⟩]
def catP : Pc := ⟨6, [], 0⟩
def rowT (dss : List (List Pc)) : List Pc := dss.flatMap fun ds => ds ++ [catP]
def rowP : List (List Pc) → List Pc
  | [] => leafP 0
  | ds :: dss => ds ++ rowT dss

theorem rowT_snoc (dss : List (List Pc)) (ds : List Pc) : rowT (dss ++ [ds]) = rowT dss ++ (ds ++ [catP]) := by simp [rowT]

/-- A text in lines: cur is the line so far. -/
def spl : List Int → List Int → List (List Int)
  | cur, [] => [cur]
  | cur, x :: xs => if x = 10 then cur :: spl [] xs else spl (cur ++ [x]) xs
theorem spl_ne (cur xs : List Int) : spl cur xs ≠ [] := by
  induction xs generalizing cur with
  | nil => simp [spl]
  | cons x xs ih => simp only [spl]; split <;> simp [ih]

/-- Lines with raw lines between them. -/
def rawR : List (List Int) → List (List Pc)
  | [] => []
  | [l] => [textP l]
  | l :: ls => textP l :: leafP 5 :: rawR ls
def rawT (ls : List (List Int)) : List (List Pc) := ls.flatMap fun l => [leafP 5, textP l]
theorem raw_eq : ∀ (l : List Int) (ls : List (List Int)), rawR (l :: ls) = textP l :: rawT ls
  | l, [] => rfl
  | l, m :: ls => by simp only [rawR, raw_eq m ls]; simp [rawT]

def comP' (c : Cm) : List Pc := if c.b then rowP (rawR (spl [] (47 :: 42 :: c.t ++ [42, 47]))) else textP (47 :: 47 :: c.t)
def befP (cs : List Cm) : List (List Pc) := cs.flatMap fun c => [comP' c, leafP 4]
def aftP (cs : List Cm) : List (List Pc) := cs.flatMap fun c => [leafP 4, comP' c]
theorem befP_snoc (cs : List Cm) (c : Cm) : befP (cs ++ [c]) = befP cs ++ [comP' c, leafP 4] := by simp [befP]
theorem aftP_snoc (cs : List Cm) (c : Cm) : aftP (cs ++ [c]) = aftP cs ++ [leafP 4, comP' c] := by simp [aftP]

def keyB (us : List Int) : List Int := if nmR us then us else (quR us).1
def keyP (n : Nod) : List (List Pc) := if n.mem then [textP (keyB n.key ++ [58, 32])] else []

def scalP (n : Nod) : List Pc :=
  if n.k = 3 then textP n.text else if n.k = 4 then textP (quR n.units).1
  else if n.k = 0 then textP [110, 117, 108, 108] else if n.k = 1 then textP [116, 114, 117, 101] else textP [102, 97, 108, 115, 101]

section
variable (V : List Nod → List Pc × List Nod)
def restK : Nat → List Nod → List Nod
  | 0, R => R
  | k + 1, R => (V (restK k R)).2
def itemP : List Nod → List (List Pc)
  | [] => []
  | n :: R => befP n.lead ++ (keyP n ++ [(V (n :: R)).1])
def itK : Nat → List Nod → List (List Pc)
  | 0, _ => []
  | k + 1, R => itK k R ++ ((if k = 0 then [] else [textP [44], leafP 2]) ++ itemP V (restK V k R))
end

def opnP (k : Int) : Int := if k = 6 then 123 else 91
def clsP (k : Int) : Int := if k = 6 then 125 else 93
def edgP (k : Int) : Int := if k = 6 then 2 else 3
def altP : List Pc := [⟨1, [44], 0⟩, ⟨0, [], 0⟩, ⟨9, [], 0⟩]
def innP (k : Int) (items : List (List Pc)) (tail : List Cm) : List (List Pc) := leafP (edgP k) :: (items ++ (altP :: aftP tail))
def nestP (ind : Int) (dss : List (List Pc)) : List Pc := rowP dss ++ [⟨7, [], ind⟩]
def contP (ind : Int) (n : Nod) (items : List (List Pc)) : List Pc :=
  if n.cnt = 0 then
    if n.tail = [] then textP [opnP n.k, clsP n.k]
    else rowP [textP [opnP n.k], nestP ind (aftP n.tail), leafP 4, textP [clsP n.k]]
  else rowP [textP [opnP n.k], nestP ind (innP n.k items n.tail), leafP (edgP n.k), textP [clsP n.k]] ++ [⟨8, [], 0⟩]

def valP (ind : Int) : Nat → List Nod → List Pc × List Nod
  | 0, R => ([], R)
  | _ + 1, [] => ([], [])
  | d + 1, n :: R => if n.k < 5 then (scalP n, R) else (contP ind n (itK (valP ind d) n.cnt.toNat R), restK (valP ind d) n.cnt.toNat R)

theorem rest_loop {d : Nat} {m : Bool} {ind : Int} (ih : ∀ R R2, walkL triv d m (R, ()) = some (R2, ()) → (∀ n ∈ R, n.k < 5 → n.cnt = 0) → (valP ind d R).2 = R2) :
    ∀ (k : Nat) (R R2 : List Nod), loopN (walkL triv d m) k (R, ()) = some (R2, ()) → (∀ n ∈ R, n.k < 5 → n.cnt = 0) → ∀ j, j ≤ k → loopN (walkL triv d m) j (R, ()) = some (restK (valP ind d) j R, ()) := by
  intro k R R2 h hn j hj
  induction j with
  | zero => rfl
  | succ j ihj =>
    have h1 := ihj (by omega)
    obtain ⟨P, hP⟩ := (loop_splits (walk_splits triv d m).1 (walk_splits triv d m).2 j).2 _ _ h1
    have hs : loopN (walkL triv d m) (j + 1) (R, ()) = (loopN (walkL triv d m) j (R, ())).bind (walkL triv d m) := by
      have : ∀ (f : List Nod × Unit → Option (List Nod × Unit)) (k : Nat) (s : List Nod × Unit), loopN f (k + 1) s = (loopN f k s).bind f := by
        intro f k
        induction k with
        | zero => intro s; simp [loopN]
        | succ k ih => intro s; rw [loopN]; simp only [loopN]; cases f s with
          | none => rfl
          | some x => exact ih x
      exact this _ _ _
    rw [hs, h1, Option.bind_some]
    cases hw : walkL triv d m (restK (valP ind d) j R, ()) with
    | none =>
      exfalso
      have hk : ∀ i, loopN (walkL triv d m) (j + 1 + i) (R, ()) = none := by
        intro i
        have add : ∀ (f : List Nod × Unit → Option (List Nod × Unit)) (a b : Nat) (s : List Nod × Unit), loopN f (a + b) s = (loopN f a s).bind (loopN f b) := by
          intro f a
          induction a with
          | zero => intro b s; simp [loopN]
          | succ a ih => intro b s; rw [show a + 1 + b = (a + b) + 1 by omega]; simp only [loopN]; cases f s with
            | none => rfl
            | some x => exact ih b x
        rw [add, hs, h1, Option.bind_some, hw]; rfl
      have := hk (k - (j + 1))
      rw [show j + 1 + (k - (j + 1)) = k by omega, h] at this
      cases this
    | some x =>
      obtain ⟨R3, ⟨⟩⟩ := x
      have := ih _ R3 hw (fun n hn' => hn n (by rw [hP]; exact List.mem_append_right _ hn'))
      simp only [restK, this]

theorem val_rest (ind : Int) : ∀ (d : Nat) (m : Bool) (R R2 : List Nod), walkL triv d m (R, ()) = some (R2, ()) → (∀ n ∈ R, n.k < 5 → n.cnt = 0) → (valP ind d R).2 = R2
  | 0, m, R, R2, h, _ => by simp [walkL] at h
  | d + 1, m, [], R2, h, _ => by simp [walkL] at h
  | d + 1, m, n :: R, R2, h, hn => by
    by_cases hm : n.mem ≠ m
    · simp [walkL, hm] at h
    · by_cases hd : 5 ≤ n.k ∧ d = 0
      · simp [walkL, hm, hd, triv] at h
      · simp only [walkL, if_neg hm, if_neg hd, triv, Option.bind_some] at h
        by_cases h5 : n.k < 5
        · have hc := hn n (by simp) h5
          rw [hc] at h
          simp only [Int.toNat_zero, loopN, Option.some.injEq, Prod.mk.injEq, and_true] at h
          simp only [valP, if_pos h5, h]
        · simp only [valP, if_neg h5]
          have := rest_loop (ind := ind) (fun R R2 h h' => val_rest ind d _ R R2 h h') _ R R2 h (fun n hn' => hn n (by simp [hn'])) _ (Nat.le_refl _)
          rw [h] at this
          simpa using this.symm

/-- How much memory a document is. -/
def mes : List Pc → Nat
  | [] => 0
  | p :: ps => 1 + p.t.length + mes ps
theorem mes_app (a b : List Pc) : mes (a ++ b) = mes a + mes b := by
  induction a with
  | nil => simp [mes]
  | cons p a ih => simp only [List.cons_append, mes, ih]; omega
theorem mes_len (a : List Pc) : a.length ≤ mes a := by
  induction a with
  | nil => simp
  | cons p a ih => simp only [List.length_cons, mes]; omega
theorem mes_sum (a : List Pc) : (mes a : Int) = a.length + sumT a := by
  induction a with
  | nil => simp [mes, sumT]
  | cons p a ih => simp only [List.length_cons, mes, sumT]; omega
theorem mes_mem (a : List Pc) : ∀ p ∈ a, p.t.length ≤ mes a := by
  induction a with
  | nil => simp
  | cons p a ih =>
    intro q hq
    simp only [mes]
    rcases List.mem_cons.1 hq with rfl | h
    · omega
    · have := ih q h; omega
def mess : List (List Pc) → Nat
  | [] => 0
  | ds :: dss => mes ds + 1 + mess dss
theorem mess_app (a b : List (List Pc)) : mess (a ++ b) = mess a + mess b := by
  induction a with
  | nil => simp [mess]
  | cons p a ih => simp only [List.cons_append, mess, ih]; omega
theorem mess_len (a : List (List Pc)) : a.length ≤ mess a := by
  induction a with
  | nil => simp
  | cons p a ih => simp only [List.length_cons, mess]; omega
theorem mess_mem (a : List (List Pc)) : ∀ p ∈ a, mes p ≤ mess a := by
  induction a with
  | nil => simp
  | cons p a ih =>
    intro q hq
    simp only [mess]
    rcases List.mem_cons.1 hq with rfl | h
    · omega
    · have := ih q h; omega
theorem mes_rowT (dss : List (List Pc)) : mes (rowT dss) = mess dss := by
  induction dss with
  | nil => rfl
  | cons ds dss ih => rw [show rowT (ds :: dss) = (ds ++ [catP]) ++ rowT dss by simp [rowT], mes_app, mes_app, ih]; simp [mess, mes, catP]
theorem mes_row (dss : List (List Pc)) : mes (rowP dss) ≤ mess dss + 1 := by
  cases dss with
  | nil => simp [rowP, leafP, mes, mess]
  | cons ds dss => simp only [rowP, mes_app, mes_rowT, mess]; omega

def lenL : List (List Int) → Nat
  | [] => 0
  | l :: ls => l.length + 1 + lenL ls
theorem spl_lenL (cur xs : List Int) : lenL (spl cur xs) = cur.length + xs.length + 1 := by
  induction xs generalizing cur with
  | nil => simp [spl, lenL]
  | cons x xs ih =>
    simp only [spl]
    split
    · simp only [lenL, ih, List.length_cons, List.length_nil]; omega
    · rw [ih]; simp only [List.length_append, List.length_cons, List.length_nil]; omega
theorem mess_raw (ls : List (List Int)) : mess (rawR ls) ≤ 4 * lenL ls := by
  induction ls with
  | nil => simp [rawR, mess]
  | cons l ls ih =>
    cases ls with
    | nil => simp only [rawR, mess, textP, mes, lenL]; omega
    | cons m ls => simp only [rawR, mess, textP, leafP, mes, lenL, List.length_nil] at ih ⊢; omega
theorem mes_com (c : Cm) : mes (comP' c) ≤ 4 * c.t.length + 24 := by
  unfold comP'
  split
  · have := mes_row (rawR (spl [] (47 :: 42 :: c.t ++ [42, 47])))
    have h2 := mess_raw (spl [] (47 :: 42 :: c.t ++ [42, 47]))
    rw [spl_lenL] at h2
    simp only [List.length_nil, List.length_append, List.length_cons] at h2
    omega
  · simp only [textP, mes, List.length_cons]; omega
def wC : List Cm → Nat
  | [] => 0
  | c :: cs => 4 * c.t.length + 30 + wC cs
theorem mess_bef (cs : List Cm) : mess (befP cs) ≤ wC cs := by
  induction cs with
  | nil => simp [befP, mess, wC]
  | cons c cs ih =>
    rw [show befP (c :: cs) = [comP' c, leafP 4] ++ befP cs by simp [befP], mess_app]
    have := mes_com c
    simp only [mess, leafP, mes, List.length_nil, wC]; omega
theorem mess_aft (cs : List Cm) : mess (aftP cs) ≤ wC cs := by
  induction cs with
  | nil => simp [aftP, mess, wC]
  | cons c cs ih =>
    rw [show aftP (c :: cs) = [leafP 4, comP' c] ++ aftP cs by simp [aftP], mess_app]
    have := mes_com c
    simp only [mess, leafP, mes, List.length_nil, wC]; omega
theorem qu_len (us : List Int) : (quR us).1.length ≤ 6 * us.length + 2 := by
  unfold quR
  split
  · have := qAll_len (fuR us).1
    have := fuR_len us
    simp only [List.length_append, List.length_cons, List.length_nil]; omega
  · simp
theorem key_len (us : List Int) : (keyB us).length ≤ 6 * us.length + 2 := by
  unfold keyB
  split
  · omega
  · exact qu_len us
/-- The weight of a node. -/
def wN (n : Nod) : Nat := 100 + wC n.lead + wC n.tail + 6 * n.key.length + 6 * n.units.length + n.text.length
def wNs : List Nod → Nat
  | [] => 0
  | n :: R => wN n + wNs R
theorem wNs_app (a b : List Nod) : wNs (a ++ b) = wNs a + wNs b := by
  induction a with
  | nil => simp [wNs]
  | cons p a ih => simp only [List.cons_append, wNs, ih]; omega
theorem mes_scal (n : Nod) : mes (scalP n) + 40 + wC n.lead + wC n.tail + 6 * n.key.length ≤ wN n := by
  have := qu_len n.units
  unfold scalP wN
  repeat' split
  all_goals simp only [textP, mes, List.length_cons, List.length_nil]
  all_goals omega
/-- A value's document is not more than its nodes. -/
theorem mess_item {V : List Nod → List Pc × List Nod} (n : Nod) (R : List Nod) (x : Nat) (h : mes (V (n :: R)).1 + 40 + wC n.lead + 6 * n.key.length ≤ x) : mess (itemP V (n :: R)) + 20 ≤ x := by
  have h1 := mess_bef n.lead
  have h2 := key_len n.key
  simp only [itemP, mess_app, mess]
  unfold keyP
  split
  · simp only [mess, textP, mes, List.length_append, List.length_cons, List.length_nil]; omega
  · simp only [mess]; omega

end Go.Proofs.YtalkhnhhaiigiaaGreatDoor

namespace Go.Proofs.YtalkhnhhaiigiaaGreatDoor

theorem loopN_succB {σ : Type} (f : σ → Option σ) : ∀ (k : Nat) (s : σ), loopN f (k + 1) s = (loopN f k s).bind f
  | 0, s => by simp [loopN]
  | k + 1, s => by
    rw [loopN]
    simp only [loopN]
    cases f s with
    | none => rfl
    | some x => exact loopN_succB f k x

theorem mess_itK {d : Nat} {m : Bool} {ind : Int} (ih : ∀ R R2, walkL triv d m (R, ()) = some (R2, ()) → (∀ n ∈ R, n.k < 5 → n.cnt = 0) → ∃ n P, R = n :: (P ++ R2) ∧ mes (valP ind d R).1 + 40 + wC n.lead + 6 * n.key.length ≤ wN n + wNs P) :
    ∀ (k : Nat) (R R2 : List Nod), loopN (walkL triv d m) k (R, ()) = some (R2, ()) → (∀ n ∈ R, n.k < 5 → n.cnt = 0) → ∃ P, R = P ++ R2 ∧ mess (itK (valP ind d) k R) ≤ wNs P
  | 0, R, R2, h, _ => by
    simp only [loopN, Option.some.injEq, Prod.mk.injEq, and_true] at h
    exact ⟨[], by simpa using h, by simp [itK, mess]⟩
  | k + 1, R, R2, h, hn => by
    have h1 := rest_loop (ind := ind) (fun R R2 h h' => val_rest ind d _ R R2 h h') _ R R2 h hn k (by omega)
    obtain ⟨P1, hP1, hm1⟩ := mess_itK ih k R _ h1 hn
    rw [loopN_succB, h1, Option.bind_some] at h
    obtain ⟨n, P2, hP2, hm2⟩ := ih _ R2 h (fun n hn' => hn n (by rw [hP1]; exact List.mem_append_right _ hn'))
    refine ⟨P1 ++ (n :: P2), by rw [List.append_assoc, List.cons_append, ← hP2]; exact hP1, ?_⟩
    simp only [itK, mess_app, wNs_app, wNs]
    have h3 := mess_item (V := valP ind d) n (P2 ++ R2) (wN n + wNs P2) (by rw [← hP2]; exact hm2)
    rw [← hP2] at h3
    split
    · simp only [mess]; omega
    · simp only [mess, textP, leafP, mes, List.length_cons, List.length_nil]; omega

theorem mes_cont (ind : Int) (n : Nod) (items : List (List Pc)) : mes (contP ind n items) ≤ mess items + wC n.tail + 40 := by
  have h1 := mess_aft n.tail
  unfold contP
  split
  · split
    · simp only [textP, mes, List.length_cons, List.length_nil]; omega
    · refine Nat.le_trans (mes_row _) ?_
      have h2 := mes_row (aftP n.tail)
      simp only [mess, textP, leafP, mes, nestP, mes_app, List.length_cons, List.length_nil]; omega
  · rw [mes_app]
    have h3 := mes_row [textP [opnP n.k], nestP ind (innP n.k items n.tail), leafP (edgP n.k), textP [clsP n.k]]
    have h2 := mes_row (innP n.k items n.tail)
    simp only [innP, mess, mess_app, textP, leafP, mes, nestP, mes_app, altP, List.length_cons, List.length_nil] at h2 h3 ⊢
    omega

theorem val_mes (ind : Int) : ∀ (d : Nat) (m : Bool) (R R2 : List Nod), walkL triv d m (R, ()) = some (R2, ()) → (∀ n ∈ R, n.k < 5 → n.cnt = 0) → ∃ n P, R = n :: (P ++ R2) ∧ mes (valP ind d R).1 + 40 + wC n.lead + 6 * n.key.length ≤ wN n + wNs P
  | 0, m, R, R2, h, _ => by simp [walkL] at h
  | d + 1, m, [], R2, h, _ => by simp [walkL] at h
  | d + 1, m, n :: R, R2, h, hn => by
    by_cases hm : n.mem ≠ m
    · simp [walkL, hm] at h
    · by_cases hd : 5 ≤ n.k ∧ d = 0
      · simp [walkL, hm, hd, triv] at h
      · simp only [walkL, if_neg hm, if_neg hd, triv, Option.bind_some] at h
        by_cases h5 : n.k < 5
        · have hc := hn n (by simp) h5
          rw [hc] at h
          simp only [Int.toNat_zero, loopN, Option.some.injEq, Prod.mk.injEq, and_true] at h
          refine ⟨n, [], by rw [h]; rfl, ?_⟩
          simp only [valP, if_pos h5, wNs]
          have := mes_scal n
          omega
        · obtain ⟨P, hP, hm⟩ := mess_itK (ind := ind) (fun R R2 h h' => val_mes ind d _ R R2 h h') _ R R2 h (fun n hn' => hn n (by simp [hn']))
          refine ⟨n, P, by rw [hP], ?_⟩
          simp only [valP, if_neg h5]
          have := mes_cont ind n (itK (valP ind d) n.cnt.toNat R)
          unfold wN
          omega

/-- The whole document. -/
def docP (ind : Int) (t : Tre) : List Pc :=
  match t.nodes with
  | [] => []
  | n :: R => rowP (befP n.lead ++ ((valP ind 201 (n :: R)).1 :: leafP 4 :: befP t.tail))

theorem fu_small : ∀ (us : List Int), (∀ u ∈ us, u < 128) → fu us = us
  | [], _ => rfl
  | [x], h => rfl
  | x :: y :: r, h => by
    have hx := h x (by simp)
    have ih := fu_small (y :: r) (fun u hu => h u (by simp at hu ⊢; right; exact hu))
    rw [fu, if_neg (by simp [isHi]; omega), ih]
theorem nm_chars (us : List Int) (h : nmR us = true) : ∀ u ∈ us, isLet u = true ∨ isDig u = true := by
  intro u hu
  obtain ⟨j, hj, rfl⟩ := List.getElem_of_mem hu
  unfold nmR nmUp at h
  simp only [Bool.and_eq_true, List.all_eq_true, List.mem_range] at h
  have := h.1 j hj
  simp only [hj, List.getElem?_eq_getElem, Option.getD_some, nmAt, Bool.or_eq_true, Bool.and_eq_true] at this
  rcases this with h | h
  · exact .inl h
  · exact .inr h.2
theorem q_char (u : Int) (h : isLet u = true ∨ isDig u = true) : qOne u = [u] ∧ 0 ≤ u ∧ u < 128 := by
  have hb : 36 ≤ u ∧ u < 123 ∧ u ≠ 92 := by
    simp only [isLet, isDig, decide_eq_true_eq] at h
    omega
  refine ⟨?_, by omega, by omega⟩
  have hs : short u = [] := by unfold short; repeat' split
                               all_goals first | omega | rfl
  have hh : byHex u = false := by simp [byHex, okPt]; omega
  unfold qOne
  rw [hs, if_neg (by simp), hh]
  simp only [Bool.false_eq_true, if_false]
  unfold enc
  first | (rw [if_pos (by omega)]) | simp [show u < 128 by omega] | (split <;> first | rfl | omega)
/-- In a name nothing is escaped. -/
theorem qu_name (us : List Int) (h : nmR us = true) : quR us = (34 :: us ++ [34], 0) := by
  have hc := nm_chars us h
  have hf : fu us = us := fu_small us (fun u hu => (q_char u (hc u hu)).2.2)
  have hu : us.all isUn = true := by
    rw [List.all_eq_true]; intro u hu
    have := (q_char u (hc u hu)).2
    simp [isUn]; omega
  have hq : ∀ (l : List Int), (∀ u ∈ l, isLet u = true ∨ isDig u = true) → qAll l = l := by
    intro l
    induction l with
    | nil => intro _; rfl
    | cons x l ih => intro hl; rw [show qAll (x :: l) = qOne x ++ qAll l by simp [qAll], (q_char x (hl x (by simp))).1, ih (fun u hu => hl u (by simp [hu]))]; rfl
  unfold quR fuR
  rw [if_pos hu, hf]
  simp only [if_true, hq us hc]

end Go.Proofs.YtalkhnhhaiigiaaGreatDoor

namespace Go.Proofs.YtalkhnhhaiigiaaGreatDoor
open Go.RowKit

theorem run_noneF {P : Program} {w : World} (base : Nat) (t ty e : TypeId) (i : TypeInfo) (size : Nat) (ht : P.underlying t = some (.slice e)) (hi : P.info? e = some i)
    (v : Value) (n : Nat) (xs : List Value) (hown : w.ownsRow base e size v n xs) (c : Nat) : (Builtin.append_ #[t, t] ty #[v, .slice none 0 c]).run P w = .ok v w := by
  rcases hown.2 with ⟨rfl, rfl⟩ | ⟨g, cap, cur, rfl, _, _, hnc, _⟩
  · simp [Builtin.append_, run_underlying ht, sizeOf, typeInfo, hi, Builtin.lenOf, Builtin.firstCells]
  · simp [Builtin.append_, run_underlying ht, sizeOf, typeInfo, hi, Builtin.lenOf, Builtin.firstCells, hnc, storeCells]

theorem wpList_append_knownF {P : Program} {w : World} {ops : Array Oper} {rest : List Oper} {o : Oper} {a : Act} {Q : Exit → Act → World → Prop} (hgd : o.guard = none) (s x : Operand) (t : TypeId)
    (ho : o.op = .call { callee := .builtin .append, args := #[s, x], argTypes := #[t, t] }) (v xv v' : Value) (w' : World) (hs : a.eval s = v) (hx : a.eval x = xv)
    (hrun : (Builtin.append_ #[t, t] o.type #[v, xv]).run P w = .ok v' w') (h : wpList P ops Q rest (a.put o.dst v') w') : wpList P ops Q (o :: rest) a w := by
  refine wpList_plain hgd fun K hK => ?_
  unfold Oper.wp
  simp only [execOp, ho, resolve, invoke, builtin, Sem.run_bind, Sem.run_pure, Result.andThen_ok, List.map_toArray, List.map_cons, List.map_nil, hs, hx, hrun]
  exact hK _ _ h

/-- An empty row that has just been laid. -/
theorem row_new (w : World) (e : TypeId) (size : Nat) : (w.alloc (Obj.cells #[] e)).ownsRow w.heap.size e size (.slice (some ⟨w.heap.size, 0, none⟩) 0 0) 0 [] :=
  ⟨by simp, .inr ⟨w.heap.size, 0, #[], rfl, Nat.le_refl _, by show (w.heap.push _)[w.heap.size]? = _; simp, Nat.le_refl _, by unfold maxLen; omega, by simp, by simp⟩⟩

/-- 'append(v, t...)' of numbers that are read. -/
theorem append_bytes (B B' : Nat) (w : World) (v tv : Value) (ys t : List Int) (hown : Ow .u8 5 B w v ys) (hrd : Rd .u8 B' w tv t) (hB : B ≤ w.heap.size) (hn : ys.length + t.length ≤ 100000000000) :
    ∃ v' w', (Builtin.append_ #[57, 57] 57 #[v, tv]).run Tryz.prog w = .ok v' w' ∧ Ow .u8 5 B w' v' (ys ++ t) ∧ w.grownBy w' v.ownBlock ∧ (v'.ownBlock = v.ownBlock ∨ v'.ownBlock = some w.heap.size) := by
  obtain ⟨i0, hi, hz0, hz1, hz2⟩ := info_parts info5
  obtain ⟨a, cap, htv, hr⟩ := hrd
  subst htv
  cases a with
  | none =>
    have ht : t = [] := by
      rcases t with _ | ⟨z, zs⟩
      · rfl
      · obtain ⟨b, off, ha, _⟩ := hr (by simp); cases ha
    subst ht
    exact ⟨v, w, run_noneF B _ _ _ i0 1 Tryz.underlying57 hi v _ _ hown cap, by simpa using hown, World.grownBy.refl _ _, .inl rfl⟩
  | some ad =>
    have hnews : ∀ j u, (t.map (Value.int .u8))[j]? = some u → w.cell? (ad.add j) = some u := by
      intro j u hj
      have hjl : j < t.length := by have := (List.getElem?_eq_some_iff.1 hj).1; simpa using this
      obtain ⟨b2, off2, ha, _, hc⟩ := hr (fun e => by rw [e] at hjl; simp at hjl)
      cases ha
      rw [Addr.add_lit, hc j hjl]
      simpa [hjl] using hj
    obtain ⟨v', w', hrun, h1, h2, _, h4⟩ := run_append_own_at (P := Tryz.prog) w B 57 57 5 i0 (.int .u8 0) 1 1 Tryz.underlying57 hi hz0 hz1 hz2 rfl (by decide) v ys.length (ys.map (Value.int .u8)) hown ad t.length cap (t.map (Value.int .u8)) (by simp) hnews
      (by intro u hu; simp only [List.mem_map] at hu; obtain ⟨z, _, rfl⟩ := hu; rfl) (by unfold maxLen; omega) (by omega) hB
    exact ⟨v', w', hrun, by unfold Ow; simpa using h1, h2, h4⟩

set_option maxHeartbeats 1000000 in
theorem l1copy_exact (a : Option Addr) (n cap : Nat) (v' : Value) (w w' : World) (hrun : (Builtin.append_ #[57, 57] 57 #[.slice none 0 0, .slice a n cap]).run Tryz.prog w = .ok v' w') :
    Calls Tryz.prog 94 #[.slice a n cap] w fun e w2 => e = .returned v' ∧ w' = w2 := by
  go_enter Tryz.func94, Tryz.ntmps94
  go_wp2_with (at_builtin; refine wpList_append_knownF rfl _ _ _ rfl _ _ _ _ rfl rfl hrun ?_)
  go_ret
  exact ⟨rfl, rfl⟩

theorem l1copy_any (v : Value) (zs : List Int) (w : World) (hv : Rd .u8 w.heap.size w v zs) (hn : zs.length ≤ 4194304) :
    Calls Tryz.prog 94 #[v] w fun e w' => ∃ v', e = .returned v' ∧ Ow .u8 5 w.heap.size w' v' zs ∧ w.grownBy w' none := by
  obtain ⟨v', w', hrun, o', g', _⟩ := append_bytes w.heap.size w.heap.size w (.slice none 0 0) v [] zs ⟨by simp, .inl ⟨rfl, rfl⟩⟩ hv (Nat.le_refl _) (by simp; omega)
  obtain ⟨a, cap, hv0, _⟩ := id hv
  subst hv0
  refine (l1copy_exact a zs.length cap v' w w' hrun).mono ?_
  rintro e w2 ⟨rfl, rfl⟩
  exact ⟨v', rfl, by simpa using o', g'⟩

end Go.Proofs.YtalkhnhhaiigiaaGreatDoor

namespace Go.Proofs.YtalkhnhhaiigiaaGreatDoor
open Go.RowKit

theorem grown_set (w : World) (a : Addr) (u : Value) : w.grownBy (w.setCell a u) (some a.block) :=
  ⟨rfl, rfl, rfl, by simp, fun k _ hk => heap_setCell_other w a k u (fun e => hk (by simp [e]))⟩
theorem row_set {B : Nat} {w : World} {e : TypeId} {size n : Nat} {v : Value} {xs : List Value} (h : w.ownsRow B e size v n xs) (a : Addr) (u : Value) (hb : v.ownBlock ≠ some a.block) : (w.setCell a u).ownsRow B e size v n xs :=
  World.ownsRow.kept h (grown_set w a u) (.inr hb)
theorem Ow.set {q : IntKind} {t : TypeId} {B : Nat} {w : World} {v : Value} {zs : List Int} (h : Ow q t B w v zs) (a : Addr) (u : Value) (hb : a.block < B) : Ow q t B (w.setCell a u) v zs :=
  row_set h a u (fun e => by have := World.ownsRow.lt h _ e; omega)
theorem grown_both {W w1 : World} {a : Addr} {v : Value} (hg : W.grownBy w1 none) (h : W.cell? a = some v) (hf : W.frozen? a = false) : w1.cell? a = some v ∧ w1.frozen? a = false :=
  ⟨hg.cell h (by simp), (World.frozen?_of_block (hg.block a.block (World.block_lt_of_cell? W a h) (by simp))).trans hf⟩

/-- One element lies at block b from cell o on; its Text's value is tv. -/
structure PcAt (B : Nat) (w : World) (b o : Nat) (p : Pc) (tv : Value) : Prop where
  k : w.cell? ⟨b, o, none⟩ = some (.int .i64 p.k)
  t : w.cell? ⟨b, o + 1, none⟩ = some tv
  n : w.cell? ⟨b, o + 2, none⟩ = some (.int .i64 p.n)
  rd : RdB B w tv p.t
  sl : Sl tv p.t.length

/-- The slice value v reads as the elements doc; all lies below block B. -/
def RdP (B : Nat) (w : World) (v : Value) (doc : List Pc) : Prop :=
  ∃ a cap, v = .slice a doc.length cap ∧ doc.length ≤ cap ∧ cap ≤ maxLen ∧ (doc ≠ [] → ∃ b off, a = some ⟨b, off, none⟩ ∧ b < B ∧ ∀ j p, doc[j]? = some p → ∃ tv, PcAt B w b (off + j * 3) p tv)

theorem PcAt.beside {B : Nat} {w w' : World} {b o : Nat} {p : Pc} {tv : Value} {row : Option Nat} (h : PcAt B w b o p tv) (hb : b < B) (hg : w.grownBy w' row) (hr : ∀ k, row = some k → B ≤ k) : PcAt B w' b o p tv :=
  have hn : some b ≠ row := fun e => by have := hr b e.symm; omega
  ⟨hg.cell h.k hn, hg.cell h.t hn, hg.cell h.n hn, h.rd.beside hg hr, h.sl⟩

theorem RdP.beside {B : Nat} {w w' : World} {v : Value} {doc : List Pc} {row : Option Nat} (h : RdP B w v doc) (hg : w.grownBy w' row) (hr : ∀ k, row = some k → B ≤ k) : RdP B w' v doc := by
  obtain ⟨a, cap, hv, h1, h2, hh⟩ := h
  refine ⟨a, cap, hv, h1, h2, fun h0 => ?_⟩
  obtain ⟨b, off, ha, hb, hc⟩ := hh h0
  refine ⟨b, off, ha, hb, fun j p hp => ?_⟩
  obtain ⟨tv, ht⟩ := hc j p hp
  exact ⟨tv, ht.beside hb hg hr⟩

theorem RdP.keep {B : Nat} {w w' : World} {v : Value} {doc : List Pc} (h : RdP B w v doc) (hg : w.grownBy w' none) : RdP B w' v doc := h.beside hg (fun _ e => by cases e)

theorem Rd.wide {q : IntKind} {B B' : Nat} {w : World} {v : Value} {zs : List Int} (h : Rd q B w v zs) (hB : B ≤ B') : Rd q B' w v zs := by
  obtain ⟨a, cap, hv, hr⟩ := h
  refine ⟨a, cap, hv, fun h0 => ?_⟩
  obtain ⟨b, off, ha, hb, hc⟩ := hr h0
  exact ⟨b, off, ha, by omega, hc⟩

theorem RdP.wide {B B' : Nat} {w : World} {v : Value} {doc : List Pc} (h : RdP B w v doc) (hB : B ≤ B') : RdP B' w v doc := by
  obtain ⟨a, cap, hv, h1, h2, hh⟩ := h
  refine ⟨a, cap, hv, h1, h2, fun h0 => ?_⟩
  obtain ⟨b, off, ha, hb, hc⟩ := hh h0
  refine ⟨b, off, ha, by omega, fun j p hp => ?_⟩
  obtain ⟨tv, ht⟩ := hc j p hp
  exact ⟨tv, ⟨ht.k, ht.t, ht.n, ht.rd.wide hB, ht.sl⟩⟩

theorem RdP.at {B : Nat} {w : World} {v : Value} {doc : List Pc} (h : RdP B w v doc) (j : Nat) (hj : j < doc.length) :
    ∃ b off cap tv, v = .slice (some ⟨b, off, none⟩) doc.length cap ∧ b < B ∧ PcAt B w b (off + j * 3) doc[j] tv := by
  obtain ⟨a, cap, hv, h1, h2, hh⟩ := h
  obtain ⟨b, off, ha, hb, hc⟩ := hh (fun e => by rw [e] at hj; simp at hj)
  obtain ⟨tv, ht⟩ := hc j doc[j] (by simp [hj])
  exact ⟨b, off, cap, tv, by rw [hv, ha], hb, ht⟩

end Go.Proofs.YtalkhnhhaiigiaaGreatDoor

