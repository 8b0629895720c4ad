import Derived.Test.YtakkdniikhgpdaaGreatDoorMAB
import Derived.Test.YtakkdniikhgpdaaGreatDoorMAS
import Derived.Test.YtakkdniikhgpdaaGreatDoorNAA
namespace Go.Proofs.YtakkdniikhgpdaaGreatDoor
open Go.RowKit

/-! Trees as plain lists of nodes: a walk that takes a value's nodes off the list. -/

def loopN {σ : Type} (f : σ → Option σ) : Nat → σ → Option σ
  | 0, s => some s
  | k + 1, s => (f s).bind (loopN f k)

/-- A value taken off, each node asked in its order; d - 1 lists may stand inside each other. -/
def walkL {σ : Type} (chk : Nod → σ → Option σ) : Nat → Bool → List Nod × σ → Option (List Nod × σ)
  | 0, _, _ => none
  | _ + 1, _, ([], _) => none
  | d + 1, m, (n :: R, s) => if n.mem ≠ m then none else (chk n s).bind fun s' => if 5 ≤ n.k ∧ d = 0 then none else loopN (walkL chk d (decide (n.k = 6))) n.cnt.toNat (R, s')

def foldC {σ : Type} (chk : Nod → σ → Option σ) : List Nod → σ → Option σ
  | [], s => some s
  | n :: P, s => (chk n s).bind (foldC chk P)
theorem foldC_append {σ : Type} (chk : Nod → σ → Option σ) : ∀ (P Q : List Nod) (s : σ), foldC chk (P ++ Q) s = (foldC chk P s).bind (foldC chk Q)
  | [], Q, s => rfl
  | n :: P, Q, s => by
    simp only [List.cons_append, foldC]
    cases chk n s with
    | none => rfl
    | some s' => exact foldC_append chk P Q s'

/-- The walk that asks nothing. -/
def triv (_ : Nod) (u : Unit) : Option Unit := some u

def Splits {σ : Type} (chk : Nod → σ → Option σ) (f : List Nod × σ → Option (List Nod × σ)) (g : List Nod × Unit → Option (List Nod × Unit)) : Prop :=
  ∀ (R : List Nod) (s : σ) (R2 : List Nod) (s2 : σ), f (R, s) = some (R2, s2) ↔ ∃ P, R = P ++ R2 ∧ g (R, ()) = some (R2, ()) ∧ foldC chk P s = some s2
/-- What is left is an end of what was there. -/
def Ends (g : List Nod × Unit → Option (List Nod × Unit)) : Prop := ∀ R R2, g (R, ()) = some (R2, ()) → ∃ P, R = P ++ R2

theorem loop_splits {σ : Type} {chk : Nod → σ → Option σ} {f : List Nod × σ → Option (List Nod × σ)} {g : List Nod × Unit → Option (List Nod × Unit)} (h : Splits chk f g) (he : Ends g) : ∀ k, Splits chk (loopN f k) (loopN g k) ∧ Ends (loopN g k)
  | 0 => by
    refine ⟨fun R s R2 s2 => ⟨fun h => ?_, fun ⟨P, h1, h2, h3⟩ => ?_⟩, fun R R2 h => ?_⟩
    · simp only [loopN, Option.some.injEq, Prod.mk.injEq] at h
      obtain ⟨rfl, rfl⟩ := h
      exact ⟨[], rfl, rfl, rfl⟩
    · simp only [loopN, Option.some.injEq, Prod.mk.injEq, and_true] at h2
      subst h2
      have hP : P = [] := by simpa using h1
      subst hP
      simp only [foldC, Option.some.injEq] at h3
      subst h3
      rfl
    · simp only [loopN, Option.some.injEq, Prod.mk.injEq, and_true] at h
      exact ⟨[], by simpa using h⟩
  | k + 1 => by
    obtain ⟨ih, ihe⟩ := loop_splits h he k
    refine ⟨fun R s R2 s2 => ⟨fun hh => ?_, fun ⟨P, h1, h2, h3⟩ => ?_⟩, fun R R2 hh => ?_⟩
    · simp only [loopN, Option.bind_eq_some_iff] at hh
      obtain ⟨⟨R1, s1⟩, e1, e2⟩ := hh
      obtain ⟨P1, r1, g1, f1⟩ := (h R s R1 s1).1 e1
      obtain ⟨P2, r2, g2, f2⟩ := (ih R1 s1 R2 s2).1 e2
      refine ⟨P1 ++ P2, by rw [r1, r2, List.append_assoc], ?_, ?_⟩
      · simp only [loopN, g1, Option.bind_some]; exact g2
      · rw [foldC_append, f1]; exact f2
    · simp only [loopN, Option.bind_eq_some_iff] at h2
      obtain ⟨⟨R1, ⟨⟩⟩, g1, g2⟩ := h2
      obtain ⟨P1, r1⟩ := he R R1 g1
      obtain ⟨P2, r2⟩ := ihe R1 R2 g2
      have hP : P = P1 ++ P2 := by
        have : P ++ R2 = (P1 ++ P2) ++ R2 := by rw [← h1, r1, r2, List.append_assoc]
        exact List.append_cancel_right this
      rw [hP, foldC_append, Option.bind_eq_some_iff] at h3
      obtain ⟨s1, f1, f2⟩ := h3
      have e1 := (h R s R1 s1).2 ⟨P1, r1, g1, f1⟩
      have e2 := (ih R1 s1 R2 s2).2 ⟨P2, r2, g2, f2⟩
      simp only [loopN, e1, Option.bind_some]; exact e2
    · simp only [loopN, Option.bind_eq_some_iff] at hh
      obtain ⟨⟨R1, ⟨⟩⟩, g1, g2⟩ := hh
      obtain ⟨P1, r1⟩ := he R R1 g1
      obtain ⟨P2, r2⟩ := ihe R1 R2 g2
      exact ⟨P1 ++ P2, by rw [r1, r2, List.append_assoc]⟩

theorem walk_splits {σ : Type} (chk : Nod → σ → Option σ) : ∀ (d : Nat) (m : Bool), Splits chk (walkL chk d m) (walkL triv d m) ∧ Ends (walkL triv d m)
  | 0, m => ⟨fun R s R2 s2 => by simp [walkL], fun R R2 h => by simp [walkL] at h⟩
  | d + 1, m => by
    have hl := fun m' k => loop_splits (walk_splits chk d m').1 (walk_splits chk d m').2 k
    refine ⟨fun R s R2 s2 => ?_, fun R R2 hh => ?_⟩
    · cases R with
      | nil => simp [walkL]
      | cons n R =>
        by_cases hm : n.mem ≠ m
        · simp [walkL, hm]
        · by_cases hd : 5 ≤ n.k ∧ d = 0
          · simp [walkL, hm, hd, triv]
          · have e1 : walkL chk (d + 1) m (n :: R, s) = (chk n s).bind fun s' => loopN (walkL chk d (decide (n.k = 6))) n.cnt.toNat (R, s') := by simp only [walkL, if_neg hm, if_neg hd]
            have e2 : walkL triv (d + 1) m (n :: R, ()) = loopN (walkL triv d (decide (n.k = 6))) n.cnt.toNat (R, ()) := by simp only [walkL, if_neg hm, if_neg hd, triv, Option.bind_some]
            rw [e1, e2]
            constructor
            · intro hh
              rw [Option.bind_eq_some_iff] at hh
              obtain ⟨s', c1, c2⟩ := hh
              obtain ⟨P, r, g, f⟩ := ((hl _ _).1 R s' R2 s2).1 c2
              exact ⟨n :: P, by rw [r]; rfl, g, by simp only [foldC, c1, Option.bind_some]; exact f⟩
            · rintro ⟨P, r, g, f⟩
              obtain ⟨P', r'⟩ := (hl _ _).2 R R2 g
              have hP : P = n :: P' := by
                have : P ++ R2 = (n :: P') ++ R2 := by rw [← r, r']; rfl
                exact List.append_cancel_right this
              rw [hP] at f
              simp only [foldC, Option.bind_eq_some_iff] at f
              obtain ⟨s', c1, c2⟩ := f
              rw [Option.bind_eq_some_iff]
              exact ⟨s', c1, ((hl _ _).1 R s' R2 s2).2 ⟨P', r', g, c2⟩⟩
    · cases R with
      | nil => simp [walkL] at hh
      | cons n R =>
        by_cases hm : n.mem ≠ m
        · simp [walkL, hm] at hh
        · by_cases hd : 5 ≤ n.k ∧ d = 0
          · simp [walkL, hm, hd, triv] at hh
          · simp only [walkL, if_neg hm, if_neg hd, triv, Option.bind_some] at hh
            obtain ⟨P', r'⟩ := (hl _ _).2 R R2 hh
            exact ⟨n :: P', by rw [r']; rfl⟩

/-- A whole tree: all nodes are taken. -/
theorem walk_all {σ : Type} (chk : Nod → σ → Option σ) (d : Nat) (m : Bool) (R : List Nod) (s s2 : σ) : walkL chk d m (R, s) = some ([], s2) ↔ walkL triv d m (R, ()) = some ([], ()) ∧ foldC chk R s = some s2 := by
  rw [(walk_splits chk d m).1 R s [] s2]
  constructor
  · rintro ⟨P, r, g, f⟩
    have : R = P := by simpa using r
    subst this
    exact ⟨g, f⟩
  · rintro ⟨g, f⟩
    exact ⟨R, by simp, g, f⟩

/-- A value takes one node at least. -/
theorem walk_less (d : Nat) (m : Bool) (R R2 : List Nod) (h : walkL triv d m (R, ()) = some (R2, ())) : R2.length < R.length := by
  cases d with
  | zero => simp [walkL] at h
  | succ d =>
    cases R with
    | nil => simp [walkL] at h
    | cons n R =>
      by_cases hm : n.mem ≠ m
      · simp [walkL, hm] at h
      · by_cases hd : 5 ≤ n.k ∧ d = 0
        · simp [walkL, hm, hd, triv] at h
        · simp only [walkL, if_neg hm, if_neg hd, triv, Option.bind_some] at h
          obtain ⟨P, r⟩ := (loop_splits (walk_splits triv d _).1 (walk_splits triv d _).2 _).2 R R2 h
          rw [r]; simp; omega
/-- So that more items than nodes are too many. -/
theorem loop_long (d : Nat) (m : Bool) : ∀ (k : Nat) (R : List Nod), R.length < k → loopN (walkL triv d m) k (R, ()) = none
  | 0, R, h => by omega
  | k + 1, R, h => by
    simp only [loopN]
    cases hw : walkL triv d m (R, ()) with
    | none => rfl
    | some x =>
      obtain ⟨R1, ⟨⟩⟩ := x
      have := walk_less d m R R1 hw
      exact loop_long d m k R1 (by omega)

/-- The model's walk: it refuses a node with more items than the tree has nodes. -/
def endL (len : Nat) : Nat → Bool → List Nod → Option (List Nod)
  | 0, _, _ => none
  | _ + 1, _, [] => none
  | d + 1, m, n :: R => if n.mem ≠ m then none else if (len : Int) < n.cnt ∨ (5 ≤ n.k ∧ d = 0) then none else loopN (endL len d (decide (n.k = 6))) n.cnt.toNat R
theorem loop_same (f : List Nod → Option (List Nod)) (g : List Nod × Unit → Option (List Nod × Unit)) (len : Nat) (h : ∀ R, R.length ≤ len → (f R).map (fun x => (x, ())) = g (R, ())) (he : Ends g) : ∀ (k : Nat) (R : List Nod), R.length ≤ len → (loopN f k R).map (fun x => (x, ())) = loopN g k (R, ())
  | 0, R, _ => rfl
  | k + 1, R, hl => by
    simp only [loopN]
    have h1 := h R hl
    cases hf : f R with
    | none => rw [hf] at h1; simp only [Option.map_none] at h1; rw [← h1]; rfl
    | some R1 =>
      rw [hf] at h1
      simp only [Option.map_some] at h1
      rw [← h1]
      obtain ⟨P, r⟩ := he R R1 h1.symm
      exact loop_same f g len h he k R1 (by rw [r] at hl; simp at hl; omega)
theorem end_walk (len : Nat) : ∀ (d : Nat) (m : Bool) (R : List Nod), R.length ≤ len → (endL len d m R).map (fun x => (x, ())) = walkL triv d m (R, ())
  | 0, _, _, _ => rfl
  | _ + 1, _, [], _ => rfl
  | d + 1, m, n :: R, hl => by
    by_cases hm : n.mem ≠ m
    · simp [endL, walkL, hm]
    · by_cases hd : 5 ≤ n.k ∧ d = 0
      · simp [endL, walkL, hm, hd, triv]
      · have e2 : walkL triv (d + 1) m (n :: R, ()) = loopN (walkL triv d (decide (n.k = 6))) n.cnt.toNat (R, ()) := by simp only [walkL, if_neg hm, if_neg hd, triv, Option.bind_some]
        rw [e2]
        by_cases hc : (len : Int) < n.cnt
        · rw [loop_long d _ _ R (by simp at hl; omega)]
          simp [endL, hm, hc]
        · have e1 : endL len (d + 1) m (n :: R) = loopN (endL len d (decide (n.k = 6))) n.cnt.toNat R := by simp only [endL, if_neg hm]; rw [if_neg (by omega)]
          rw [e1]
          exact loop_same _ _ len (fun R' h' => end_walk len d _ R' h') (walk_splits triv d _).2 _ R (by simp at hl; omega)

end Go.Proofs.YtakkdniikhgpdaaGreatDoor

namespace Go.Proofs.YtakkdniikhgpdaaGreatDoor

/-! The document of a tree, as plain lists: both sides build it so. -/

def leafP (k : Int) : List Pc := [⟨k, [], 0⟩]
def textP (t : List Int) : List Pc := [⟨1, t, 0⟩]
def catP : Pc := ⟨6, [], 0⟩
def rowT (dss : List (List Pc)) : List Pc := dss.flatMap fun ds => ds ++ [catP]
def rowP : List (List Pc) → List Pc
  | [] => leafP 0
  | ds :: dss => ds ++ rowT dss

theorem rowT_snoc (dss : List (List Pc)) (ds : List Pc) : rowT (dss ++ [ds]) = rowT dss ++ (ds ++ [catP]) := by simp [rowT]

/-- A text in lines: cur is the line so far. -/
def spl : List Int → List Int → List (List Int)
  | cur, [] => [cur]
  | cur, x :: xs => if x = 10 then cur :: spl [] xs else spl (cur ++ [x]) xs
theorem spl_ne (cur xs : List Int) : spl cur xs ≠ [] := by
  induction xs generalizing cur with
  | nil => simp [spl]
  | cons x xs ih => simp only [spl]; split <;> simp [ih]

/-- Lines with raw lines between them. -/
def rawR : List (List Int) → List (List Pc)
  | [] => []
  | [l] => [textP l]
  | l :: ls => textP l :: leafP 5 :: rawR ls
def rawT (ls : List (List Int)) : List (List Pc) := ls.flatMap fun l => [leafP 5, textP l]
theorem raw_eq : ∀ (l : List Int) (ls : List (List Int)), rawR (l :: ls) = textP l :: rawT ls
  | l, [] => rfl
  | l, m :: ls => by simp only [rawR, raw_eq m ls]; simp [rawT]

def comP' (c : Cm) : List Pc := if c.b then rowP (rawR (spl [] (47 :: 42 :: c.t ++ [42, 47]))) else textP (47 :: 47 :: c.t)
def befP (cs : List Cm) : List (List Pc) := cs.flatMap fun c => [comP' c, leafP 4]
def aftP (cs : List Cm) : List (List Pc) := cs.flatMap fun c => [leafP 4, comP' c]
theorem befP_snoc (cs : List Cm) (c : Cm) : befP (cs ++ [c]) = befP cs ++ [comP' c, leafP 4] := by simp [befP]
theorem aftP_snoc (cs : List Cm) (c : Cm) : aftP (cs ++ [c]) = aftP cs ++ [leafP 4, comP' c] := by simp [aftP]

def keyB (us : List Int) : List Int := if nmR us then us else (quR us).1
def keyP (n : Nod) : List (List Pc) := if n.mem then [textP (keyB n.key ++ [58, 32])] else []

def scalP (n : Nod) : List Pc :=
  if n.k = 3 then textP n.text else if n.k = 4 then textP (quR n.units).1
  else if n.k = 0 then textP [110, 117, 108, 108] else if n.k = 1 then textP [116, 114, 117, 101] else textP [102, 97, 108, 115, 101]

section
variable (V : List Nod → List Pc × List Nod)
def restK : Nat → List Nod → List Nod
  | 0, R => R
  | k + 1, R => (V (restK k R)).2
def itemP : List Nod → List (List Pc)
  | [] => []
  | n :: R => befP n.lead ++ (keyP n ++ [(V (n :: R)).1])
def itK : Nat → List Nod → List (List Pc)
  | 0, _ => []
  | k + 1, R => itK k R ++ ((if k = 0 then [] else [textP [44], leafP 2]) ++ itemP V (restK V k R))
end

def opnP (k : Int) : Int := if k = 6 then 123 else 91
def clsP (k : Int) : Int := if k = 6 then 125 else 93
def edgP (k : Int) : Int := if k = 6 then 2 else 3
def altP : List Pc := [⟨1, [44], 0⟩, ⟨0, [], 0⟩, ⟨9, [], 0⟩]
def innP (k : Int) (items : List (List Pc)) (tail : List Cm) : List (List Pc) := leafP (edgP k) :: (items ++ (altP :: aftP tail))
def nestP (ind : Int) (dss : List (List Pc)) : List Pc := rowP dss ++ [⟨7, [], ind⟩]
def contP (ind : Int) (n : Nod) (items : List (List Pc)) : List Pc :=
  if n.cnt = 0 then
    if n.tail = [] then textP [opnP n.k, clsP n.k]
    else rowP [textP [opnP n.k], nestP ind (aftP n.tail), leafP 4, textP [clsP n.k]]
  else rowP [textP [opnP n.k], nestP ind (innP n.k items n.tail), leafP (edgP n.k), textP [clsP n.k]] ++ [⟨8, [], 0⟩]

def valP (ind : Int) : Nat → List Nod → List Pc × List Nod
  | 0, R => ([], R)
  | _ + 1, [] => ([], [])
  | d + 1, n :: R => if n.k < 5 then (scalP n, R) else (contP ind n (itK (valP ind d) n.cnt.toNat R), restK (valP ind d) n.cnt.toNat R)

theorem rest_loop {d : Nat} {m : Bool} {ind : Int} (ih : ∀ R R2, walkL triv d m (R, ()) = some (R2, ()) → (∀ n ∈ R, n.k < 5 → n.cnt = 0) → (valP ind d R).2 = R2) :
    ∀ (k : Nat) (R R2 : List Nod), loopN (walkL triv d m) k (R, ()) = some (R2, ()) → (∀ n ∈ R, n.k < 5 → n.cnt = 0) → ∀ j, j ≤ k → loopN (walkL triv d m) j (R, ()) = some (restK (valP ind d) j R, ()) := by
  intro k R R2 h hn j hj
  induction j with
  | zero => rfl
  | succ j ihj =>
    have h1 := ihj (by omega)
    obtain ⟨P, hP⟩ := (loop_splits (walk_splits triv d m).1 (walk_splits triv d m).2 j).2 _ _ h1
    have hs : loopN (walkL triv d m) (j + 1) (R, ()) = (loopN (walkL triv d m) j (R, ())).bind (walkL triv d m) := by
      have : ∀ (f : List Nod × Unit → Option (List Nod × Unit)) (k : Nat) (s : List Nod × Unit), loopN f (k + 1) s = (loopN f k s).bind f := by
        intro f k
        induction k with
        | zero => intro s; simp [loopN]
        | succ k ih => intro s; rw [loopN]; simp only [loopN]; cases f s with
          | none => rfl
          | some x => exact ih x
      exact this _ _ _
    rw [hs, h1, Option.bind_some]
    cases hw : walkL triv d m (restK (valP ind d) j R, ()) with
    | none =>
      exfalso
      have hk : ∀ i, loopN (walkL triv d m) (j + 1 + i) (R, ()) = none := by
        intro i
        have add : ∀ (f : List Nod × Unit → Option (List Nod × Unit)) (a b : Nat) (s : List Nod × Unit), loopN f (a + b) s = (loopN f a s).bind (loopN f b) := by
          intro f a
          induction a with
          | zero => intro b s; simp [loopN]
          | succ a ih => intro b s; rw [show a + 1 + b = (a + b) + 1 by omega]; simp only [loopN]; cases f s with
            | none => rfl
            | some x => exact ih b x
        rw [add, hs, h1, Option.bind_some, hw]; rfl
      have := hk (k - (j + 1))
      rw [show j + 1 + (k - (j + 1)) = k by omega, h] at this
      cases this
    | some x =>
      obtain ⟨R3, ⟨⟩⟩ := x
      have := ih _ R3 hw (fun n hn' => hn n (by rw [hP]; exact List.mem_append_right _ hn'))
      simp only [restK, this]

theorem val_rest (ind : Int) : ∀ (d : Nat) (m : Bool) (R R2 : List Nod), walkL triv d m (R, ()) = some (R2, ()) → (∀ n ∈ R, n.k < 5 → n.cnt = 0) → (valP ind d R).2 = R2
  | 0, m, R, R2, h, _ => by simp [walkL] at h
  | d + 1, m, [], R2, h, _ => by simp [walkL] at h
  | d + 1, m, n :: R, R2, h, hn => by
    by_cases hm : n.mem ≠ m
    · simp [walkL, hm] at h
    · by_cases hd : 5 ≤ n.k ∧ d = 0
      · simp [walkL, hm, hd, triv] at h
      · simp only [walkL, if_neg hm, if_neg hd, triv, Option.bind_some] at h
        by_cases h5 : n.k < 5
        · have hc := hn n (by simp) h5
          rw [hc] at h
          simp only [Int.toNat_zero, loopN, Option.some.injEq, Prod.mk.injEq, and_true] at h
          simp only [valP, if_pos h5, h]
        · simp only [valP, if_neg h5]
          have := rest_loop (ind := ind) (fun R R2 h h' => val_rest ind d _ R R2 h h') _ R R2 h (fun n hn' => hn n (by simp [hn'])) _ (Nat.le_refl _)
          rw [h] at this
          simpa using this.symm

/-- How much memory a document is. -/
def mes : List Pc → Nat
  | [] => 0
  | p :: ps => 1 + p.t.length + mes ps
theorem mes_app (a b : List Pc) : mes (a ++ b) = mes a + mes b := by
  induction a with
  | nil => simp [mes]
  | cons p a ih => simp only [List.cons_append, mes, ih]; omega
theorem mes_len (a : List Pc) : a.length ≤ mes a := by
  induction a with
  | nil => simp
  | cons p a ih => simp only [List.length_cons, mes]; omega
theorem mes_sum (a : List Pc) : (mes a : Int) = a.length + sumT a := by
  induction a with
  | nil => simp [mes, sumT]
  | cons p a ih => simp only [List.length_cons, mes, sumT]; omega
theorem mes_mem (a : List Pc) : ∀ p ∈ a, p.t.length ≤ mes a := by
  induction a with
  | nil => simp
  | cons p a ih =>
    intro q hq
    simp only [mes]
    rcases List.mem_cons.1 hq with rfl | h
    · omega
    · have := ih q h; omega
def mess : List (List Pc) → Nat
  | [] => 0
  | ds :: dss => mes ds + 1 + mess dss
theorem mess_app (a b : List (List Pc)) : mess (a ++ b) = mess a + mess b := by
  induction a with
  | nil => simp [mess]
  | cons p a ih => simp only [List.cons_append, mess, ih]; omega
theorem mess_len (a : List (List Pc)) : a.length ≤ mess a := by
  induction a with
  | nil => simp
  | cons p a ih => simp only [List.length_cons, mess]; omega
theorem mess_mem (a : List (List Pc)) : ∀ p ∈ a, mes p ≤ mess a := by
  induction a with
  | nil => simp
  | cons p a ih =>
    intro q hq
    simp only [mess]
    rcases List.mem_cons.1 hq with rfl | h
    · omega
    · have := ih q h; omega
theorem mes_rowT (dss : List (List Pc)) : mes (rowT dss) = mess dss := by
  induction dss with
  | nil => rfl
  | cons ds dss ih => rw [show rowT (ds :: dss) = (ds ++ [catP]) ++ rowT dss by simp [rowT], mes_app, mes_app, ih]; simp [mess, mes, catP]
theorem mes_row (dss : List (List Pc)) : mes (rowP dss) ≤ mess dss + 1 := by
  cases dss with
  | nil => simp [rowP, leafP, mes, mess]
  | cons ds dss => simp only [rowP, mes_app, mes_rowT, mess]; omega

def lenL : List (List Int) → Nat
  | [] => 0
  | l :: ls => l.length + 1 + lenL ls
theorem spl_lenL (cur xs : List Int) : lenL (spl cur xs) = cur.length + xs.length + 1 := by
  induction xs generalizing cur with
  | nil => simp [spl, lenL]
  | cons x xs ih =>
    simp only [spl]
    split
    · simp only [lenL, ih, List.length_cons, List.length_nil]; omega
    · rw [ih]; simp only [List.length_append, List.length_cons, List.length_nil]; omega
theorem mess_raw (ls : List (List Int)) : mess (rawR ls) ≤ 4 * lenL ls := by
  induction ls with
  | nil => simp [rawR, mess]
  | cons l ls ih =>
    cases ls with
    | nil => simp only [rawR, mess, textP, mes, lenL]; omega
    | cons m ls => simp only [rawR, mess, textP, leafP, mes, lenL, List.length_nil] at ih ⊢; omega
theorem mes_com (c : Cm) : mes (comP' c) ≤ 4 * c.t.length + 24 := by
  unfold comP'
  split
  · have := mes_row (rawR (spl [] (47 :: 42 :: c.t ++ [42, 47])))
    have h2 := mess_raw (spl [] (47 :: 42 :: c.t ++ [42, 47]))
    rw [spl_lenL] at h2
    simp only [List.length_nil, List.length_append, List.length_cons] at h2
    omega
  · simp only [textP, mes, List.length_cons]; omega
def wC : List Cm → Nat
  | [] => 0
  | c :: cs => 4 * c.t.length + 30 + wC cs
theorem mess_bef (cs : List Cm) : mess (befP cs) ≤ wC cs := by
  induction cs with
  | nil => simp [befP, mess, wC]
  | cons c cs ih =>
    rw [show befP (c :: cs) = [comP' c, leafP 4] ++ befP cs by simp [befP], mess_app]
    have := mes_com c
    simp only [mess, leafP, mes, List.length_nil, wC]; omega
theorem mess_aft (cs : List Cm) : mess (aftP cs) ≤ wC cs := by
  induction cs with
  | nil => simp [aftP, mess, wC]
  | cons c cs ih =>
    rw [show aftP (c :: cs) = [leafP 4, comP' c] ++ aftP cs by simp [aftP], mess_app]
    have := mes_com c
    simp only [mess, leafP, mes, List.length_nil, wC]; omega
theorem qu_len (us : List Int) : (quR us).1.length ≤ 6 * us.length + 2 := by
  unfold quR
  split
  · have := qAll_len (fuR us).1
    have := fuR_len us
    simp only [List.length_append, List.length_cons, List.length_nil]; omega
  · simp
theorem key_len (us : List Int) : (keyB us).length ≤ 6 * us.length + 2 := by
  unfold keyB
  split
  · omega
  · exact qu_len us
/-- The weight of a node. -/
def wN (n : Nod) : Nat := 100 + wC n.lead + wC n.tail + 6 * n.key.length + 6 * n.units.length + n.text.length
def wNs : List Nod → Nat
  | [] => 0
  | n :: R => wN n + wNs R
theorem wNs_app (a b : List Nod) : wNs (a ++ b) = wNs a + wNs b := by
  induction a with
  | nil => simp [wNs]
  | cons p a ih => simp only [List.cons_append, wNs, ih]; omega
theorem mes_scal (n : Nod) : mes (scalP n) + 40 + wC n.lead + wC n.tail + 6 * n.key.length ≤ wN n := by
  have := qu_len n.units
  unfold scalP wN
  repeat' split
  all_goals simp only [textP, mes, List.length_cons, List.length_nil]
  all_goals omega
/-- A value's document is not more than its nodes. -/
theorem mess_item {V : List Nod → List Pc × List Nod} (n : Nod) (R : List Nod) (x : Nat) (h : mes (V (n :: R)).1 + 40 + wC n.lead + 6 * n.key.length ≤ x) : mess (itemP V (n :: R)) + 20 ≤ x := by
  have h1 := mess_bef n.lead
  have h2 := key_len n.key
  simp only [itemP, mess_app, mess]
  unfold keyP
  split
  · simp only [mess, textP, mes, List.length_append, List.length_cons, List.length_nil]; omega
  · simp only [mess]; omega

end Go.Proofs.YtakkdniikhgpdaaGreatDoor

namespace Go.Proofs.YtakkdniikhgpdaaGreatDoor
open Go.RowKit

/-- What is left of 'left' behind n; below nought: -1. -/
def szB (n : Nat) (left : Int) : Int := if left - n < 0 then -1 else left - n

theorem szB_bd (n : Nat) (left : Int) (h1 : left ≤ 1048576) : -1 ≤ szB n left ∧ szB n left ≤ 1048576 := by
  unfold szB; split <;> omega

def szCF : List Cm → Int → Int
  | [], l => l
  | p :: ps, l => if szB p.t.length l < 0 then -1 else szCF ps (szB p.t.length l)
def szCs (doc : List Cm) (left : Int) : Int := if left - doc.length < 0 then -1 else szCF doc (left - doc.length)

theorem szCF_go (doc : List Cm) (k : Nat) (hk : k < doc.length) (l : Int) (h : ¬ szB doc[k].t.length l < 0) : szCF (doc.drop k) l = szCF (doc.drop (k + 1)) (szB doc[k].t.length l) := by
  rw [List.drop_eq_getElem_cons hk]; simp only [szCF]; rw [if_neg h]
theorem szCF_bad (doc : List Cm) (k : Nat) (hk : k < doc.length) (l : Int) (h : szB doc[k].t.length l < 0) : szCF (doc.drop k) l = -1 := by
  rw [List.drop_eq_getElem_cons hk]; simp only [szCF]; rw [if_pos h]

end Go.Proofs.YtakkdniikhgpdaaGreatDoor

namespace Go.Proofs.YtakkdniikhgpdaaGreatDoor
open Go.RowKit

theorem szCF_bd : ∀ (cs : List Cm) (l : Int), 0 ≤ l → l ≤ 1048576 → -1 ≤ szCF cs l ∧ szCF cs l ≤ 1048576
  | [], l, h0, h1 => by simp only [szCF]; omega
  | c :: cs, l, h0, h1 => by
    have hb := szB_bd c.t.length l h1
    simp only [szCF]
    split
    · omega
    · exact szCF_bd cs _ (by omega) hb.2
theorem szCs_bd (cs : List Cm) (l : Int) (h0 : 0 ≤ l) (h1 : l ≤ 1048576) : -1 ≤ szCs cs l ∧ szCs cs l ≤ 1048576 := by
  unfold szCs
  split
  · omega
  · exact szCF_bd cs _ (by omega) (by omega)

/-- One step of a size: nothing where nothing was left. -/
def andB (l : Int) (f : Int → Int) : Int := if l < 0 then -1 else f l
theorem andB_go {l : Int} {f : Int → Int} (h : ¬ l < 0) : andB l f = f l := if_neg h
def szNd (p : Nod) (left : Int) : Int := andB (andB (andB (andB (szCs p.lead left) (szB p.key.length)) (szB p.text.length)) (szB p.units.length)) (szCs p.tail)

/-- The cells of a node that was laid for a call. -/
theorem node_cells {w w1 : World} {a b c d e f g h : Value} {t : TypeId} (hg : (w.alloc (.cells #[a, b, c, d, e, f, g, h] t)).grownBy w1 none) :
    w1.cell? ⟨w.heap.size, 0, none⟩ = some a ∧ w1.cell? ⟨w.heap.size, 1, none⟩ = some b ∧ w1.cell? ⟨w.heap.size, 2, none⟩ = some c ∧ w1.cell? ⟨w.heap.size, 3, none⟩ = some d ∧
    w1.cell? ⟨w.heap.size, 4, none⟩ = some e ∧ w1.cell? ⟨w.heap.size, 5, none⟩ = some f ∧ w1.cell? ⟨w.heap.size, 6, none⟩ = some g ∧ w1.cell? ⟨w.heap.size, 7, none⟩ = some h :=
  ⟨hg.cell (by simp [go_sem]) (by simp), hg.cell (by simp [go_sem]) (by simp), hg.cell (by simp [go_sem]) (by simp), hg.cell (by simp [go_sem]) (by simp),
    hg.cell (by simp [go_sem]) (by simp), hg.cell (by simp [go_sem]) (by simp), hg.cell (by simp [go_sem]) (by simp), hg.cell (by simp [go_sem]) (by simp)⟩

end Go.Proofs.YtakkdniikhgpdaaGreatDoor

namespace Go.Proofs.YtakkdniikhgpdaaGreatDoor
open Go.RowKit

theorem szNd_bd (p : Nod) (l : Int) (h0 : 0 ≤ l) (h1 : l ≤ 1048576) : -1 ≤ szNd p l ∧ szNd p l ≤ 1048576 := by
  have b1 := szCs_bd p.lead l h0 h1
  unfold szNd
  generalize szCs p.lead l = l1 at b1
  have b2 : -1 ≤ andB l1 (szB p.key.length) ∧ andB l1 (szB p.key.length) ≤ 1048576 := by
    unfold andB; split
    · omega
    · exact szB_bd _ _ b1.2
  generalize andB l1 (szB p.key.length) = l2 at b2
  have b3 : -1 ≤ andB l2 (szB p.text.length) ∧ andB l2 (szB p.text.length) ≤ 1048576 := by
    unfold andB; split
    · omega
    · exact szB_bd _ _ b2.2
  generalize andB l2 (szB p.text.length) = l3 at b3
  have b4 : -1 ≤ andB l3 (szB p.units.length) ∧ andB l3 (szB p.units.length) ≤ 1048576 := by
    unfold andB; split
    · omega
    · exact szB_bd _ _ b3.2
  generalize andB l3 (szB p.units.length) = l4 at b4
  unfold andB; split
  · omega
  · exact szCs_bd _ _ (by omega) b4.2

def szNF : List Nod → Int → Int
  | [], l => l
  | p :: ps, l => if szNd p l < 0 then -1 else szNF ps (szNd p l)
def szNs (doc : List Nod) (left : Int) : Int := if left - doc.length < 0 then -1 else szNF doc (left - doc.length)

theorem szNF_go (doc : List Nod) (k : Nat) (hk : k < doc.length) (l : Int) (h : ¬ szNd doc[k] l < 0) : szNF (doc.drop k) l = szNF (doc.drop (k + 1)) (szNd doc[k] l) := by
  rw [List.drop_eq_getElem_cons hk]; simp only [szNF]; rw [if_neg h]
theorem szNF_bad (doc : List Nod) (k : Nat) (hk : k < doc.length) (l : Int) (h : szNd doc[k] l < 0) : szNF (doc.drop k) l = -1 := by
  rw [List.drop_eq_getElem_cons hk]; simp only [szNF]; rw [if_pos h]

theorem szNF_bd : ∀ (ns : List Nod) (l : Int), 0 ≤ l → l ≤ 1048576 → -1 ≤ szNF ns l ∧ szNF ns l ≤ 1048576
  | [], l, h0, h1 => by simp only [szNF]; omega
  | p :: ns, l, h0, h1 => by
    have hb := szNd_bd p l h0 h1
    simp only [szNF]
    split
    · omega
    · exact szNF_bd ns _ (by omega) hb.2
theorem szNs_bd (ns : List Nod) (l : Int) (h0 : 0 ≤ l) (h1 : l ≤ 1048576) : -1 ≤ szNs ns l ∧ szNs ns l ≤ 1048576 := by
  unfold szNs
  split
  · omega
  · exact szNF_bd ns _ (by omega) (by omega)

/-- A tree. -/
structure Tre where
  nodes : List Nod
  tail : List Cm
/-- The value v is a tree; all lies below block B. -/
def RdT' (B : Nat) (w : World) (nv tv : Value) (t : Tre) : Prop := RdN B w nv t.nodes ∧ RdC B w tv t.tail
def szTr (t : Tre) (l : Int) : Int := andB (szNs t.nodes l) (szCs t.tail)

end Go.Proofs.YtakkdniikhgpdaaGreatDoor

namespace Go.Proofs.YtakkdniikhgpdaaGreatDoor

theorem loopN_succB {σ : Type} (f : σ → Option σ) : ∀ (k : Nat) (s : σ), loopN f (k + 1) s = (loopN f k s).bind f
  | 0, s => by simp [loopN]
  | k + 1, s => by
    rw [loopN]
    simp only [loopN]
    cases f s with
    | none => rfl
    | some x => exact loopN_succB f k x

theorem mess_itK {d : Nat} {m : Bool} {ind : Int} (ih : ∀ R R2, walkL triv d m (R, ()) = some (R2, ()) → (∀ n ∈ R, n.k < 5 → n.cnt = 0) → ∃ n P, R = n :: (P ++ R2) ∧ mes (valP ind d R).1 + 40 + wC n.lead + 6 * n.key.length ≤ wN n + wNs P) :
    ∀ (k : Nat) (R R2 : List Nod), loopN (walkL triv d m) k (R, ()) = some (R2, ()) → (∀ n ∈ R, n.k < 5 → n.cnt = 0) → ∃ P, R = P ++ R2 ∧ mess (itK (valP ind d) k R) ≤ wNs P
  | 0, R, R2, h, _ => by
    simp only [loopN, Option.some.injEq, Prod.mk.injEq, and_true] at h
    exact ⟨[], by simpa using h, by simp [itK, mess]⟩
  | k + 1, R, R2, h, hn => by
    have h1 := rest_loop (ind := ind) (fun R R2 h h' => val_rest ind d _ R R2 h h') _ R R2 h hn k (by omega)
    obtain ⟨P1, hP1, hm1⟩ := mess_itK ih k R _ h1 hn
    rw [loopN_succB, h1, Option.bind_some] at h
    obtain ⟨n, P2, hP2, hm2⟩ := ih _ R2 h (fun n hn' => hn n (by rw [hP1]; exact List.mem_append_right _ hn'))
    refine ⟨P1 ++ (n :: P2), by rw [List.append_assoc, List.cons_append, ← hP2]; exact hP1, ?_⟩
    simp only [itK, mess_app, wNs_app, wNs]
    have h3 := mess_item (V := valP ind d) n (P2 ++ R2) (wN n + wNs P2) (by rw [← hP2]; exact hm2)
    rw [← hP2] at h3
    split
    · simp only [mess]; omega
    · simp only [mess, textP, leafP, mes, List.length_cons, List.length_nil]; omega

theorem mes_cont (ind : Int) (n : Nod) (items : List (List Pc)) : mes (contP ind n items) ≤ mess items + wC n.tail + 40 := by
  have h1 := mess_aft n.tail
  unfold contP
  split
  · split
    · simp only [textP, mes, List.length_cons, List.length_nil]; omega
    · refine Nat.le_trans (mes_row _) ?_
      have h2 := mes_row (aftP n.tail)
      simp only [mess, textP, leafP, mes, nestP, mes_app, List.length_cons, List.length_nil]; omega
  · rw [mes_app]
    have h3 := mes_row [textP [opnP n.k], nestP ind (innP n.k items n.tail), leafP (edgP n.k), textP [clsP n.k]]
    have h2 := mes_row (innP n.k items n.tail)
    simp only [innP, mess, mess_app, textP, leafP, mes, nestP, mes_app, altP, List.length_cons, List.length_nil] at h2 h3 ⊢
    omega

theorem val_mes (ind : Int) : ∀ (d : Nat) (m : Bool) (R R2 : List Nod), walkL triv d m (R, ()) = some (R2, ()) → (∀ n ∈ R, n.k < 5 → n.cnt = 0) → ∃ n P, R = n :: (P ++ R2) ∧ mes (valP ind d R).1 + 40 + wC n.lead + 6 * n.key.length ≤ wN n + wNs P
  | 0, m, R, R2, h, _ => by simp [walkL] at h
  | d + 1, m, [], R2, h, _ => by simp [walkL] at h
  | d + 1, m, n :: R, R2, h, hn => by
    by_cases hm : n.mem ≠ m
    · simp [walkL, hm] at h
    · by_cases hd : 5 ≤ n.k ∧ d = 0
      · simp [walkL, hm, hd, triv] at h
      · simp only [walkL, if_neg hm, if_neg hd, triv, Option.bind_some] at h
        by_cases h5 : n.k < 5
        · have hc := hn n (by simp) h5
          rw [hc] at h
          simp only [Int.toNat_zero, loopN, Option.some.injEq, Prod.mk.injEq, and_true] at h
          refine ⟨n, [], by rw [h]; rfl, ?_⟩
          simp only [valP, if_pos h5, wNs]
          have := mes_scal n
          omega
        · obtain ⟨P, hP, hm⟩ := mess_itK (ind := ind) (fun R R2 h h' => val_mes ind d _ R R2 h h') _ R R2 h (fun n hn' => hn n (by simp [hn']))
          refine ⟨n, P, by rw [hP], ?_⟩
          simp only [valP, if_neg h5]
          have := mes_cont ind n (itK (valP ind d) n.cnt.toNat R)
          unfold wN
          omega

/-- The whole document. -/
def docP (ind : Int) (t : Tre) : List Pc :=
  match t.nodes with
  | [] => []
  | n :: R => rowP (befP n.lead ++ ((valP ind 201 (n :: R)).1 :: leafP 4 :: befP t.tail))

theorem fu_small : ∀ (us : List Int), (∀ u ∈ us, u < 128) → fu us = us
  | [], _ => rfl
  | [x], h => rfl
  | x :: y :: r, h => by
    have hx := h x (by simp)
    have ih := fu_small (y :: r) (fun u hu => h u (by simp at hu ⊢; right; exact hu))
    rw [fu, if_neg (by simp [isHi]; omega), ih]
theorem nm_chars (us : List Int) (h : nmR us = true) : ∀ u ∈ us, isLet u = true ∨ isDig u = true := by
  intro u hu
  obtain ⟨j, hj, rfl⟩ := List.getElem_of_mem hu
  unfold nmR nmUp at h
  simp only [Bool.and_eq_true, List.all_eq_true, List.mem_range] at h
  have := h.1 j hj
  simp only [hj, List.getElem?_eq_getElem, Option.getD_some, nmAt, Bool.or_eq_true, Bool.and_eq_true] at this
  rcases this with h | h
  · exact .inl h
  · exact .inr h.2
theorem q_char (u : Int) (h : isLet u = true ∨ isDig u = true) : qOne u = [u] ∧ 0 ≤ u ∧ u < 128 := by
  have hb : 36 ≤ u ∧ u < 123 ∧ u ≠ 92 := by
    simp only [isLet, isDig, decide_eq_true_eq] at h
    omega
  refine ⟨?_, by omega, by omega⟩
  have hs : short u = [] := by unfold short; repeat' split
                               all_goals first | omega | rfl
  have hh : byHex u = false := by simp [byHex, okPt]; omega
  unfold qOne
  rw [hs, if_neg (by simp), hh]
  simp only [Bool.false_eq_true, if_false]
  unfold enc
  first | (rw [if_pos (by omega)]) | simp [show u < 128 by omega] | (split <;> first | rfl | omega)
/-- In a name nothing is escaped. -/
theorem qu_name (us : List Int) (h : nmR us = true) : quR us = (34 :: us ++ [34], 0) := by
  have hc := nm_chars us h
  have hf : fu us = us := fu_small us (fun u hu => (q_char u (hc u hu)).2.2)
  have hu : us.all isUn = true := by
    rw [List.all_eq_true]; intro u hu
    have := (q_char u (hc u hu)).2
    simp [isUn]; omega
  have hq : ∀ (l : List Int), (∀ u ∈ l, isLet u = true ∨ isDig u = true) → qAll l = l := by
    intro l
    induction l with
    | nil => intro _; rfl
    | cons x l ih => intro hl; rw [show qAll (x :: l) = qOne x ++ qAll l by simp [qAll], (q_char x (hl x (by simp))).1, ih (fun u hu => hl u (by simp [hu]))]; rfl
  unfold quR fuR
  rw [if_pos hu, hf]
  simp only [if_true, hq us hc]

end Go.Proofs.YtakkdniikhgpdaaGreatDoor

