import Derived.Orders
import Derived.Deep.RegionWith
import Derived.Test.YtalkhnhhaiigiaaGreatDoorMAA
namespace Go.Proofs.YtalkhnhhaiigiaaGreatDoor
open Go.RowKit

/-- A comment. -/
structure Cm where
  b : Bool
  t : List Int

theorem Rd.wideC {q : IntKind} {B B' : Nat} {w : World} {v : Value} {zs : List Int} (h : Rd q B w v zs) (hB : B ≤ B') : Rd q B' w v zs := by
  obtain ⟨a, cap, hv, hr⟩ := h
  refine ⟨a, cap, hv, fun h0 => ?_⟩
  obtain ⟨b, off, ha, hb, hc⟩ := hr h0
  exact ⟨b, off, ha, by omega, hc⟩

/-- One comment lies at block b from cell o on; its Text's value is tv. -/
structure CmAt (B : Nat) (w : World) (b o : Nat) (p : Cm) (tv : Value) : Prop where
  k : w.cell? ⟨b, o, none⟩ = some (.bool p.b)
  t : w.cell? ⟨b, o + 1, none⟩ = some tv
  rd : RdB B w tv p.t
  sl : Sl tv p.t.length

/-- The slice value v reads as the comments cs; all lies below block B. -/
def RdC (B : Nat) (w : World) (v : Value) (cs : List Cm) : Prop :=
  ∃ a cap, v = .slice a cs.length cap ∧ cs.length ≤ cap ∧ cap ≤ maxLen ∧ (cs ≠ [] → ∃ b off, a = some ⟨b, off, none⟩ ∧ b < B ∧ ∀ j p, cs[j]? = some p → ∃ tv, CmAt B w b (off + j * 2) p tv)

theorem CmAt.beside {B : Nat} {w w' : World} {b o : Nat} {p : Cm} {tv : Value} {row : Option Nat} (h : CmAt B w b o p tv) (hb : b < B) (hg : w.grownBy w' row) (hr : ∀ k, row = some k → B ≤ k) : CmAt B w' b o p tv :=
  have hn : some b ≠ row := fun e => by have := hr b e.symm; omega
  ⟨hg.cell h.k hn, hg.cell h.t hn, h.rd.beside hg hr, h.sl⟩
theorem RdC.beside {B : Nat} {w w' : World} {v : Value} {cs : List Cm} {row : Option Nat} (h : RdC B w v cs) (hg : w.grownBy w' row) (hr : ∀ k, row = some k → B ≤ k) : RdC B w' v cs := by
  obtain ⟨a, cap, hv, h1, h2, hh⟩ := h
  refine ⟨a, cap, hv, h1, h2, fun h0 => ?_⟩
  obtain ⟨b, off, ha, hb, hc⟩ := hh h0
  refine ⟨b, off, ha, hb, fun j p hp => ?_⟩
  obtain ⟨tv, ht⟩ := hc j p hp
  exact ⟨tv, ht.beside hb hg hr⟩
theorem RdC.keep {B : Nat} {w w' : World} {v : Value} {cs : List Cm} (h : RdC B w v cs) (hg : w.grownBy w' none) : RdC B w' v cs := h.beside hg (fun _ e => by cases e)
theorem RdC.wide {B B' : Nat} {w : World} {v : Value} {cs : List Cm} (h : RdC B w v cs) (hB : B ≤ B') : RdC B' w v cs := by
  obtain ⟨a, cap, hv, h1, h2, hh⟩ := h
  refine ⟨a, cap, hv, h1, h2, fun h0 => ?_⟩
  obtain ⟨b, off, ha, hb, hc⟩ := hh h0
  refine ⟨b, off, ha, by omega, fun j p hp => ?_⟩
  obtain ⟨tv, ht⟩ := hc j p hp
  exact ⟨tv, ⟨ht.k, ht.t, ht.rd.wideC hB, ht.sl⟩⟩
theorem RdC.at {B : Nat} {w : World} {v : Value} {cs : List Cm} (h : RdC B w v cs) (j : Nat) (hj : j < cs.length) :
    ∃ b off cap tv, v = .slice (some ⟨b, off, none⟩) cs.length cap ∧ b < B ∧ CmAt B w b (off + j * 2) cs[j] tv := by
  obtain ⟨a, cap, hv, h1, h2, hh⟩ := h
  obtain ⟨b, off, ha, hb, hc⟩ := hh (fun e => by rw [e] at hj; simp at hj)
  obtain ⟨tv, ht⟩ := hc j cs[j] (by simp [hj])
  exact ⟨b, off, cap, tv, by rw [hv, ha], hb, ht⟩
theorem RdC.sl {B : Nat} {w : World} {v : Value} {cs : List Cm} (h : RdC B w v cs) : Sl v cs.length := by
  obtain ⟨a, cap, hv, h1, h2, _⟩ := h
  exact ⟨a, cap, hv, h1, h2⟩

/-- A node. -/
structure Nod where
  k : Int
  lead : List Cm
  mem : Bool
  key : List Int
  text : List Int
  units : List Int
  cnt : Int
  tail : List Cm

/-- One node lies at block b from cell o on; lv, kv, xv, uv, tv are its lists' values. -/
structure NodAt (B : Nat) (w : World) (b o : Nat) (p : Nod) (lv kv xv uv tv : Value) : Prop where
  k : w.cell? ⟨b, o, none⟩ = some (.int .i64 p.k)
  lead : w.cell? ⟨b, o + 1, none⟩ = some lv
  mem : w.cell? ⟨b, o + 2, none⟩ = some (.bool p.mem)
  key : w.cell? ⟨b, o + 3, none⟩ = some kv
  text : w.cell? ⟨b, o + 4, none⟩ = some xv
  units : w.cell? ⟨b, o + 5, none⟩ = some uv
  cnt : w.cell? ⟨b, o + 6, none⟩ = some (.int .i64 p.cnt)
  tail : w.cell? ⟨b, o + 7, none⟩ = some tv
  rl : RdC B w lv p.lead
  rk : RdI B w kv p.key
  sk : Sl kv p.key.length
  rx : RdB B w xv p.text
  sx : Sl xv p.text.length
  ru : RdI B w uv p.units
  su : Sl uv p.units.length
  rt : RdC B w tv p.tail

/-- The slice value v reads as the nodes ns; all lies below block B. -/
def RdN (B : Nat) (w : World) (v : Value) (ns : List Nod) : Prop :=
  ∃ a cap, v = .slice a ns.length cap ∧ ns.length ≤ cap ∧ cap ≤ maxLen ∧ (ns ≠ [] → ∃ b off, a = some ⟨b, off, none⟩ ∧ b < B ∧ ∀ j p, ns[j]? = some p → ∃ lv kv xv uv tv, NodAt B w b (off + j * 8) p lv kv xv uv tv)
theorem NodAt.beside {B : Nat} {w w' : World} {b o : Nat} {p : Nod} {lv kv xv uv tv : Value} {row : Option Nat} (h : NodAt B w b o p lv kv xv uv tv) (hb : b < B) (hg : w.grownBy w' row) (hr : ∀ k, row = some k → B ≤ k) : NodAt B w' b o p lv kv xv uv tv :=
  have hn : some b ≠ row := fun e => by have := hr b e.symm; omega
  ⟨hg.cell h.k hn, hg.cell h.lead hn, hg.cell h.mem hn, hg.cell h.key hn, hg.cell h.text hn, hg.cell h.units hn, hg.cell h.cnt hn, hg.cell h.tail hn,
    h.rl.beside hg hr, h.rk.beside hg hr, h.sk, h.rx.beside hg hr, h.sx, h.ru.beside hg hr, h.su, h.rt.beside hg hr⟩
theorem RdN.beside {B : Nat} {w w' : World} {v : Value} {ns : List Nod} {row : Option Nat} (h : RdN B w v ns) (hg : w.grownBy w' row) (hr : ∀ k, row = some k → B ≤ k) : RdN B w' v ns := by
  obtain ⟨a, cap, hv, h1, h2, hh⟩ := h
  refine ⟨a, cap, hv, h1, h2, fun h0 => ?_⟩
  obtain ⟨b, off, ha, hb, hc⟩ := hh h0
  refine ⟨b, off, ha, hb, fun j p hp => ?_⟩
  obtain ⟨lv, kv, xv, uv, tv, ht⟩ := hc j p hp
  exact ⟨lv, kv, xv, uv, tv, ht.beside hb hg hr⟩
theorem RdN.keep {B : Nat} {w w' : World} {v : Value} {ns : List Nod} (h : RdN B w v ns) (hg : w.grownBy w' none) : RdN B w' v ns := h.beside hg (fun _ e => by cases e)
theorem RdN.wide {B B' : Nat} {w : World} {v : Value} {ns : List Nod} (h : RdN B w v ns) (hB : B ≤ B') : RdN B' w v ns := by
  obtain ⟨a, cap, hv, h1, h2, hh⟩ := h
  refine ⟨a, cap, hv, h1, h2, fun h0 => ?_⟩
  obtain ⟨b, off, ha, hb, hc⟩ := hh h0
  refine ⟨b, off, ha, by omega, fun j p hp => ?_⟩
  obtain ⟨lv, kv, xv, uv, tv, t⟩ := hc j p hp
  exact ⟨lv, kv, xv, uv, tv, t.k, t.lead, t.mem, t.key, t.text, t.units, t.cnt, t.tail, t.rl.wide hB, t.rk.wideC hB, t.sk, t.rx.wideC hB, t.sx, t.ru.wideC hB, t.su, t.rt.wide hB⟩
theorem RdN.at {B : Nat} {w : World} {v : Value} {ns : List Nod} (h : RdN B w v ns) (j : Nat) (hj : j < ns.length) :
    ∃ b off cap lv kv xv uv tv, v = .slice (some ⟨b, off, none⟩) ns.length cap ∧ b < B ∧ NodAt B w b (off + j * 8) ns[j] lv kv xv uv tv := by
  obtain ⟨a, cap, hv, h1, h2, hh⟩ := h
  obtain ⟨b, off, ha, hb, hc⟩ := hh (fun e => by rw [e] at hj; simp at hj)
  obtain ⟨lv, kv, xv, uv, tv, ht⟩ := hc j ns[j] (by simp [hj])
  exact ⟨b, off, cap, lv, kv, xv, uv, tv, by rw [hv, ha], hb, ht⟩

end Go.Proofs.YtalkhnhhaiigiaaGreatDoor

namespace Go.Proofs.YtalkhnhhaiigiaaGreatDoor
open Go.RowKit

/-! Trees as plain lists of nodes: a walk that takes a value's nodes off the list. -/

def loopN {σ : Type} (f : σ → Option σ) : Nat → σ → Option σ
  | 0, s => some s
  | k + 1, s => (f s).bind (loopN f k)

/-- A value taken off, each node asked in its order; d - 1 lists may stand inside each other. -/
def walkL {σ : Type} (chk : Nod → σ → Option σ) : Nat → Bool → List Nod × σ → Option (List Nod × σ)
  | 0, _, _ => none
  | _ + 1, _, ([], _) => none
  | d + 1, m, (n :: R, s) => if n.mem ≠ m then none else (chk n s).bind fun s' => if 5 ≤ n.k ∧ d = 0 then none else loopN (walkL chk d (decide (n.k = 6))) n.cnt.toNat (R, s')

def foldC {σ : Type} (chk : Nod → σ → Option σ) : List Nod → σ → Option σ
  | [], s => some s
  | n :: P, s => (chk n s).bind (foldC chk P)
theorem foldC_append {σ : Type} (chk : Nod → σ → Option σ) : ∀ (P Q : List Nod) (s : σ), foldC chk (P ++ Q) s = (foldC chk P s).bind (foldC chk Q)
  | [], Q, s => rfl
  | n :: P, Q, s => by
    simp only [List.cons_append, foldC]
    cases chk n s with
    | none => rfl
    | some s' => exact foldC_append chk P Q s'

/-- The walk that asks nothing. -/
def triv (_ : Nod) (u : Unit) : Option Unit := some u

def Splits {σ : Type} (chk : Nod → σ → Option σ) (f : List Nod × σ → Option (List Nod × σ)) (g : List Nod × Unit → Option (List Nod × Unit)) : Prop :=
  ∀ (R : List Nod) (s : σ) (R2 : List Nod) (s2 : σ), f (R, s) = some (R2, s2) ↔ ∃ P, R = P ++ R2 ∧ g (R, ()) = some (R2, ()) ∧ foldC chk P s = some s2
/-- What is left is an end of what was there. -/
def Ends (g : List Nod × Unit → Option (List Nod × Unit)) : Prop := ∀ R R2, g (R, ()) = some (R2, ()) → ∃ P, R = P ++ R2

theorem loop_splits {σ : Type} {chk : Nod → σ → Option σ} {f : List Nod × σ → Option (List Nod × σ)} {g : List Nod × Unit → Option (List Nod × Unit)} (h : Splits chk f g) (he : Ends g) : ∀ k, Splits chk (loopN f k) (loopN g k) ∧ Ends (loopN g k)
  | 0 => by
    refine ⟨fun R s R2 s2 => ⟨fun h => ?_, fun ⟨P, h1, h2, h3⟩ => ?_⟩, fun R R2 h => ?_⟩
    · simp only [loopN, Option.some.injEq, Prod.mk.injEq] at h
      obtain ⟨rfl, rfl⟩ := h
      exact ⟨[], rfl, rfl, rfl⟩
    · simp only [loopN, Option.some.injEq, Prod.mk.injEq, and_true] at h2
      subst h2
      have hP : P = [] := by simpa using h1
      subst hP
      simp only [foldC, Option.some.injEq] at h3
      subst h3
      rfl
    · simp only [loopN, Option.some.injEq, Prod.mk.injEq, and_true] at h
      exact ⟨[], by simpa using h⟩
  | k + 1 => by
    obtain ⟨ih, ihe⟩ := loop_splits h he k
    refine ⟨fun R s R2 s2 => ⟨fun hh => ?_, fun ⟨P, h1, h2, h3⟩ => ?_⟩, fun R R2 hh => ?_⟩
    · simp only [loopN, Option.bind_eq_some_iff] at hh
      obtain ⟨⟨R1, s1⟩, e1, e2⟩ := hh
      obtain ⟨P1, r1, g1, f1⟩ := (h R s R1 s1).1 e1
      obtain ⟨P2, r2, g2, f2⟩ := (ih R1 s1 R2 s2).1 e2
      refine ⟨P1 ++ P2, by rw [r1, r2, List.append_assoc], ?_, ?_⟩
      · simp only [loopN, g1, Option.bind_some]; exact g2
      · rw [foldC_append, f1]; exact f2
    · simp only [loopN, Option.bind_eq_some_iff] at h2
      obtain ⟨⟨R1, ⟨⟩⟩, g1, g2⟩ := h2
      obtain ⟨P1, r1⟩ := he R R1 g1
      obtain ⟨P2, r2⟩ := ihe R1 R2 g2
      have hP : P = P1 ++ P2 := by
        have : P ++ R2 = (P1 ++ P2) ++ R2 := by rw [← h1, r1, r2, List.append_assoc]
        exact List.append_cancel_right this
      rw [hP, foldC_append, Option.bind_eq_some_iff] at h3
      obtain ⟨s1, f1, f2⟩ := h3
      have e1 := (h R s R1 s1).2 ⟨P1, r1, g1, f1⟩
      have e2 := (ih R1 s1 R2 s2).2 ⟨P2, r2, g2, f2⟩
      simp only [loopN, e1, Option.bind_some]; exact e2
    · simp only [loopN, Option.bind_eq_some_iff] at hh
      obtain ⟨⟨R1, ⟨⟩⟩, g1, g2⟩ := hh
      obtain ⟨P1, r1⟩ := he R R1 g1
      obtain ⟨P2, r2⟩ := ihe R1 R2 g2
      exact ⟨P1 ++ P2, by rw [r1, r2, List.append_assoc]⟩

theorem walk_splits {σ : Type} (chk : Nod → σ → Option σ) : ∀ (d : Nat) (m : Bool), Splits chk (walkL chk d m) (walkL triv d m) ∧ Ends (walkL triv d m)
  | 0, m => ⟨fun R s R2 s2 => by simp [walkL], fun R R2 h => by simp [walkL] at h⟩
  | d + 1, m => by
    have hl := fun m' k => loop_splits (walk_splits chk d m').1 (walk_splits chk d m').2 k
    refine ⟨fun R s R2 s2 => ?_, fun R R2 hh => ?_⟩
    · cases R with
      | nil => simp [walkL]
      | cons n R =>
        by_cases hm : n.mem ≠ m
        · simp [walkL, hm]
        · by_cases hd : 5 ≤ n.k ∧ d = 0
          · simp [walkL, hm, hd, triv]
          · have e1 : walkL chk (d + 1) m (n :: R, s) = (chk n s).bind fun s' => loopN (walkL chk d (decide (n.k = 6))) n.cnt.toNat (R, s') := by simp only [walkL, if_neg hm, if_neg hd]
            have e2 : walkL triv (d + 1) m (n :: R, ()) = loopN (walkL triv d (decide (n.k = 6))) n.cnt.toNat (R, ()) := by simp only [walkL, if_neg hm, if_neg hd, triv, Option.bind_some]
            rw [e1, e2]
            constructor
            · intro hh
              rw [Option.bind_eq_some_iff] at hh
              obtain ⟨s', c1, c2⟩ := hh
              obtain ⟨P, r, g, f⟩ := ((hl _ _).1 R s' R2 s2).1 c2
              exact ⟨n :: P, by rw [r]; rfl, g, by simp only [foldC, c1, Option.bind_some]; exact f⟩
            · rintro ⟨P, r, g, f⟩
              obtain ⟨P', r'⟩ := (hl _ _).2 R R2 g
              have hP : P = n :: P' := by
                have : P ++ R2 = (n :: P') ++ R2 := by rw [← r, r']; rfl
                exact List.append_cancel_right this
              rw [hP] at f
              simp only [foldC, Option.bind_eq_some_iff] at f
              obtain ⟨s', c1, c2⟩ := f
              rw [Option.bind_eq_some_iff]
              exact ⟨s', c1, ((hl _ _).1 R s' R2 s2).2 ⟨P', r', g, c2⟩⟩
    · cases R with
      | nil => simp [walkL] at hh
      | cons n R =>
        by_cases hm : n.mem ≠ m
        · simp [walkL, hm] at hh
        · by_cases hd : 5 ≤ n.k ∧ d = 0
          · simp [walkL, hm, hd, triv] at hh
          · simp only [walkL, if_neg hm, if_neg hd, triv, Option.bind_some] at hh
            obtain ⟨P', r'⟩ := (hl _ _).2 R R2 hh
            exact ⟨n :: P', by rw [r']; rfl⟩

/-- A whole tree: all nodes are taken. -/
theorem walk_all {σ : Type} (chk : Nod → σ → Option σ) (d : Nat) (m : Bool) (R : List Nod) (s s2 : σ) : walkL chk d m (R, s) = some ([], s2) ↔ walkL triv d m (R, ()) = some ([], ()) ∧ foldC chk R s = some s2 := by
  rw [(walk_splits chk d m).1 R s [] s2]
  constructor
  · rintro ⟨P, r, g, f⟩
    have : R = P := by simpa using r
    subst this
    exact ⟨g, f⟩
  · rintro ⟨g, f⟩
    exact ⟨R, by simp, g, f⟩

/-- A value takes one node at least. -/
theorem walk_less (d : Nat) (m : Bool) (R R2 : List Nod) (h : walkL triv d m (R, ()) = some (R2, ())) : R2.length < R.length := by
  cases d with
  | zero => simp [walkL] at h
  | succ d =>
    cases R with
    | nil => simp [walkL] at h
    | cons n R =>
      by_cases hm : n.mem ≠ m
      · simp [walkL, hm] at h
      · by_cases hd : 5 ≤ n.k ∧ d = 0
        · simp [walkL, hm, hd, triv] at h
        · simp only [walkL, if_neg hm, if_neg hd, triv, Option.bind_some] at h
          obtain ⟨P, r⟩ := (loop_splits (walk_splits triv d _).1 (walk_splits triv d _).2 _).2 R R2 h
          rw [r]; simp; omega
/-- So that more items than nodes are too many. -/
theorem loop_long (d : Nat) (m : Bool) : ∀ (k : Nat) (R : List Nod), R.length < k → loopN (walkL triv d m) k (R, ()) = none
  | 0, R, h => by omega
  | k + 1, R, h => by
    simp only [loopN]
    cases hw : walkL triv d m (R, ()) with
    | none => rfl
    | some x =>
      obtain ⟨R1, ⟨⟩⟩ := x
      have := walk_less d m R R1 hw
      exact loop_long d m k R1 (by omega)

/-- The model's walk: it refuses a node with more items than the tree has nodes. -/
def endL (len : Nat) : Nat → Bool → List Nod → Option (List Nod)
  | 0, _, _ => none
  | _ + 1, _, [] => none
  | d + 1, m, n :: R => if n.mem ≠ m then none else if (len : Int) < n.cnt ∨ (5 ≤ n.k ∧ d = 0) then none else loopN (endL len d (decide (n.k = 6))) n.cnt.toNat R
theorem loop_same (f : List Nod → Option (List Nod)) (g : List Nod × Unit → Option (List Nod × Unit)) (len : Nat) (h : ∀ R, R.length ≤ len → (f R).map (fun x => (x, ())) = g (R, ())) (he : Ends g) : ∀ (k : Nat) (R : List Nod), R.length ≤ len → (loopN f k R).map (fun x => (x, ())) = loopN g k (R, ())
  | 0, R, _ => rfl
  | k + 1, R, hl => by
    simp only [loopN]
    have h1 := h R hl
    cases hf : f R with
    | none => rw [hf] at h1; simp only [Option.map_none] at h1; rw [← h1]; rfl
    | some R1 =>
      rw [hf] at h1
      simp only [Option.map_some] at h1
      rw [← h1]
      obtain ⟨P, r⟩ := he R R1 h1.symm
      exact loop_same f g len h he k R1 (by rw [r] at hl; simp at hl; omega)
theorem end_walk (len : Nat) : ∀ (d : Nat) (m : Bool) (R : List Nod), R.length ≤ len → (endL len d m R).map (fun x => (x, ())) = walkL triv d m (R, ())
  | 0, _, _, _ => rfl
  | _ + 1, _, [], _ => rfl
  | d + 1, m, n :: R, hl => by
    by_cases hm : n.mem ≠ m
    · simp [endL, walkL, hm]
    · by_cases hd : 5 ≤ n.k ∧ d = 0
      · simp [endL, walkL, hm, hd, triv]
      · have e2 : walkL triv (d + 1) m (n :: R, ()) = loopN (walkL triv d (decide (n.k = 6))) n.cnt.toNat (R, ()) := by simp only [walkL, if_neg hm, if_neg hd, triv, Option.bind_some]
        rw [e2]
        by_cases hc : (len : Int) < n.cnt
        · rw [loop_long d _ _ R (by simp at hl; omega)]
          simp [endL, hm, hc]
        · have e1 : endL len (d + 1) m (n :: R) = loopN (endL len d (decide (n.k = 6))) n.cnt.toNat R := by simp only [endL, if_neg hm]; rw [if_neg (by omega)]
          rw [e1]
          exact loop_same _ _ len (fun R' h' => end_walk len d _ R' h') (walk_splits triv d _).2 _ R (by simp at hl; omega)

end Go.Proofs.YtalkhnhhaiigiaaGreatDoor

namespace Go.Proofs.YtalkhnhhaiigiaaGreatDoor
open Go.RowKit

def pairOf (u x : Int) : Int := 65536 + (u - 55296) * 1024 + (x - 56320)
/-- The points of units. -/
def fu : List Int → List Int
  | [] => []
  | [u] => [u]
  | u :: x :: r => if isHi u && isLo x then pairOf u x :: fu r else u :: fu (x :: r)
def fuR (zs : List Int) : List Int × Int := if zs.all isUn then (fu zs, 0) else ([], 1)

theorem drop_cons (zs : List Int) (k : Nat) (hk : k < zs.length) : zs.drop k = zs[k]?.getD 0 :: zs.drop (k + 1) := by
  rw [List.drop_eq_getElem_cons hk]; simp [hk]

theorem fu_one (zs : List Int) (k : Nat) (hk : k < zs.length) (h : ¬ (isHi (zs[k]?.getD 0) = true ∧ k + 1 < zs.length ∧ isLo (zs[k + 1]?.getD 0) = true)) :
    fu (zs.drop k) = zs[k]?.getD 0 :: fu (zs.drop (k + 1)) := by
  rw [drop_cons zs k hk]
  by_cases h1 : k + 1 < zs.length
  · rw [drop_cons zs (k + 1) h1, fu, if_neg]
    simp only [Bool.and_eq_true]
    exact fun hh => h ⟨hh.1, h1, hh.2⟩
  · rw [List.drop_eq_nil_of_le (by omega)]
    rfl
theorem fu_two (zs : List Int) (k : Nat) (h1 : k + 1 < zs.length) (h : isHi (zs[k]?.getD 0) = true) (h2 : isLo (zs[k + 1]?.getD 0) = true) :
    fu (zs.drop k) = pairOf (zs[k]?.getD 0) (zs[k + 1]?.getD 0) :: fu (zs.drop (k + 2)) := by
  rw [drop_cons zs k (by omega), drop_cons zs (k + 1) h1, fu, if_pos (by simp [h, h2])]
theorem fu_len : ∀ (n : Nat) (zs : List Int), zs.length ≤ n → (fu zs).length ≤ zs.length
  | 0, zs, h => by
    have : zs = [] := List.eq_nil_of_length_eq_zero (by omega)
    subst this; simp [fu]
  | n + 1, [], _ => by simp [fu]
  | n + 1, [u], _ => by simp [fu]
  | n + 1, u :: x :: r, h => by
    simp only [List.length_cons] at h
    rw [fu]
    split
    · have := fu_len n r (by omega)
      simp only [List.length_cons]; omega
    · have := fu_len n (x :: r) (by simp only [List.length_cons]; omega)
      simp only [List.length_cons] at this ⊢; omega
theorem fuR_len (zs : List Int) : (fuR zs).1.length ≤ zs.length := by
  unfold fuR; split
  · exact fu_len _ zs (Nat.le_refl _)
  · simp
theorem fuR_bad (zs : List Int) (h : zs.all isUn = false) : fuR zs = ([], 1) := by simp [fuR, h]
theorem fuR_ok (zs : List Int) (h : zs.all isUn = true) : fuR zs = (fu zs, 0) := by simp [fuR, h]
theorem lo_un {p : Int} (h : isLo p = true) : isUn p = true := by
  simp [isLo, isUn] at h ⊢; omega
theorem hi_un {p : Int} (h : isHi p = true) : isUn p = true := by
  simp [isHi, isUn] at h ⊢; omega

/-- What lies between the rounds: acc is told, the rest is to come. -/
theorem fu_step1 {zs acc : List Int} {k : Nat} {p : Int} (hx : acc ++ fu (zs.drop k) = fu zs) (h : fu (zs.drop k) = p :: fu (zs.drop (k + 1))) : acc ++ [p] ++ fu (zs.drop (k + 1)) = fu zs := by
  rw [← hx, h]; simp
theorem fu_step2 {zs acc : List Int} {k : Nat} {p : Int} (hx : acc ++ fu (zs.drop k) = fu zs) (h : fu (zs.drop k) = p :: fu (zs.drop (k + 2))) : acc ++ [p] ++ fu (zs.drop (k + 2)) = fu zs := by
  rw [← hx, h]; simp
theorem fu_end {zs acc : List Int} {k : Nat} (hk : zs.length ≤ k) (hx : acc ++ fu (zs.drop k) = fu zs) : acc = fu zs := by
  rw [List.drop_eq_nil_of_le hk] at hx; simpa [fu] using hx

end Go.Proofs.YtalkhnhhaiigiaaGreatDoor

namespace Go.Proofs.YtalkhnhhaiigiaaGreatDoor

/-! A region that draws its order, in which the world turns: what only reads, and reads the same as long as I holds, may be taken first. -/

section
variable {P : Program} {ops : Array Oper} {Q : Exit → Act → World → Prop} {md : Region.Mode} {I : World → Prop} {ex : Nat → Bool}

/-- Every order from here on; behind each operation (but those of ex) I holds. -/
def anyI (P : Program) (md : Region.Mode) (ops : Array Oper) (Q : Exit → Act → World → Prop) (I : World → Prop) (ex : Nat → Bool) : Nat → Array Bool → Act → World → Prop
  | 0, listed, a, w => Region.ready md ops listed = [] ∧ Q .normal a w
  | fuel + 1, listed, a, w => (Region.ready md ops listed = [] → Q .normal a w) ∧
      ∀ i ∈ Region.ready md ops listed, wpOp P ops Q i (fun a' w' => (ex i = true ∨ I w') ∧ anyI P md ops Q I ex fuel (listed.setIfInBounds i true) a' w') a w

theorem any_of_anyI : ∀ (fuel : Nat) (listed : Array Bool) (a : Act) (w : World), anyI P md ops Q I ex fuel listed a w → wpAny P md ops Q fuel listed a w
  | 0, _, _, _, h => h
  | fuel + 1, _, _, _, h => ⟨h.1, fun i hi => wpOp_mono (fun a' w' h2 => any_of_anyI fuel _ a' w' h2.2) (h.2 i hi)⟩

theorem region_anyI (I : World → Prop) (ex : Nat → Bool) {id : Nat} {a : Act} {w : World} (hm : P.follows .mixedOrders = true) (h : anyI P .any ops Q I ex ops.size (Array.replicate ops.size false) a w.drew) : (Code.region id ops true).wp P Q a w :=
  wp_region_any hm (any_of_anyI _ _ _ _ h)

/-- What an operation does to the frame. -/
theorem wpOp_frame {j : Nat} {oj : Oper} {K : Act → World → Prop} {a : Act} {w : World} (hj : ops[j]? = some oj) (hh : wpOp P ops Q j K a w) :
    wpOp P ops Q j (fun a' w' => K a' w' ∧ ∃ ds u, a' = ({ a with defers := ds } : Act).put oj.dst u) a w := by
  unfold wpOp at *
  simp only [hj] at *
  split
  · rename_i hw
    simp only [hw, if_true] at hh
    rcases hh with hh | hh
    case inr => exact .inr hh
    refine .inl ?_
    unfold Oper.wp at *
    generalize (execOp a.eval oj).run P w = r at *
    cases r with
    | halt x w' => cases x <;> simp only [Oper.upon] at hh ⊢ <;> exact hh
    | ok n w' =>
      cases n <;> simp only [Oper.upon] at hh ⊢
      case value u => exact ⟨hh, a.defers, u, rfl⟩
      case skip => exact ⟨hh, a.defers, undef, rfl⟩
      case defer d => exact ⟨hh, d :: a.defers, undef, rfl⟩
      case enter f args =>
        refine Calls.mono hh fun e w'' he => ?_
        cases e with
        | returned u => exact ⟨he, a.defers, u, rfl⟩
        | panicked c => exact he
        | outgrown => exact he
      case row row args => exact Rows.mono hh fun u w'' he => ⟨he, a.defers, u, rfl⟩
  · rename_i hw
    simp only [hw] at hh
    exact ⟨hh, a.defers, undef, rfl⟩

/-- The operation yields v in every world in which I holds. -/
def YldI (P : Program) (ops : Array Oper) (I : World → Prop) (o : Oper) (v : Value) (a : Act) : Prop :=
  Region.wanted o (yielded ops a.tmps) = true ∧ ∀ w, I w → (execOp a.eval o).run P w = .ok (.value v) w

/-- What may break I is bound behind i. -/
def exOK (md : Region.Mode) (ops : Array Oper) (ex : Nat → Bool) (i : Nat) : Bool :=
  (List.range ops.size).all fun j => !ex j || match ops[j]? with
    | some o => o.after.any fun e => Region.binds md e && e.on == i
    | none => true
theorem exOK_spec {i j : Nat} {oj : Oper} (h : exOK md ops ex i = true) (hj : ops[j]? = some oj) (hno : ∀ e ∈ oj.after, Region.binds md e = true → e.on ≠ i) : ex j = false := by
  simp only [exOK, List.all_eq_true, List.mem_range] at h
  have h1 := h j (Array.getElem?_eq_some_iff.1 hj).1
  simp only [hj, Bool.or_eq_true, Bool.not_eq_true'] at h1
  rcases h1 with h1 | h1
  · exact h1
  · obtain ⟨e, he, hb⟩ := Array.any_eq_true'.1 h1
    simp only [Bool.and_eq_true, beq_iff_eq] at hb
    exact absurd hb.2 (hno e he hb.1)

/-- A plain operation with the same place for its value. -/
def plainOf (o : Oper) (v : Value) : Oper := { dst := o.dst, op := .move (.const v), type := o.type, pos := o.pos, after := #[], guard := none }
theorem plainOf_yields (o : Oper) (v : Value) (a : Act) : Yields P ops (plainOf o v) v a := .inl ⟨rfl, fun _ => rfl⟩
theorem plainOf_apart {o oj : Oper} {v : Value} (h : o.apart ops oj = true) : (plainOf o v).apart ops oj = true := by
  have hl : (plainOf o v).looksAt ops = [] := by simp [Oper.looksAt, plainOf, Op.operands]
  unfold Oper.apart at *
  rw [Bool.and_eq_true] at h
  rw [hl, Bool.and_eq_true]
  refine ⟨h.1, ?_⟩
  cases oj.dst <;> simp

theorem anyI_first {i : Nat} {oi : Oper} {v : Value} (hi : ops[i]? = some oi) (hsel : Region.noSelect ops = true) (hex : exOK md ops ex i = true)
    (hQ : ∀ c a w, Q (.panic c) (a.put oi.dst v) w → Q (.panic c) a w) :
    ∀ (fuel : Nat) (listed : Array Bool) (a : Act) (w : World),
      (∀ j oj, ops[j]? = some oj → j ≠ i → listed.getD j true = false → (∀ e ∈ oj.after, Region.binds md e = true → e.on ≠ i) → oi.apart ops oj = true) →
      i ∈ Region.ready md ops listed → YldI P ops I oi v a → I w →
      anyI P md ops Q I ex fuel (listed.setIfInBounds i true) (a.put oi.dst v) w → anyI P md ops Q I ex (fuel + 1) listed a w := by
  have take : ∀ (fuel : Nat) (listed : Array Bool) (a : Act) (w : World), YldI P ops I oi v a → I w → anyI P md ops Q I ex fuel (listed.setIfInBounds i true) (a.put oi.dst v) w →
      wpOp P ops Q i (fun a' w' => (ex i = true ∨ I w') ∧ anyI P md ops Q I ex fuel (listed.setIfInBounds i true) a' w') a w := by
    intro fuel listed a w hy hw H
    unfold wpOp
    simp only [hi, hy.1, if_true]
    refine .inl ?_
    unfold Oper.wp
    rw [hy.2 w hw]
    exact ⟨.inr hw, H⟩
  intro fuel
  induction fuel with
  | zero =>
    intro listed a w _ hr hy hw H
    refine ⟨fun h => (by rw [h] at hr; cases hr), fun j hj => ?_⟩
    by_cases hji : j = i
    · subst hji; exact take 0 listed a w hy hw H
    · have := ready_mono hj hji
      rw [H.1] at this
      cases this
  | succ fuel ih =>
    intro listed a w hfree hr hy hw H
    refine ⟨fun h => (by rw [h] at hr; cases hr), fun j hj => ?_⟩
    by_cases hji : j = i
    · subst hji; exact take _ listed a w hy hw H
    · have h1 := H.2 j (ready_mono hj hji)
      obtain ⟨hjun, oj, hoj, hall⟩ := mem_ready.1 hj
      have hnot : ∀ e ∈ oj.after, Region.binds md e = true → e.on ≠ i := fun e he hb heq => by
        have h2 := hall e he hb
        have h0 := (mem_ready.1 hr).1
        rw [heq] at h2
        rcases Nat.lt_or_ge i listed.size with h' | h'
        · simp [h'] at h0 h2; rw [h0] at h2; cases h2
        · simp [Array.getElem?_eq_none h'] at h2
      have hap := hfree j oj hoj hji hjun hnot
      have hexj := exOK_spec hex hoj hnot
      have h2 := wpOp_frame hoj (wpOp_put hoj (plainOf_apart (v := v) hap) (fun cs b => by simp [plainOf]) (fun cs b => Region.noSelect_spec hsel j oj cs b hoj) hQ (plainOf_yields oi v a) h1)
      obtain ⟨_, _, h3⟩ := Oper.apart_spec hap
      refine wpOp_mono (fun a' w' h4 => ?_) h2
      obtain ⟨⟨_, hI, hrest⟩, ds, u, rfl⟩ := h4
      have hIw : I w' := hI.resolve_left (by rw [hexj]; simp)
      refine ⟨.inr hIw, ih (listed.setIfInBounds j true) _ w' ?_ (ready_mono hr (Ne.symm hji)) ?_ hIw ?_⟩
      · intro k ok hk hki hun hno
        refine hfree k ok hk hki ?_ hno
        by_cases hjk : j = k
        · subst hjk; exact hjun
        · rw [getD_set_ne true hjk] at hun; exact hun
      · refine ⟨?_, ?_⟩
        · rw [wanted_put oi _ oj.dst u h3]; exact hy.1
        · rw [execOp_put oi (fun cs b => Region.noSelect_spec hsel i oi cs b hi) _ oj.dst u h3]; exact hy.2
      · rw [Array.setIfInBounds_comm _ _ hji]
        exact hrest

theorem anyI_take {i : Nat} {oi : Oper} (v : Value) {fuel : Nat} {listed : Array Bool} {a : Act} {w : World} (hi : ops[i]? = some oi) (hs : Region.noSelect ops = true) (hf : Region.free md ops listed i = true)
    (hr : (Region.ready md ops listed).contains i = true) (hex : exOK md ops ex i = true) (hQ : ∀ c a w, Q (.panic c) (a.put oi.dst v) w → Q (.panic c) a w) (hw : I w) (hy : YldI P ops I oi v a)
    (h : anyI P md ops Q I ex fuel (listed.setIfInBounds i true) (a.put oi.dst v) w) : anyI P md ops Q I ex (fuel + 1) listed a w :=
  anyI_first hi hs hex hQ fuel listed a w (Region.free_spec hi hf) (by simpa using hr) hy hw h

theorem anyI_one {i : Nat} {fuel : Nat} {listed : Array Bool} {a : Act} {w : World} (hr : Region.ready md ops listed = [i])
    (h : wpOp P ops Q i (fun a' w' => (ex i = true ∨ I w') ∧ anyI P md ops Q I ex fuel (listed.setIfInBounds i true) a' w') a w) : anyI P md ops Q I ex (fuel + 1) listed a w :=
  ⟨fun h0 => (by rw [hr] at h0; cases h0), fun j hj => by rw [hr] at hj; simp at hj; subst hj; exact h⟩

theorem anyI_done {listed : Array Bool} {a : Act} {w : World} (hr : Region.ready md ops listed = []) (h : Q .normal a w) : ∀ fuel, anyI P md ops Q I ex fuel listed a w
  | 0 => ⟨hr, h⟩
  | _ + 1 => ⟨fun _ => h, by rw [hr]; simp⟩

theorem wpOp_val {i : Nat} {o : Oper} {K : Act → World → Prop} {a : Act} {w w' : World} {v : Value} (hi : ops[i]? = some o) (hg : o.guard = none) (hrun : (execOp a.eval o).run P w = .ok (.value v) w') (h : K (a.put o.dst v) w') : wpOp P ops Q i K a w := by
  unfold wpOp
  have hw : Region.wanted o (yielded ops a.tmps) = true := by simp [Region.wanted, hg]
  simp only [hi, hw, if_true]
  refine .inl ?_
  unfold Oper.wp
  rw [hrun]; exact h
theorem wpOp_skip {i : Nat} {o : Oper} {K : Act → World → Prop} {a : Act} {w w' : World} (hi : ops[i]? = some o) (hg : o.guard = none) (hrun : (execOp a.eval o).run P w = .ok .skip w') (h : K (a.put o.dst undef) w') : wpOp P ops Q i K a w := by
  unfold wpOp
  have hw : Region.wanted o (yielded ops a.tmps) = true := by simp [Region.wanted, hg]
  simp only [hi, hw, if_true]
  refine .inl ?_
  unfold Oper.wp
  rw [hrun]; exact h
theorem wpOp_call {i : Nat} {o : Oper} {K : Act → World → Prop} {a : Act} {w w1 : World} {f : FuncId} {args : Array Value} {R : Ending → World → Prop} (hi : ops[i]? = some o) (hg : o.guard = none) (hrun : (execOp a.eval o).run P w = .ok (.enter f args) w1)
    (hc : Calls P f args w1 R) (h : ∀ e w', R e w' → ∃ v, e = .returned v ∧ K (a.put o.dst v) w') : wpOp P ops Q i K a w := by
  unfold wpOp
  have hw : Region.wanted o (yielded ops a.tmps) = true := by simp [Region.wanted, hg]
  simp only [hi, hw, if_true]
  refine .inl ?_
  unfold Oper.wp
  rw [hrun]
  refine Calls.mono hc fun e w' hr => ?_
  obtain ⟨v, rfl, hk⟩ := h e w' hr
  exact hk
theorem yldI {o : Oper} {v : Value} {a : Act} (hg : o.guard = none) (h : ∀ w, I w → (execOp a.eval o).run P w = .ok (.value v) w) : YldI P ops I o v a :=
  ⟨by simp [Region.wanted, hg], h⟩
end
end Go.Proofs.YtalkhnhhaiigiaaGreatDoor

