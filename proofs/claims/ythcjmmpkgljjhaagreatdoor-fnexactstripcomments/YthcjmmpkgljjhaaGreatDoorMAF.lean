import Derived.Test.YthcjmmpkgljjhaaGreatDoorMAA
namespace Go.Proofs.YthcjmmpkgljjhaaGreatDoor
open Go.RowKit

set_option maxHeartbeats 800000 in
theorem l1need_any (p : Int) (w : World) : Calls Tryz.prog 71 #[.int .i64 p] w fun e w' => e = .returned (.int .i64 (need p)) ∧ w = w' := by
  by_cases h0 : p < 0
  · have HE : Hid (need p = 0) := by simp [Hid, need, okPt]; omega
    go_enter Tryz.func71, Tryz.ntmps71
    go_wp2
    go_ret
    exact ⟨by rw [HE.out]; rfl, rfl⟩
  · by_cases h1 : 1114111 < p
    · have HE : Hid (need p = 0) := by simp [Hid, need, okPt]; omega
      go_enter Tryz.func71, Tryz.ntmps71
      go_wp2
      go_ret
      exact ⟨by rw [HE.out]; rfl, rfl⟩
    · by_cases h2 : p < 55296
      · have ho : okPt p = true := by simp [okPt]; omega
        by_cases h3 : p < 128
        · have HE : Hid (need p = 1) := by simp [Hid, need, ho, h3]
          clear ho
          go_enter Tryz.func71, Tryz.ntmps71
          go_wp2
          go_ret
          exact ⟨by rw [HE.out]; rfl, rfl⟩
        · by_cases h4 : p < 2048
          · have HE : Hid (need p = 2) := by simp [Hid, need, ho, h3, h4]
            clear ho
            go_enter Tryz.func71, Tryz.ntmps71
            go_wp2
            go_ret
            exact ⟨by rw [HE.out]; rfl, rfl⟩
          · have HE : Hid (need p = 3) := by simp [Hid, need, ho, h3, h4]; omega
            clear ho
            go_enter Tryz.func71, Tryz.ntmps71
            go_wp2
            go_ret
            exact ⟨by rw [HE.out]; rfl, rfl⟩
      · by_cases h3 : p ≤ 57343
        · have HE : Hid (need p = 0) := by simp [Hid, need, okPt]; omega
          go_enter Tryz.func71, Tryz.ntmps71
          go_wp2
          go_ret
          exact ⟨by rw [HE.out]; rfl, rfl⟩
        · have ho : okPt p = true := by simp [okPt]; omega
          by_cases h4 : p < 65536
          · have HE : Hid (need p = 3) := by simp [Hid, need, ho, h4]; omega
            clear ho
            go_enter Tryz.func71, Tryz.ntmps71
            go_wp2
            go_ret
            exact ⟨by rw [HE.out]; rfl, rfl⟩
          · have HE : Hid (need p = 4) := by simp [Hid, need, ho, h4]; omega
            clear ho
            go_enter Tryz.func71, Tryz.ntmps71
            go_wp2
            go_ret
            exact ⟨by rw [HE.out]; rfl, rfl⟩

end Go.Proofs.YthcjmmpkgljjhaaGreatDoor

namespace Go.Proofs.YthcjmmpkgljjhaaGreatDoor
open Go.RowKit

/-- A comment. -/
structure Cm where
  b : Bool
  t : List Int

theorem Rd.wideC {q : IntKind} {B B' : Nat} {w : World} {v : Value} {zs : List Int} (h : Rd q B w v zs) (hB : B ≤ B') : Rd q B' w v zs := by
  obtain ⟨a, cap, hv, hr⟩ := h
  refine ⟨a, cap, hv, fun h0 => ?_⟩
  obtain ⟨b, off, ha, hb, hc⟩ := hr h0
  exact ⟨b, off, ha, by omega, hc⟩

/-- One comment lies at block b from cell o on; its Text's value is tv. -/
structure CmAt (B : Nat) (w : World) (b o : Nat) (p : Cm) (tv : Value) : Prop where
  k : w.cell? ⟨b, o, none⟩ = some (.bool p.b)
  t : w.cell? ⟨b, o + 1, none⟩ = some tv
  rd : RdB B w tv p.t
  sl : Sl tv p.t.length

/-- The slice value v reads as the comments cs; all lies below block B. -/
def RdC (B : Nat) (w : World) (v : Value) (cs : List Cm) : Prop :=
  ∃ a cap, v = .slice a cs.length cap ∧ cs.length ≤ cap ∧ cap ≤ maxLen ∧ (cs ≠ [] → ∃ b off, a = some ⟨b, off, none⟩ ∧ b < B ∧ ∀ j p, cs[j]? = some p → ∃ tv, CmAt B w b (off + j * 2) p tv)

theorem CmAt.beside {B : Nat} {w w' : World} {b o : Nat} {p : Cm} {tv : Value} {row : Option Nat} (h : CmAt B w b o p tv) (hb : b < B) (hg : w.grownBy w' row) (hr : ∀ k, row = some k → B ≤ k) : CmAt B w' b o p tv :=
  have hn : some b ≠ row := fun e => by have := hr b e.symm; omega
  ⟨hg.cell h.k hn, hg.cell h.t hn, h.rd.beside hg hr, h.sl⟩
theorem RdC.beside {B : Nat} {w w' : World} {v : Value} {cs : List Cm} {row : Option Nat} (h : RdC B w v cs) (hg : w.grownBy w' row) (hr : ∀ k, row = some k → B ≤ k) : RdC B w' v cs := by
  obtain ⟨a, cap, hv, h1, h2, hh⟩ := h
  refine ⟨a, cap, hv, h1, h2, fun h0 => ?_⟩
  obtain ⟨b, off, ha, hb, hc⟩ := hh h0
  refine ⟨b, off, ha, hb, fun j p hp => ?_⟩
  obtain ⟨tv, ht⟩ := hc j p hp
  exact ⟨tv, ht.beside hb hg hr⟩
theorem RdC.keep {B : Nat} {w w' : World} {v : Value} {cs : List Cm} (h : RdC B w v cs) (hg : w.grownBy w' none) : RdC B w' v cs := h.beside hg (fun _ e => by cases e)
theorem RdC.wide {B B' : Nat} {w : World} {v : Value} {cs : List Cm} (h : RdC B w v cs) (hB : B ≤ B') : RdC B' w v cs := by
  obtain ⟨a, cap, hv, h1, h2, hh⟩ := h
  refine ⟨a, cap, hv, h1, h2, fun h0 => ?_⟩
  obtain ⟨b, off, ha, hb, hc⟩ := hh h0
  refine ⟨b, off, ha, by omega, fun j p hp => ?_⟩
  obtain ⟨tv, ht⟩ := hc j p hp
  exact ⟨tv, ⟨ht.k, ht.t, ht.rd.wideC hB, ht.sl⟩⟩
theorem RdC.at {B : Nat} {w : World} {v : Value} {cs : List Cm} (h : RdC B w v cs) (j : Nat) (hj : j < cs.length) :
    ∃ b off cap tv, v = .slice (some ⟨b, off, none⟩) cs.length cap ∧ b < B ∧ CmAt B w b (off + j * 2) cs[j] tv := by
  obtain ⟨a, cap, hv, h1, h2, hh⟩ := h
  obtain ⟨b, off, ha, hb, hc⟩ := hh (fun e => by rw [e] at hj; simp at hj)
  obtain ⟨tv, ht⟩ := hc j cs[j] (by simp [hj])
  exact ⟨b, off, cap, tv, by rw [hv, ha], hb, ht⟩
theorem RdC.sl {B : Nat} {w : World} {v : Value} {cs : List Cm} (h : RdC B w v cs) : Sl v cs.length := by
  obtain ⟨a, cap, hv, h1, h2, _⟩ := h
  exact ⟨a, cap, hv, h1, h2⟩

/-- A node. -/
structure Nod where
  k : Int
  lead : List Cm
  mem : Bool
  key : List Int
  text : List Int
  units : List Int
  cnt : Int
  tail : List Cm

/-- One node lies at block b from cell o on; lv, kv, xv, uv, tv are its lists' values. -/
structure NodAt (B : Nat) (w : World) (b o : Nat) (p : Nod) (lv kv xv uv tv : Value) : Prop where
  k : w.cell? ⟨b, o, none⟩ = some (.int .i64 p.k)
  lead : w.cell? ⟨b, o + 1, none⟩ = some lv
  mem : w.cell? ⟨b, o + 2, none⟩ = some (.bool p.mem)
  key : w.cell? ⟨b, o + 3, none⟩ = some kv
  text : w.cell? ⟨b, o + 4, none⟩ = some xv
  units : w.cell? ⟨b, o + 5, none⟩ = some uv
  cnt : w.cell? ⟨b, o + 6, none⟩ = some (.int .i64 p.cnt)
  tail : w.cell? ⟨b, o + 7, none⟩ = some tv
  rl : RdC B w lv p.lead
  rk : RdI B w kv p.key
  sk : Sl kv p.key.length
  rx : RdB B w xv p.text
  sx : Sl xv p.text.length
  ru : RdI B w uv p.units
  su : Sl uv p.units.length
  rt : RdC B w tv p.tail

/-- The slice value v reads as the nodes ns; all lies below block B. -/
def RdN (B : Nat) (w : World) (v : Value) (ns : List Nod) : Prop :=
  ∃ a cap, v = .slice a ns.length cap ∧ ns.length ≤ cap ∧ cap ≤ maxLen ∧ (ns ≠ [] → ∃ b off, a = some ⟨b, off, none⟩ ∧ b < B ∧ ∀ j p, ns[j]? = some p → ∃ lv kv xv uv tv, NodAt B w b (off + j * 8) p lv kv xv uv tv)
theorem NodAt.beside {B : Nat} {w w' : World} {b o : Nat} {p : Nod} {lv kv xv uv tv : Value} {row : Option Nat} (h : NodAt B w b o p lv kv xv uv tv) (hb : b < B) (hg : w.grownBy w' row) (hr : ∀ k, row = some k → B ≤ k) : NodAt B w' b o p lv kv xv uv tv :=
  have hn : some b ≠ row := fun e => by have := hr b e.symm; omega
  ⟨hg.cell h.k hn, hg.cell h.lead hn, hg.cell h.mem hn, hg.cell h.key hn, hg.cell h.text hn, hg.cell h.units hn, hg.cell h.cnt hn, hg.cell h.tail hn,
    h.rl.beside hg hr, h.rk.beside hg hr, h.sk, h.rx.beside hg hr, h.sx, h.ru.beside hg hr, h.su, h.rt.beside hg hr⟩
theorem RdN.beside {B : Nat} {w w' : World} {v : Value} {ns : List Nod} {row : Option Nat} (h : RdN B w v ns) (hg : w.grownBy w' row) (hr : ∀ k, row = some k → B ≤ k) : RdN B w' v ns := by
  obtain ⟨a, cap, hv, h1, h2, hh⟩ := h
  refine ⟨a, cap, hv, h1, h2, fun h0 => ?_⟩
  obtain ⟨b, off, ha, hb, hc⟩ := hh h0
  refine ⟨b, off, ha, hb, fun j p hp => ?_⟩
  obtain ⟨lv, kv, xv, uv, tv, ht⟩ := hc j p hp
  exact ⟨lv, kv, xv, uv, tv, ht.beside hb hg hr⟩
theorem RdN.keep {B : Nat} {w w' : World} {v : Value} {ns : List Nod} (h : RdN B w v ns) (hg : w.grownBy w' none) : RdN B w' v ns := h.beside hg (fun _ e => by cases e)
theorem RdN.wide {B B' : Nat} {w : World} {v : Value} {ns : List Nod} (h : RdN B w v ns) (hB : B ≤ B') : RdN B' w v ns := by
  obtain ⟨a, cap, hv, h1, h2, hh⟩ := h
  refine ⟨a, cap, hv, h1, h2, fun h0 => ?_⟩
  obtain ⟨b, off, ha, hb, hc⟩ := hh h0
  refine ⟨b, off, ha, by omega, fun j p hp => ?_⟩
  obtain ⟨lv, kv, xv, uv, tv, t⟩ := hc j p hp
  exact ⟨lv, kv, xv, uv, tv, t.k, t.lead, t.mem, t.key, t.text, t.units, t.cnt, t.tail, t.rl.wide hB, t.rk.wideC hB, t.sk, t.rx.wideC hB, t.sx, t.ru.wideC hB, t.su, t.rt.wide hB⟩
theorem RdN.at {B : Nat} {w : World} {v : Value} {ns : List Nod} (h : RdN B w v ns) (j : Nat) (hj : j < ns.length) :
    ∃ b off cap lv kv xv uv tv, v = .slice (some ⟨b, off, none⟩) ns.length cap ∧ b < B ∧ NodAt B w b (off + j * 8) ns[j] lv kv xv uv tv := by
  obtain ⟨a, cap, hv, h1, h2, hh⟩ := h
  obtain ⟨b, off, ha, hb, hc⟩ := hh (fun e => by rw [e] at hj; simp at hj)
  obtain ⟨lv, kv, xv, uv, tv, ht⟩ := hc j ns[j] (by simp [hj])
  exact ⟨b, off, cap, lv, kv, xv, uv, tv, by rw [hv, ha], hb, ht⟩

end Go.Proofs.YthcjmmpkgljjhaaGreatDoor

namespace Go.Proofs.YthcjmmpkgljjhaaGreatDoor
open Go.RowKit

/-! Trees as plain lists of nodes: a walk that takes a value's nodes off the list. -/

def loopN {σ : Type} (f : σ → Option σ) : Nat → σ → Option σ
  | 0, s => some s
  | k + 1, s => (f s).bind (loopN f k)

/-- A value taken off, each node asked in its order; d - 1 lists may stand inside each other. -/
def walkL {σ : Type} (chk : Nod → σ → Option σ) : Nat → Bool → List Nod × σ → Option (List Nod × σ)
  | 0, _, _ => none
  | _ + 1, _, ([], _) => none
  | d + 1, m, (n :: R, s) => if n.mem ≠ m then none else (chk n s).bind fun s' => if 5 ≤ n.k ∧ d = 0 then none else loopN (walkL chk d (decide (n.k = 6))) n.cnt.toNat (R, s')

def foldC {σ : Type} (chk : Nod → σ → Option σ) : List Nod → σ → Option σ
  | [], s => some s
  | n :: P, s => (chk n s).bind (foldC chk P)
theorem foldC_append {σ : Type} (chk : Nod → σ → Option σ) : ∀ (P Q : List Nod) (s : σ), foldC chk (P ++ Q) s = (foldC chk P s).bind (foldC chk Q)
  | [], Q, s => rfl
  | n :: P, Q, s => by
    simp only [List.cons_append, foldC]
    cases chk n s with
    | none => rfl
    | some s' => exact foldC_append chk P Q s'

/-- The walk that asks nothing. -/
def triv (_ : Nod) (u : Unit) : Option Unit := some u

def Splits {σ : Type} (chk : Nod → σ → Option σ) (f : List Nod × σ → Option (List Nod × σ)) (g : List Nod × Unit → Option (List Nod × Unit)) : Prop :=
  ∀ (R : List Nod) (s : σ) (R2 : List Nod) (s2 : σ), f (R, s) = some (R2, s2) ↔ ∃ P, R = P ++ R2 ∧ g (R, ()) = some (R2, ()) ∧ foldC chk P s = some s2
/-- What is left is an end of what was there. -/
def Ends (g : List Nod × Unit → Option (List Nod × Unit)) : Prop := ∀ R R2, g (R, ()) = some (R2, ()) → ∃ P, R = P ++ R2

theorem loop_splits {σ : Type} {chk : Nod → σ → Option σ} {f : List Nod × σ → Option (List Nod × σ)} {g : List Nod × Unit → Option (List Nod × Unit)} (h : Splits chk f g) (he : Ends g) : ∀ k, Splits chk (loopN f k) (loopN g k) ∧ Ends (loopN g k)
  | 0 => by
    refine ⟨fun R s R2 s2 => ⟨fun h => ?_, fun ⟨P, h1, h2, h3⟩ => ?_⟩, fun R R2 h => ?_⟩
    · simp only [loopN, Option.some.injEq, Prod.mk.injEq] at h
      obtain ⟨rfl, rfl⟩ := h
      exact ⟨[], rfl, rfl, rfl⟩
    · simp only [loopN, Option.some.injEq, Prod.mk.injEq, and_true] at h2
      subst h2
      have hP : P = [] := by simpa using h1
      subst hP
      simp only [foldC, Option.some.injEq] at h3
      subst h3
      rfl
    · simp only [loopN, Option.some.injEq, Prod.mk.injEq, and_true] at h
      exact ⟨[], by simpa using h⟩
  | k + 1 => by
    obtain ⟨ih, ihe⟩ := loop_splits h he k
    refine ⟨fun R s R2 s2 => ⟨fun hh => ?_, fun ⟨P, h1, h2, h3⟩ => ?_⟩, fun R R2 hh => ?_⟩
    · simp only [loopN, Option.bind_eq_some_iff] at hh
      obtain ⟨⟨R1, s1⟩, e1, e2⟩ := hh
      obtain ⟨P1, r1, g1, f1⟩ := (h R s R1 s1).1 e1
      obtain ⟨P2, r2, g2, f2⟩ := (ih R1 s1 R2 s2).1 e2
      refine ⟨P1 ++ P2, by rw [r1, r2, List.append_assoc], ?_, ?_⟩
      · simp only [loopN, g1, Option.bind_some]; exact g2
      · rw [foldC_append, f1]; exact f2
    · simp only [loopN, Option.bind_eq_some_iff] at h2
      obtain ⟨⟨R1, ⟨⟩⟩, g1, g2⟩ := h2
      obtain ⟨P1, r1⟩ := he R R1 g1
      obtain ⟨P2, r2⟩ := ihe R1 R2 g2
      have hP : P = P1 ++ P2 := by
        have : P ++ R2 = (P1 ++ P2) ++ R2 := by rw [← h1, r1, r2, List.append_assoc]
        exact List.append_cancel_right this
      rw [hP, foldC_append, Option.bind_eq_some_iff] at h3
      obtain ⟨s1, f1, f2⟩ := h3
      have e1 := (h R s R1 s1).2 ⟨P1, r1, g1, f1⟩
      have e2 := (ih R1 s1 R2 s2).2 ⟨P2, r2, g2, f2⟩
      simp only [loopN, e1, Option.bind_some]; exact e2
    · simp only [loopN, Option.bind_eq_some_iff] at hh
      obtain ⟨⟨R1, ⟨⟩⟩, g1, g2⟩ := hh
      obtain ⟨P1, r1⟩ := he R R1 g1
      obtain ⟨P2, r2⟩ := ihe R1 R2 g2
      exact ⟨P1 ++ P2, by rw [r1, r2, List.append_assoc]⟩

theorem walk_splits {σ : Type} (chk : Nod → σ → Option σ) : ∀ (d : Nat) (m : Bool), Splits chk (walkL chk d m) (walkL triv d m) ∧ Ends (walkL triv d m)
  | 0, m => ⟨fun R s R2 s2 => by simp [walkL], fun R R2 h => by simp [walkL] at h⟩
  | d + 1, m => by
    have hl := fun m' k => loop_splits (walk_splits chk d m').1 (walk_splits chk d m').2 k
    refine ⟨fun R s R2 s2 => ?_, fun R R2 hh => ?_⟩
    · cases R with
      | nil => simp [walkL]
      | cons n R =>
        by_cases hm : n.mem ≠ m
        · simp [walkL, hm]
        · by_cases hd : 5 ≤ n.k ∧ d = 0
          · simp [walkL, hm, hd, triv]
          · have e1 : walkL chk (d + 1) m (n :: R, s) = (chk n s).bind fun s' => loopN (walkL chk d (decide (n.k = 6))) n.cnt.toNat (R, s') := by simp only [walkL, if_neg hm, if_neg hd]
            have e2 : walkL triv (d + 1) m (n :: R, ()) = loopN (walkL triv d (decide (n.k = 6))) n.cnt.toNat (R, ()) := by simp only [walkL, if_neg hm, if_neg hd, triv, Option.bind_some]
            rw [e1, e2]
            constructor
            · intro hh
              rw [Option.bind_eq_some_iff] at hh
              obtain ⟨s', c1, c2⟩ := hh
              obtain ⟨P, r, g, f⟩ := ((hl _ _).1 R s' R2 s2).1 c2
              exact ⟨n :: P, by rw [r]; rfl, g, by simp only [foldC, c1, Option.bind_some]; exact f⟩
            · rintro ⟨P, r, g, f⟩
              obtain ⟨P', r'⟩ := (hl _ _).2 R R2 g
              have hP : P = n :: P' := by
                have : P ++ R2 = (n :: P') ++ R2 := by rw [← r, r']; rfl
                exact List.append_cancel_right this
              rw [hP] at f
              simp only [foldC, Option.bind_eq_some_iff] at f
              obtain ⟨s', c1, c2⟩ := f
              rw [Option.bind_eq_some_iff]
              exact ⟨s', c1, ((hl _ _).1 R s' R2 s2).2 ⟨P', r', g, c2⟩⟩
    · cases R with
      | nil => simp [walkL] at hh
      | cons n R =>
        by_cases hm : n.mem ≠ m
        · simp [walkL, hm] at hh
        · by_cases hd : 5 ≤ n.k ∧ d = 0
          · simp [walkL, hm, hd, triv] at hh
          · simp only [walkL, if_neg hm, if_neg hd, triv, Option.bind_some] at hh
            obtain ⟨P', r'⟩ := (hl _ _).2 R R2 hh
            exact ⟨n :: P', by rw [r']; rfl⟩

/-- A whole tree: all nodes are taken. -/
theorem walk_all {σ : Type} (chk : Nod → σ → Option σ) (d : Nat) (m : Bool) (R : List Nod) (s s2 : σ) : walkL chk d m (R, s) = some ([], s2) ↔ walkL triv d m (R, ()) = some ([], ()) ∧ foldC chk R s = some s2 := by
  rw [(walk_splits chk d m).1 R s [] s2]
  constructor
  · rintro ⟨P, r, g, f⟩
    have : R = P := by simpa using r
    subst this
    exact ⟨g, f⟩
  · rintro ⟨g, f⟩
    exact ⟨R, by simp, g, f⟩

/-- A value takes one node at least. -/
theorem walk_less (d : Nat) (m : Bool) (R R2 : List Nod) (h : walkL triv d m (R, ()) = some (R2, ())) : R2.length < R.length := by
  cases d with
  | zero => simp [walkL] at h
  | succ d =>
    cases R with
    | nil => simp [walkL] at h
    | cons n R =>
      by_cases hm : n.mem ≠ m
      · simp [walkL, hm] at h
      · by_cases hd : 5 ≤ n.k ∧ d = 0
        · simp [walkL, hm, hd, triv] at h
        · simp only [walkL, if_neg hm, if_neg hd, triv, Option.bind_some] at h
          obtain ⟨P, r⟩ := (loop_splits (walk_splits triv d _).1 (walk_splits triv d _).2 _).2 R R2 h
          rw [r]; simp; omega
/-- So that more items than nodes are too many. -/
theorem loop_long (d : Nat) (m : Bool) : ∀ (k : Nat) (R : List Nod), R.length < k → loopN (walkL triv d m) k (R, ()) = none
  | 0, R, h => by omega
  | k + 1, R, h => by
    simp only [loopN]
    cases hw : walkL triv d m (R, ()) with
    | none => rfl
    | some x =>
      obtain ⟨R1, ⟨⟩⟩ := x
      have := walk_less d m R R1 hw
      exact loop_long d m k R1 (by omega)

/-- The model's walk: it refuses a node with more items than the tree has nodes. -/
def endL (len : Nat) : Nat → Bool → List Nod → Option (List Nod)
  | 0, _, _ => none
  | _ + 1, _, [] => none
  | d + 1, m, n :: R => if n.mem ≠ m then none else if (len : Int) < n.cnt ∨ (5 ≤ n.k ∧ d = 0) then none else loopN (endL len d (decide (n.k = 6))) n.cnt.toNat R
theorem loop_same (f : List Nod → Option (List Nod)) (g : List Nod × Unit → Option (List Nod × Unit)) (len : Nat) (h : ∀ R, R.length ≤ len → (f R).map (fun x => (x, ())) = g (R, ())) (he : Ends g) : ∀ (k : Nat) (R : List Nod), R.length ≤ len → (loopN f k R).map (fun x => (x, ())) = loopN g k (R, ())
  | 0, R, _ => rfl
  | k + 1, R, hl => by
    simp only [loopN]
    have h1 := h R hl
    cases hf : f R with
    | none => rw [hf] at h1; simp only [Option.map_none] at h1; rw [← h1]; rfl
    | some R1 =>
      rw [hf] at h1
      simp only [Option.map_some] at h1
      rw [← h1]
      obtain ⟨P, r⟩ := he R R1 h1.symm
      exact loop_same f g len h he k R1 (by rw [r] at hl; simp at hl; omega)
theorem end_walk (len : Nat) : ∀ (d : Nat) (m : Bool) (R : List Nod), R.length ≤ len → (endL len d m R).map (fun x => (x, ())) = walkL triv d m (R, ())
  | 0, _, _, _ => rfl
  | _ + 1, _, [], _ => rfl
  | d + 1, m, n :: R, hl => by
    by_cases hm : n.mem ≠ m
    · simp [endL, walkL, hm]
    · by_cases hd : 5 ≤ n.k ∧ d = 0
      · simp [endL, walkL, hm, hd, triv]
      · have e2 : walkL triv (d + 1) m (n :: R, ()) = loopN (walkL triv d (decide (n.k = 6))) n.cnt.toNat (R, ()) := by simp only [walkL, if_neg hm, if_neg hd, triv, Option.bind_some]
        rw [e2]
        by_cases hc : (len : Int) < n.cnt
        · rw [loop_long d _ _ R (by simp at hl; omega)]
          simp [endL, hm, hc]
        · have e1 : endL len (d + 1) m (n :: R) = loopN (endL len d (decide (n.k = 6))) n.cnt.toNat R := by simp only [endL, if_neg hm]; rw [if_neg (by omega)]
          rw [e1]
          exact loop_same _ _ len (fun R' h' => end_walk len d _ R' h') (walk_splits triv d _).2 _ R (by simp at hl; omega)

end Go.Proofs.YthcjmmpkgljjhaaGreatDoor

