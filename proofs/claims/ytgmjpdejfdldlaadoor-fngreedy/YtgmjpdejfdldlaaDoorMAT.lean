import Derived.Laws.AppendOwnNone
import Derived.Test.YtgmjpdejfdldlaaDoorMAF
import Derived.Test.YtgmjpdejfdldlaaDoorMAG
import Derived.Test.YtgmjpdejfdldlaaDoorMAI
import Derived.Test.YtgmjpdejfdldlaaDoorMAJ
import Derived.Test.YtgmjpdejfdldlaaDoorMAS
namespace Go.Proofs.YtgmjpdejfdldlaaDoor
open Go.RowKit

set_option maxHeartbeats 1000000 in
set_option maxRecDepth 100000 in
theorem layoutFn_any (cb : Nat) (width g line : Int) (w : World) (hc : w.cell? ⟨cb, 0, none⟩ = some (.int .i64 width)) :
    Calls Tryd.prog 22 #[.int .i64 g, .int .i64 line, .pointer (some ⟨cb, 0, none⟩)] w fun e w' => e = .returned (.bool (decide (line ≤ width))) ∧ w = w' := by
  go_enter Tryd.func22, Tryd.ntmps22
  go_wp2
  go_ret
  exact ⟨rfl, rfl⟩

theorem enter_layout (args : Array Value) (W : World) : (callFunc 22 args).run Tryd.prog W = .ok (.enter 22 args) W := by kernel_rfl

/-- What the printer asks for a group: nothing where it can't be flat. -/
def canR (fw col bw : Int) (d : Int → Bool) : Bool := if fw = -1 then false else d (col + fw + bw)

set_option maxHeartbeats 1000000 in
set_option maxRecDepth 100000 in
theorem canStay_any (pb : Nat) (w0 w : World) (fb nb cf : Nat) (a1 cap : Value) (wv tv hv : Value) (ts : List Tk) (tx : List Int) (col : Int) (ch : List Int) (h : Pr pb w0 w (.map (some fb)) a1 (.map (some nb)) (.func (.func cf) #[] #[cap]) wv tv hv ts tx col ch)
    (b : Nat) (bw : Int) (be : Bool) (fw : Int) (hF : ∀ W, w.grownBy W none → (Instr.lookup 59 (.map (some fb)) (.iface 135 (.pointer (some ⟨b, 0, none⟩))) false).run Tryd.prog W = .ok (.int .i64 fw) W) (j : Nat)
    (hL : ∀ W, w.grownBy W none → (Instr.lookup 61 (.map (some nb)) (.pointer (some ⟨b, 0, none⟩)) false).run Tryd.prog W = .ok (.int .i64 (j : Int)) W) (d : Int → Bool)
    (hC : ∀ W, w.grownBy W none → Calls Tryd.prog cf #[.int .i64 (j : Int), .int .i64 (col + fw + bw), cap] W fun e w' => e = .returned (.bool (d (col + fw + bw))) ∧ W = w')
    (hE : ∀ (args : Array Value) (W : World), (callFunc cf args).run Tryd.prog W = .ok (.enter cf args) W) (hfb : -1 ≤ fw ∧ fw ≤ 1000000) (hcb : -1000000 ≤ col ∧ col ≤ 1000000) (hbb : -1000000 ≤ bw ∧ bw ≤ 1000000) :
    Calls Tryd.prog 67 #[.pointer (some ⟨pb, 0, none⟩), .pointer (some ⟨b, 0, none⟩), .agg #[.int .i64 bw, .bool be]] w fun e w' => e = .returned (.bool (canR fw col bw d)) ∧ w.grownBy w' none := by
  have hg0 : w.grownBy (w.alloc (.cells #[.int .i64 bw, .bool be] 107)) none := World.grownBy_alloc _ _ _
  have hgq : ∀ q, w.grownBy ((w.alloc (.cells #[.int .i64 bw, .bool be] 107)).drewN q) none := fun q => grown_drewN hg0 q
  have HGq := hidN hgq
  have c0 := hg0.cell h.c0 (by simp)
  have c2 := hg0.cell h.c2 (by simp)
  have c3 := hg0.cell h.c3 (by simp)
  have c6 := hg0.cell h.c6 (by simp)
  have hlt := h.lt
  have hA := hF _ hg0
  have hLq : ∀ q, _ := fun q => hL _ (hgq q)
  have hCq : ∀ q, Calls Tryd.prog cf #[.int .i64 (j : Int), .int .i64 (col + fw + bw), cap] ((w.alloc (.cells #[.int .i64 bw, .bool be] 107)).drewN q) fun e w' => e = .returned (.bool (d (col + fw + bw))) ∧ w' = (w.alloc (.cells #[.int .i64 bw, .bool be] 107)).drewN q :=
    fun q => (hC _ (hgq q)).mono fun e w' h => ⟨h.1, h.2.symm⟩
  have HCq := hidN hCq
  by_cases hfw : fw = -1
  · have HR : Hid (canR fw col bw d = false) := by unfold Hid canR; rw [if_pos hfw]
    have e1 : (fw != -1) = false := by rw [hfw]; rfl
    clear h hF hL hC hg0 hgq hCq hfw
    go_enter Tryd.func67, Tryd.ntmps67
    go_wp2_with fail
    go_quiet (fail)
    go_wp2
    go_ret
    exact ⟨by rw [HR.out]; rfl, HGq.out _⟩
  · have HR : Hid (canR fw col bw d = d (col + fw + bw)) := by unfold Hid canR; rw [if_neg hfw]
    have e1 : (fw != -1) = true := by simpa using hfw
    have hw1 : IntKind.i64.wrap (col + fw) = col + fw := by simp [IntKind.wrap, IntKind.bits, IntKind.signed]; omega
    have hw2 : IntKind.i64.wrap (col + fw + bw) = col + fw + bw := by simp [IntKind.wrap, IntKind.bits, IntKind.signed]; omega
    clear h hF hL hC hg0 hgq hCq hfw
    go_enter Tryd.func67, Tryd.ntmps67
    go_wp2_with fail
    go_quiet (refine Calls.quiet_of_same (HCq.out _))
    go_wp2
    go_ret
    exact ⟨by rw [HR.out]; rfl, HGq.out _⟩

end Go.Proofs.YtgmjpdejfdldlaaDoor

namespace Go.Proofs.YtgmjpdejfdldlaaDoor
open Go.RowKit

/-- What the printer knows of the nodes, at the world wm in which it is made. -/
structure Ctx (B : Nat) (wm : World) (l : List Value) (fb lb nb : Nat) (f0 f1 f2 : Value → Option Value) : Prop where
  once : Once (fun _ => False) wm l
  flats : ∃ n, MapIs wm fb f0 n
  leads : ∃ n, MapIs wm lb f1 n
  nums : P.MapIs wm nb f2 (cntV l)
  t0 : NTab B wm l f0 fwV
  t1 : NTab B wm l f1 ldV
  t2 : GTab l l.length f2

/-- The node v, with the tree T, stands in the list behind n groups. -/
def NodeAt (B : Nat) (wm : World) (l : List Value) (v : Value) (T : Tr) (n : Nat) : Prop :=
  ∃ pre lT post, l = pre ++ lT ++ post ∧ Post wm v T lT ∧ Rep (fun _ => False) B wm v T ∧ n = cntV pre

theorem cntV_app (a b : List Value) : cntV (a ++ b) = cntV a + cntV b := by unfold cntV; rw [List.filter_append, List.length_append]

theorem post_cnt {X : Nat → Prop} {B : Nat} {w : World} : ∀ {T : Tr} {v : Value} {l : List Value}, Rep X B w v T → Post w v T l → cntV l = cntG T
  | .leaf p, v, l, hr, hp => by
    simp only [Post] at hp
    subst hp
    simp only [Rep] at hr
    simp only [cntG]
    rcases hr with h | h | h | h | h | ⟨_, b, tv, h, _⟩
    · rw [h.2]; rfl
    · rw [h.2]; rfl
    · rw [h.2]; rfl
    · rw [h.2]; rfl
    · rw [h.2]; rfl
    · rw [h]; rfl
  | .un p x, v, l, hr, hp => by
    simp only [Rep] at hr
    simp only [Post] at hp
    obtain ⟨b0, u0, h3, h4, h5, h6, h7⟩ := hr
    obtain ⟨t, b, u, l1, hv, k1, k2, k3, k4⟩ := hp
    have hbb : b = b0 := by
      rcases h7 with ⟨_, h7⟩ | ⟨_, h7⟩ <;> (rw [hv] at h7; simp at h7; exact h7.2)
    subst hbb
    have hu : u0 = u := by rw [h5] at k1; exact Option.some.inj k1
    subst hu
    subst k4
    rw [cntV_app, post_cnt h6 k3]
    simp only [cntG]
    rcases h7 with ⟨h7, h8⟩ | ⟨h7, h8⟩
    · rw [h8, if_pos h7]; rfl
    · rw [h8, if_neg (by omega)]; rfl
  | .bin p x y, v, l, hr, hp => by
    simp only [Rep] at hr
    simp only [Post] at hp
    obtain ⟨b0, u0, u0', h3, h4, h5, h5', h6, h6', h7⟩ := hr
    obtain ⟨t, b, u, u', l1, l2, hv, k1, k1', k3, k3', k4⟩ := hp
    have hbb : b = b0 := by
      rcases h7 with ⟨_, h7⟩ | ⟨_, h7⟩ <;> (rw [hv] at h7; simp at h7; exact h7.2)
    subst hbb
    have hu : u0 = u := by rw [h5] at k1; exact Option.some.inj k1
    have hu' : u0' = u' := by rw [h5'] at k1'; exact Option.some.inj k1'
    subst hu hu'
    subst k4
    rw [cntV_app, cntV_app, post_cnt h6 k3, post_cnt h6' k3']
    simp only [cntG]
    have h0 : cntV [v] = 0 := by rcases h7 with ⟨_, h8⟩ | ⟨_, h8⟩ <;> (rw [h8]; rfl)
    rw [h0]
    rfl

section
variable {B : Nat} {wm : World} {l : List Value} {v : Value} {T : Tr} {n : Nat}

theorem NodeAt.rep (h : NodeAt B wm l v T n) : Rep (fun _ => False) B wm v T := by
  obtain ⟨_, _, _, _, _, h, _⟩ := h
  exact h
theorem NodeAt.mem (h : NodeAt B wm l v T n) : v ∈ l := by
  obtain ⟨pre, lT, post, h1, h2, _, _⟩ := h
  obtain ⟨l', h3⟩ := h2.last
  rw [h1, h3]
  simp
theorem NodeAt.key (h : NodeAt B wm l v T n) (ho : Once (fun _ => False) wm l) : NKey wm v := rep_key ho h.mem h.rep

/-- A node with one operand. -/
theorem NodeAt.un {p : Pc} {x : Tr} (h : NodeAt B wm l v (.un p x) n) :
    ∃ b u, wm.cell? ⟨b, 0, none⟩ = some u ∧ NodeAt B wm l u x n ∧
      ((p.k = 8 ∧ v = gVal b ∧ ∀ f2, GTab l l.length f2 → f2 (.pointer (some ⟨b, 0, none⟩)) = some (.int .i64 ((n + cntG x : Nat) : Int))) ∨ (p.k = 7 ∧ v = .iface 130 (.pointer (some ⟨b, 0, none⟩)) ∧ wm.cell? ⟨b, 1, none⟩ = some (.int .i64 p.n))) := by
  obtain ⟨pre, lT, post, h1, hp, hr, hn⟩ := h
  have hr0 := hr
  simp only [Rep] at hr
  simp only [Post] at hp
  obtain ⟨b0, u0, h3, h4, h5, h6, h7⟩ := hr
  obtain ⟨t, b, u, l1, hv, k1, k2, k3, k4⟩ := hp
  have hbb : b = b0 := by
    rcases h7 with ⟨_, h7⟩ | ⟨_, h7⟩ <;> (rw [hv] at h7; simp at h7; exact h7.2)
  subst hbb
  have hu : u0 = u := by rw [h5] at k1; exact Option.some.inj k1
  subst hu
  refine ⟨b, u0, h5, ⟨pre, l1, [v] ++ post, by rw [h1, k4]; simp, k3, h6, hn⟩, ?_⟩
  rcases h7 with ⟨h7, h8⟩ | ⟨h7, h8⟩
  · refine .inl ⟨h7, h8, fun f2 hg => ?_⟩
    have hi : l[(pre ++ l1).length]? = some (gVal b) := by
      rw [h1, k4, show pre ++ (l1 ++ [v]) ++ post = (pre ++ l1) ++ ([v] ++ post) by simp, List.getElem?_append_right (Nat.le_refl _), h8]
      simp [gVal]
    have := hg.at_ (pre ++ l1).length b (List.getElem?_eq_some_iff.1 hi).1 hi
    rw [this]
    have ht : l.take (pre ++ l1).length = pre ++ l1 := by
      rw [h1, k4, show pre ++ (l1 ++ [v]) ++ post = (pre ++ l1) ++ ([v] ++ post) by simp]
      exact List.take_left
    rw [ht, cntV_app, post_cnt h6 k3, hn]
  · exact .inr ⟨h7, h8, k2 h7⟩

/-- A node with two. -/
theorem NodeAt.bin {p : Pc} {x y : Tr} (h : NodeAt B wm l v (.bin p x y) n) :
    ∃ b u u', wm.cell? ⟨b, 0, none⟩ = some u ∧ wm.cell? ⟨b, 1, none⟩ = some u' ∧ NodeAt B wm l u x n ∧ NodeAt B wm l u' y (n + cntG x) ∧
      ((p.k = 6 ∧ v = .iface 138 (.pointer (some ⟨b, 0, none⟩))) ∨ (p.k = 9 ∧ v = .iface 142 (.pointer (some ⟨b, 0, none⟩)))) := by
  obtain ⟨pre, lT, post, h1, hp, hr, hn⟩ := h
  simp only [Rep] at hr
  simp only [Post] at hp
  obtain ⟨b0, u0, u0', h3, h4, h5, h5', h6, h6', h7⟩ := hr
  obtain ⟨t, b, u, u', l1, l2, hv, k1, k1', k3, k3', k4⟩ := hp
  have hbb : b = b0 := by
    rcases h7 with ⟨_, h7⟩ | ⟨_, h7⟩ <;> (rw [hv] at h7; simp at h7; exact h7.2)
  subst hbb
  have hu : u0 = u := by rw [h5] at k1; exact Option.some.inj k1
  have hu' : u0' = u' := by rw [h5'] at k1'; exact Option.some.inj k1'
  subst hu hu'
  refine ⟨b, u0, u0', h5, h5', ⟨pre, l1, l2 ++ [v] ++ post, by rw [h1, k4]; simp, k3, h6, hn⟩, ⟨pre ++ l1, l2, [v] ++ post, by rw [h1, k4]; simp, k3', h6', ?_⟩, h7⟩
  rw [cntV_app, post_cnt h6 k3, hn]
end

section
variable {B : Nat} {wm : World} {l : List Value} {fb lb nb : Nat} {f0 f1 f2 : Value → Option Value}

set_option maxRecDepth 100000 in
theorem Ctx.flat (h : Ctx B wm l fb lb nb f0 f1 f2) {v : Value} {T : Tr} {n : Nat} (hv : NodeAt B wm l v T n) {W : World} (hW : wm.grownBy W none) :
    (Instr.lookup 59 (.map (some fb)) v false).run Tryd.prog W = .ok (.int .i64 (flatW T)) W := by
  obtain ⟨m, hm⟩ := h.flats
  have := (hm.keep hW).run_lookup (z := .int .i64 0) Tryd.underlying59 rfl ((hv.key h.once).keep hW)
  rw [h.t0 v hv.mem T hv.rep] at this
  exact this
set_option maxRecDepth 100000 in
theorem Ctx.lead (h : Ctx B wm l fb lb nb f0 f1 f2) {v : Value} {T : Tr} {n : Nat} (hv : NodeAt B wm l v T n) {W : World} (hW : wm.grownBy W none) :
    (Instr.lookup 60 (.map (some lb)) v false).run Tryd.prog W = .ok (.agg #[.int .i64 (leadT T).1, .bool (leadT T).2]) W := by
  obtain ⟨m, hm⟩ := h.leads
  have := (hm.keep hW).run_lookup (z := .agg #[.int .i64 0, .bool false]) Tryd.underlying60 rfl ((hv.key h.once).keep hW)
  rw [h.t1 v hv.mem T hv.rep] at this
  exact this
set_option maxRecDepth 100000 in
theorem Ctx.num (h : Ctx B wm l fb lb nb f0 f1 f2) {b j : Nat} (hm : gVal b ∈ l) (hf : f2 (.pointer (some ⟨b, 0, none⟩)) = some (.int .i64 (j : Int))) {W : World} (hW : wm.grownBy W none) :
    (Instr.lookup 61 (.map (some nb)) (.pointer (some ⟨b, 0, none⟩)) false).run Tryd.prog W = .ok (.int .i64 (j : Int)) W := by
  obtain ⟨_, cs, t', hb⟩ := h.once.lt _ _ hm
  have := (h.nums.keep hW).run_lookup (z := .int .i64 0) Tryd.underlying61 rfl ((P.NKey.ptr b cs t' hb).keep hW)
  rw [hf] at this
  exact this
end

end Go.Proofs.YtgmjpdejfdldlaaDoor

namespace Go.Proofs.YtgmjpdejfdldlaaDoor
open Go.RowKit

/-- A task without its node. -/
structure PT where
  T : Tr
  n : Nat
  ind : Int
  fl : Bool
  bw : Int
  be : Bool
def Tk.pt (t : Tk) : PT := ⟨t.T, t.n, t.ind, t.fl, t.bw, t.be⟩

/-- The printer's machine; d tells what is asked of group and line. -/
def pm (d : Nat → Int → Bool) : Nat → List PT → List Int → Int → List Int → List Int × List Int
  | 0, _, tx, _, ch => (tx, ch)
  | _ + 1, [], tx, _, ch => (tx, ch)
  | f + 1, ⟨.leaf p, _, ind, fl, _, _⟩ :: r, tx, col, ch =>
    if (brk (.leaf p) ind fl).2 = true then pm d f r (tx ++ [10] ++ List.replicate (brk (.leaf p) ind fl).1.toNat 32) (brk (.leaf p) ind fl).1 ch
    else if p.k = 1 then pm d f r (tx ++ p.t) (col + widthR p.t) ch
    else if p.k = 2 then pm d f r (tx ++ [32]) (col + 1) ch
    else pm d f r tx col ch
  | f + 1, ⟨.un p x, n, ind, fl, bw, be⟩ :: r, tx, col, ch =>
    if p.k = 7 then pm d f (⟨x, n, ind + p.n, fl, bw, be⟩ :: r) tx col ch
    else pm d f (⟨x, n, ind, fl || canR (flatW x) col bw (d (n + cntG x)), bw, be⟩ :: r) tx col (ch.set (n + cntG x) (if (fl || canR (flatW x) col bw (d (n + cntG x))) = true then 1 else 2))
  | f + 1, ⟨.bin p x y, n, ind, fl, bw, be⟩ :: r, tx, col, ch =>
    if p.k = 6 then pm d f (⟨x, n, ind, fl, if (leadT y).2 = true then (leadT y).1 else (leadT y).1 + bw, if (leadT y).2 = true then (leadT y).2 else be⟩ :: ⟨y, n + cntG x, ind, fl, bw, be⟩ :: r) tx col ch
    else pm d f (⟨if fl then y else x, if fl then n + cntG x else n, ind, fl, bw, be⟩ :: r) tx col ch

def szS (its : List Tk) : Nat := szs (its.map (·.T))
theorem szS_cons (t : Tk) (r : List Tk) : szS (t :: r) = sz t.T + szS r := rfl
theorem szS_len : ∀ (r : List Tk), r.length ≤ szS r
  | [] => Nat.le_refl _
  | t :: r => by have := szS_len r; have := sz_pos t.T; rw [szS_cons, List.length_cons]; omega

/-- How much may lie behind each. -/
def bwOk : List Tk → Prop
  | [] => True
  | t :: r => (-(szS r : Int) ≤ t.bw ∧ t.bw ≤ szS r) ∧ bwOk r

structure TOk (B : Nat) (wm : World) (l : List Value) (G : Nat) (t : Tk) : Prop where
  node : NodeAt B wm l t.v t.T t.n
  ok : okN t.T
  lo : 0 ≤ t.ind
  hi : t.ind + nestT t.T ≤ 4000
  gb : t.n + cntG t.T ≤ G

structure PInv (B : Nat) (wm : World) (l : List Value) (G : Nat) (its : List Tk) (tx : List Int) (col : Int) (ch : List Int) : Prop where
  tok : ∀ t ∈ its, TOk B wm l G t
  bw : bwOk its
  tot : szS its ≤ 140000
  clen : ch.length = G
  lo : -(140000 - (szS its : Int)) ≤ col
  hi : col ≤ 4000 + (140000 - (szS its : Int))
  tl : tx.length + 4001 * szS its ≤ 4001 * 140000

theorem brk_bd {T : Tr} {ind : Int} {fl : Bool} (h0 : 0 ≤ ind) (h1 : ind ≤ 4000) : 0 ≤ (brk T ind fl).1 ∧ (brk T ind fl).1 ≤ 4000 := by
  unfold brk
  split
  · split
    · exact ⟨h0, h1⟩
    · split
      · exact ⟨h0, h1⟩
      · split <;> simp
  · simp

/-- A line. -/
theorem PInv.line {B : Nat} {wm : World} {l : List Value} {G : Nat} {t : Tk} {r : List Tk} {tx : List Int} {col : Int} {ch : List Int} (h : PInv B wm l G (t :: r) tx col ch) (i : Int) (h0 : 0 ≤ i) (h1 : i ≤ 4000) :
    PInv B wm l G r (tx ++ [10] ++ List.replicate i.toNat 32) i ch := by
  obtain ⟨a, b, c, d, e, f, g⟩ := h
  rw [szS_cons] at c e f g
  have := sz_pos t.T
  refine ⟨fun t ht => a t (List.mem_cons_of_mem _ ht), b.2, by omega, d, by omega, by omega, ?_⟩
  simp only [List.length_append, List.length_cons, List.length_nil, List.length_replicate]
  omega
/-- Something laid down. -/
theorem PInv.put {B : Nat} {wm : World} {l : List Value} {G : Nat} {t : Tk} {r : List Tk} {tx : List Int} {col : Int} {ch : List Int} (h : PInv B wm l G (t :: r) tx col ch) (s : List Int) (wd : Int) (hs : s.length ≤ sz t.T) (h0 : -(sz t.T : Int) ≤ wd) (h1 : wd ≤ sz t.T) :
    PInv B wm l G r (tx ++ s) (col + wd) ch := by
  obtain ⟨a, b, c, d, e, f, g⟩ := h
  rw [szS_cons] at c e f g
  refine ⟨fun t ht => a t (List.mem_cons_of_mem _ ht), b.2, by omega, d, by omega, by omega, ?_⟩
  simp only [List.length_append]
  omega
/-- A task in a task's place. -/
theorem PInv.one {B : Nat} {wm : World} {l : List Value} {G : Nat} {t u : Tk} {r : List Tk} {tx : List Int} {col : Int} {ch ch' : List Int} (h : PInv B wm l G (t :: r) tx col ch) (hu : TOk B wm l G u) (hb : u.bw = t.bw) (hs : sz u.T < sz t.T) (hc : ch'.length = ch.length) :
    PInv B wm l G (u :: r) tx col ch' := by
  obtain ⟨a, b, c, d, e, f, g⟩ := h
  rw [szS_cons] at c e f g
  refine ⟨fun s hs => ?_, ⟨by rw [hb]; exact b.1, b.2⟩, by rw [szS_cons]; omega, by omega, by rw [szS_cons]; omega, by rw [szS_cons]; omega, by rw [szS_cons]; omega⟩
  rcases List.mem_cons.1 hs with rfl | hs
  · exact hu
  · exact a s (List.mem_cons_of_mem _ hs)
/-- Two tasks in a task's place. -/
theorem PInv.two {B : Nat} {wm : World} {l : List Value} {G : Nat} {t u u' : Tk} {r : List Tk} {tx : List Int} {col : Int} {ch : List Int} (h : PInv B wm l G (t :: r) tx col ch) (hu : TOk B wm l G u) (hu' : TOk B wm l G u') (hb' : u'.bw = t.bw)
    (hb : u.bw = if (leadT u'.T).2 = true then (leadT u'.T).1 else (leadT u'.T).1 + t.bw) (hs : sz u.T + sz u'.T < sz t.T) : PInv B wm l G (u :: u' :: r) tx col ch := by
  obtain ⟨a, b, c, d, e, f, g⟩ := h
  rw [szS_cons] at c e f g
  have hl := leadT_le width_bd u'.T
  have hb1 := b.1
  refine ⟨fun s hs => ?_, ⟨?_, ⟨by rw [hb']; exact b.1, b.2⟩⟩, by rw [szS_cons, szS_cons]; omega, by omega, by rw [szS_cons, szS_cons]; omega, by rw [szS_cons, szS_cons]; omega, by rw [szS_cons, szS_cons]; omega⟩
  · rcases List.mem_cons.1 hs with rfl | hs
    · exact hu
    · rcases List.mem_cons.1 hs with rfl | hs
      · exact hu'
      · exact a s (List.mem_cons_of_mem _ hs)
  · rw [hb, szS_cons]
    split <;> omega

end Go.Proofs.YtgmjpdejfdldlaaDoor

namespace Go.Proofs.YtgmjpdejfdldlaaDoor
open Go.RowKit

theorem need_ge (p : Int) (h : okPt p = true) : 1 ≤ need p ∧ need p ≤ 4 := by
  unfold need; rw [if_pos h]; split <;> (try split) <;> (try split) <;> omega
theorem need_one {p : Int} (h : okPt p = true) (h1 : need p = 1) : p < 128 := by
  unfold need at h1; rw [if_pos h] at h1; split at h1
  · assumption
  · split at h1 <;> (try split at h1) <;> omega
theorem need_two {p : Int} (h : okPt p = true) (h1 : need p = 2) : ¬ p < 128 ∧ p < 2048 := by
  unfold need at h1; rw [if_pos h] at h1; split at h1
  · omega
  · split at h1 <;> (try split at h1) <;> omega
theorem need_three {p : Int} (h : okPt p = true) (h1 : need p = 3) : ¬ p < 2048 ∧ p < 65536 := by
  unfold need at h1; rw [if_pos h] at h1; split at h1
  · omega
  · split at h1 <;> (try split at h1) <;> omega
theorem need_four {p : Int} (h : okPt p = true) (h1 : need p = 4) : ¬ p < 65536 := by
  unfold need at h1; rw [if_pos h] at h1; split at h1
  · omega
  · split at h1 <;> (try split at h1) <;> omega

/-- 'append([]byte{x}, tail...)', tail a row of one's own. -/
theorem cons_row {B : Nat} {w w1 : World} {v' : Value} {xs : List Int} {x : Int} (hB : B ≤ w.heap.size) (n : Nat)
    (hown' : w1.ownsRow B 5 1 v' n ([.int .u8 x] ++ xs.map (Value.int .u8))) (hn : n = xs.length + 1) (hgrow : (w.alloc (.cells #[.int .u8 x] 5)).grownBy w1 (Value.slice (some ⟨w.heap.size, 0, none⟩) 1 1).ownBlock) :
    OwB B w1 v' (x :: xs) ∧ Below B w w1 := by
  subst hn
  exact ⟨by simpa [Ow] using hown', ((Below.refl B w).alloc hB _).grown hgrow (by simp; omega) (fun k hk => by cases hk; exact hB)⟩

end Go.Proofs.YtgmjpdejfdldlaaDoor

namespace Go.Proofs.YtgmjpdejfdldlaaDoor
open Go.RowKit

theorem fs_one {s : List Int} (hl : 1 ≤ s.length) (h0 : (0 : Int) ≤ s[0]?.getD 0) (hc : s[0]?.getD 0 < 128) : fsize s = 1 ∧ lv s 1 = s[0]?.getD 0 := by
  have hlv : lv s 1 = s[0]?.getD 0 := by
    rw [lv_fold hl (by rw [lead_one _ hc]; omega), lead_one _ hc]; rfl
  have hok : okPt (s[0]?.getD 0) = true := by simp [okPt]; omega
  have hneed : need (s[0]?.getD 0) = 1 := by unfold need; rw [if_pos hok, if_pos hc]
  have hhit : hit s 1 = true := (hit_val hlv h0).2 hneed
  refine ⟨?_, hlv⟩
  rw [fsize_only (n := 1) (by omega) (by omega) (fun m h1 h4 hne => hit_lead (lead_cls1 h0 hc m h1 h4 hne)), if_pos hhit]
theorem fs_two {s : List Int} {y : Int} (hc : s[0]?.getD 0 / 32 = 6) (g1 : goesOn s 1) (hy : y = s[0]?.getD 0 % 32 * 64 + s[1]?.getD 0 % 64) (h0 : 0 ≤ y) (hn : need y = 2) : fsize s = 2 ∧ lv s 2 = y := by
  have hlv : lv s 2 = y := by rw [hy]; exact lv2 hc g1
  have hhit : hit s 2 = true := (hit_val hlv h0).2 hn
  refine ⟨?_, hlv⟩
  rw [fsize_only (n := 2) (by omega) (by omega) (fun m h1 h4 hne => hit_lead (lead_cls2 hc m h1 h4 hne)), if_pos hhit]
theorem fs_three {s : List Int} {y : Int} (hc : s[0]?.getD 0 / 16 = 14) (g1 : goesOn s 1) (g2 : goesOn s 2) (hy : y = (s[0]?.getD 0 % 16 * 64 + s[1]?.getD 0 % 64) * 64 + s[2]?.getD 0 % 64) (h0 : 0 ≤ y) (hn : need y = 3) : fsize s = 3 ∧ lv s 3 = y := by
  have hlv : lv s 3 = y := by rw [hy]; exact lv3 hc g1 g2
  have hhit : hit s 3 = true := (hit_val hlv h0).2 hn
  refine ⟨?_, hlv⟩
  rw [fsize_only (n := 3) (by omega) (by omega) (fun m h1 h4 hne => hit_lead (lead_cls3 hc m h1 h4 hne)), if_pos hhit]
theorem fs_four {s : List Int} {y : Int} (hc : s[0]?.getD 0 / 8 = 30) (g1 : goesOn s 1) (g2 : goesOn s 2) (g3 : goesOn s 3)
    (hy : y = ((s[0]?.getD 0 % 8 * 64 + s[1]?.getD 0 % 64) * 64 + s[2]?.getD 0 % 64) * 64 + s[3]?.getD 0 % 64) (h0 : 0 ≤ y) (hn : need y = 4) : fsize s = 4 ∧ lv s 4 = y := by
  have hlv : lv s 4 = y := by rw [hy]; exact lv4 hc g1 g2 g3
  have hhit : hit s 4 = true := (hit_val hlv h0).2 hn
  refine ⟨?_, hlv⟩
  rw [fsize_only (n := 4) (by omega) (by omega) (fun m h1 h4 hne => hit_lead (lead_cls4 hc m h1 h4 hne)), if_pos hhit]

theorem dec_enc (p : Int) (r : List Int) (h : okPt p = true) : fsize (enc p ++ r) = (enc p).length ∧ lv (enc p ++ r) (enc p).length = p := by
  obtain ⟨⟨h0, h1⟩, h2⟩ := ok_bd h
  have hg := need_ge p h
  by_cases e1 : need p = 1
  · have hp := need_one h e1
    rw [enc1 p hp]
    have := fs_one (s := [p] ++ r) (by simp) (by simpa using h0) (by simpa using hp)
    simpa using this
  · by_cases e2 : need p = 2
    · have hp := need_two h e2
      rw [enc2 p hp.1 hp.2]
      refine fs_two (by simp; omega) ⟨by simp, by simp; omega⟩ (by simp; omega) h0 e2
    · by_cases e3 : need p = 3
      · have hp := need_three h e3
        rw [enc3 p hp.1 hp.2]
        refine fs_three (by simp; omega) ⟨by simp, by simp; omega⟩ ⟨by simp, by simp; omega⟩ (by simp; omega) h0 e3
      · have e4 : need p = 4 := by omega
        have hp := need_four h e4
        rw [enc4 p hp]
        refine fs_four (by simp; omega) ⟨by simp, by simp; omega⟩ ⟨by simp, by simp; omega⟩ ⟨by simp, by simp; omega⟩ (by simp; omega) h0 e4

theorem dec_all : ∀ (q : List Int) (f k : Nat), q.all okPt = true → (encAll q).length ≤ f → pts f (encAll q) = q ∧ err f (encAll q) k = none
  | [], f, k, _, _ => by simp [encAll, pts_nil, err_nil]
  | p :: q, f, k, h, hf => by
    simp only [List.all_cons, Bool.and_eq_true] at h
    have e : encAll (p :: q) = enc p ++ encAll q := by simp [encAll]
    have hl := enc_len p
    rw [e] at hf ⊢
    rw [List.length_append] at hf
    obtain ⟨f', rfl⟩ : ∃ f', f = f' + 1 := ⟨f - 1, by omega⟩
    have hd := dec_enc p (encAll q) h.1
    have hne : enc p ++ encAll q ≠ [] := fun h => by have := congrArg List.length h; simp at this; rw [this.1] at hl; simp at hl
    have hz : fsize (enc p ++ encAll q) ≠ 0 := by rw [hd.1]; omega
    have ih := dec_all q f' (k + fsize (enc p ++ encAll q)) h.2 (by omega)
    rw [pts_go hne hz, err_go hne hz, hd.1, hd.2, List.drop_left]
    rw [hd.1] at ih
    exact ⟨by rw [ih.1], ih.2⟩
theorem text_back {q : List Int} (h : q.all okPt = true) : decR (encR q).1 = (q, 0, 0) := by
  rw [encR_ok q h]
  have := dec_all q (encAll q).length 0 h (Nat.le_refl _)
  rw [decR_ok this.2, this.1]
theorem width_back {q : List Int} (h : q.all okPt = true) : widthR (encR q).1 = (q.length : Int) := by
  unfold widthR; rw [text_back h]; simp

theorem lv_goes {s : List Int} {n : Nat} (h0 : 0 ≤ lv s n) (j : Nat) (h1 : 1 ≤ j) (hj : j < n) : goesOn s j := by
  have all : ∀ j, 1 ≤ j → j < n → (∀ i, 1 ≤ i → i < j → goesOn s i) → goesOn s j := by
    intro j h1 hj hlo
    apply Classical.byContradiction
    intro hg
    have := lv_cut (n := n) j h1 hj hlo hg
    omega
  induction j using Nat.strongRecOn with
  | _ j ih => exact all j h1 hj (fun i hi1 hi2 => ih i hi2 hi1 (by omega))
theorem lv_lead0 {s : List Int} {n : Nat} (h0 : 0 ≤ lv s n) : n ≤ s.length ∧ 0 ≤ lead n (s[0]?.getD 0) := by
  unfold lv at h0
  split at h0
  · omega
  · split at h0
    · omega
    · omega
theorem take_two (s : List Int) (h : 2 ≤ s.length) : s.take 2 = [s[0]?.getD 0, s[1]?.getD 0] := by
  rw [take_snoc s 1 (by omega), take_snoc s 0 (by omega)]; simp
theorem take_three (s : List Int) (h : 3 ≤ s.length) : s.take 3 = [s[0]?.getD 0, s[1]?.getD 0, s[2]?.getD 0] := by
  rw [take_snoc s 2 (by omega), take_two s (by omega)]; simp
theorem take_four (s : List Int) (h : 4 ≤ s.length) : s.take 4 = [s[0]?.getD 0, s[1]?.getD 0, s[2]?.getD 0, s[3]?.getD 0] := by
  rw [take_snoc s 3 (by omega), take_three s (by omega)]; simp

theorem enc_lv {s : List Int} {n : Nat} (hby : Bys s) (h1 : 1 ≤ n) (h4 : n ≤ 4) (h : hit s n = true) : enc (lv s n) = s.take n ∧ okPt (lv s n) = true := by
  have h0 := hit_pos h
  have hnd : need (lv s n) = n := by
    simp only [hit, Bool.and_eq_true, beq_iff_eq] at h; exact h.2
  have hok : okPt (lv s n) = true := by
    cases ho : okPt (lv s n)
    · have : need (lv s n) = 0 := by simp [need, ho]
      omega
    · rfl
  refine ⟨?_, hok⟩
  obtain ⟨hl, hle⟩ := lv_lead0 h0
  have b0 := hby.get 0
  have hgo := lv_goes h0
  by_cases e1 : n = 1
  · subst e1
    have hp := need_one hok hnd
    have hc : s[0]?.getD 0 < 128 := by
      apply Classical.byContradiction
      intro hh
      rw [lead_no 1 _ (by omega) (by omega) (by omega) (by omega)] at hle; omega
    have hv := (fs_one hl b0.1 hc).2
    rw [hv, enc1 _ hc]
    rw [take_snoc s 0 (by omega)]; simp
  · by_cases e2 : n = 2
    · subst e2
      have hp := need_two hok hnd
      have hc : s[0]?.getD 0 / 32 = 6 := by
        apply Classical.byContradiction
        intro hh
        rw [lead_no 2 _ (by omega) (by omega) (by omega) (by omega)] at hle; omega
      have g1 := hgo 1 (by omega) (by omega)
      have hv := lv2 hc g1
      have b1 := hby.get 1
      have d1 := g1.2
      rw [enc2 _ hp.1 hp.2, take_two s hl, hv]
      simp only [List.cons.injEq, and_true]
      omega
    · by_cases e3 : n = 3
      · subst e3
        have hp := need_three hok hnd
        have hc : s[0]?.getD 0 / 16 = 14 := by
          apply Classical.byContradiction
          intro hh
          rw [lead_no 3 _ (by omega) (by omega) (by omega) (by omega)] at hle; omega
        have g1 := hgo 1 (by omega) (by omega)
        have g2 := hgo 2 (by omega) (by omega)
        have hv := lv3 hc g1 g2
        have b1 := hby.get 1
        have b2 := hby.get 2
        have d1 := g1.2
        have d2 := g2.2
        rw [enc3 _ hp.1 hp.2, take_three s hl, hv]
        simp only [List.cons.injEq, and_true]
        omega
      · have e4 : n = 4 := by omega
        subst e4
        have hp := need_four hok hnd
        have hc : s[0]?.getD 0 / 8 = 30 := by
          apply Classical.byContradiction
          intro hh
          rw [lead_no 4 _ (by omega) (by omega) (by omega) (by omega)] at hle; omega
        have g1 := hgo 1 (by omega) (by omega)
        have g2 := hgo 2 (by omega) (by omega)
        have g3 := hgo 3 (by omega) (by omega)
        have hv := lv4 hc g1 g2 g3
        have b1 := hby.get 1
        have b2 := hby.get 2
        have b3 := hby.get 3
        have d1 := g1.2
        have d2 := g2.2
        have d3 := g3.2
        rw [enc4 _ hp, take_four s hl, hv]
        simp only [List.cons.injEq, and_true]
        omega
theorem fsize_hit {s : List Int} (h : fsize s ≠ 0) : hit s (fsize s) = true := by
  unfold fsize at h ⊢
  split
  · assumption
  · split
    · assumption
    · split
      · assumption
      · split
        · assumption
        · simp_all
theorem enc_all (f : Nat) : ∀ (s : List Int) (k : Nat), Bys s → s.length ≤ f → err f s k = none → encAll (pts f s) = s ∧ (pts f s).all okPt = true := by
  induction f with
  | zero =>
    intro s k _ hl _
    have : s = [] := List.eq_nil_of_length_eq_zero (by omega)
    subst this; simp [pts, encAll]
  | succ f ih =>
    intro s k hby hl he
    by_cases hs : s = []
    · subst hs; simp [pts_nil, encAll]
    · by_cases hf : fsize s = 0
      · rw [err_bad hs hf] at he; cases he
      · rw [err_go hs hf] at he
        rw [pts_go hs hf]
        have h4 := fsize_four s
        have hh := enc_lv hby (by omega) h4 (fsize_hit hf)
        have hi := ih (s.drop (fsize s)) (k + fsize s) (fun z hz => hby z (List.mem_of_mem_drop hz)) (by rw [List.length_drop]; omega) he
        have e : encAll (lv s (fsize s) :: pts f (s.drop (fsize s))) = enc (lv s (fsize s)) ++ encAll (pts f (s.drop (fsize s))) := by simp [encAll]
        rw [e, hh.1, hi.1, List.take_append_drop]
        exact ⟨rfl, by simp [hh.2, hi.2]⟩
theorem bytes_back {c : List Int} (hby : Bys c) (h : (decR c).2.1 = 0) : encR (decR c).1 = (c, 0) := by
  cases he : err c.length c 0 with
  | none =>
    rw [decR_ok he]
    have := enc_all c.length c 0 hby (Nat.le_refl _) he
    rw [encR_ok _ this.2, this.1]
  | some k => rw [decR_bad he] at h; simp at h
theorem width_bad {c : List Int} (h : (decR c).2.1 ≠ 0) : widthR c = -1 := by unfold widthR; rw [if_neg h]

end Go.Proofs.YtgmjpdejfdldlaaDoor

