import Derived.Deep.RegionWith
import Derived.Test.YtbiiopiaglkicaaDoorMAB
import Derived.Test.YtbiiopiaglkicaaDoorMAV
namespace Go.Proofs.YtbiiopiaglkicaaDoor
open Go.RowKit

set_option maxHeartbeats 1000000 in
set_option maxRecDepth 100000 in
theorem beginLine_any (pb : Nat) (w0 w : World) (a0 a1 a2 a3 wv tv hv : Value) (ts : List Tk) (tx : List Int) (col : Int) (ch : List Int) (h : Pr pb w0 w a0 a1 a2 a3 wv tv hv ts tx col ch) (ind : Int) (hi0 : 0 ≤ ind) (hi1 : ind ≤ 4000) (hl : tx.length ≤ 600000000) :
    Calls Tryd.prog 71 #[.pointer (some ⟨pb, 0, none⟩), .int .i64 ind] w fun e w' => e = .returned (.tuple #[]) ∧ ∃ tv', Pr pb w0 w' a0 a1 a2 a3 wv tv' hv ts (tx ++ List.replicate ind.toNat 32) ind ch := by
  obtain ⟨i0, hi, hz0, hz1, hz2⟩ := info_parts info5
  have HP := hidN h
  obtain ⟨m, hm⟩ : ∃ m : Nat, ind = (m : Int) := ⟨ind.toNat, by omega⟩
  subst hm
  rw [Int.toNat_natCast]
  clear h
  go_enter Tryd.func71, Tryd.ntmps71
  go_wp2
  go_loopw [5] (fun i wr => ∃ (k : Nat) (tv' : Value), k ≤ m ∧ i = .int .i64 k ∧ Pr pb w0 wr a0 a1 a2 a3 wv tv' hv ts (tx ++ List.replicate k 32) col ch) (fun i _ => m - (intOf i).toNat)
  case atStart => exact ⟨0, tv, Nat.zero_le _, rfl, by simpa using HP.out⟩
  case round =>
    obtain ⟨k, tv', hk, rfl, hP⟩ := hrel
    have HQ := hidN hP
    have c5 := hP.c5
    have f5 := hP.fz 5
    have c6 := hP.c6
    have f6 := hP.fz 6
    have hlt := hP.lt
    have htl := World.ownsRow.lt hP.trow
    by_cases hkm : k < m
    · obtain ⟨ta, tcap, htf, _, _⟩ := row_form hP.trow
      have hlen : (tx ++ List.replicate k 32).length ≤ 600004000 := by simp; omega
      have hsn : tx ++ List.replicate (k + 1) 32 = (tx ++ List.replicate k 32) ++ [32] := by rw [List.replicate_succ', List.append_assoc]
      have hgI2 : wr.grownBy (wr.alloc (.cells #[.int .u8 32] 5)) none := World.grownBy_alloc _ _ _
      have hne : tv'.ownBlock ≠ some pb := fun e => by have := htl pb e; omega
      have HNe := hidN hne
      have hrow : wr.ownsRow (pb + 1) 5 1 tv' (tx ++ List.replicate k 32).length ((tx ++ List.replicate k 32).map (Value.int .u8)) := hP.trow
      have HRow := hidN hrow
      have c5a := hgI2.cell c5 (by simp)
      have f5a : (wr.alloc (.cells #[.int .u8 32] 5)).frozen? ⟨pb, 5, none⟩ = false := (World.frozen?_of_block (hgI2.block pb hlt (by simp))).trans f5
      have HG2 := hidN hgI2
      have HSn := hidN hsn
      subst htf
      clear hne hP hsn c6 f6 hrow hgI2
      generalize hX : tx ++ List.replicate k 32 = X at *
      clear hX
      go_wp2_with (at_builtin; refine wpList_append_own_at _ rfl _ _ 24 rfl (pb + 1) 5 i0 (.int .u8 0) 1 1 Tryd.underlying24 hi hz0 hz1 hz2 rfl (by decide) _ _ _ rfl (World.ownsRow.alloc HRow.out _) ⟨wr.heap.size, 0, none⟩ 1 1 [.int .u8 32] rfl rfl (cells_sole _ _ _) (by intro u hu; simp at hu; subst hu; rfl) (by unfold maxLen; omega) (by omega) (by simp; omega) ?_; intro v1 w1 hown1 hgrow1 _ hat1; have x5 := hgrow1.cell c5a (fun e => HNe.out e.symm); have y5 : w1.frozen? ⟨pb, 5, none⟩ = false := (World.frozen?_of_block (hgrow1.block pb (by simp; omega) (fun e => HNe.out e.symm))).trans f5a; obtain ⟨va, vcap, hv1, _, _⟩ := row_form hown1; subst hv1)
      go_roundw
      case rel =>
        refine ⟨k + 1, .slice va (X.length + 1) vcap, by omega, by go_num, ?_⟩
        rw [HSn.out]
        refine Pr.text (HQ.out.keep HG2.out) (tv' := .slice va (X.length + 1) vcap) hgrow1 ?_ ?_
        · unfold OwB Ow
          rw [List.map_append, List.length_append]
          exact hown1
        · rcases hat1 with e | e
          · exact .inl e
          · exact .inr ⟨_, e, by simp⟩
      case measure => simp [intOf]; omega
    · have hkm2 : k = m := by omega
      subst hkm2
      clear hP
      go_wp2
      go_returns
      exact ⟨rfl, tv', HQ.out.column _⟩

set_option maxHeartbeats 1000000 in
set_option maxRecDepth 100000 in
theorem note_any (pb : Nat) (w0 w : World) (a0 a1 : Value) (nb : Nat) (a3 wv tv : Value) (g cap l : Nat) (ts : List Tk) (tx : List Int) (col : Int) (ch : List Int) (h : Pr pb w0 w a0 a1 (.map (some nb)) a3 wv tv (.slice (some ⟨g, 0, none⟩) l cap) ts tx col ch)
    (b : Nat) (fl : Bool) (j : Nat) (hL : ∀ W, w.grownBy W none → (Instr.lookup 70 (.map (some nb)) (.pointer (some ⟨b, 0, none⟩)) false).run Tryd.prog W = .ok (.int .i64 (j : Int)) W) (hl : l = ch.length) (hj : j < ch.length) (hlc : ch.length ≤ 1000000) :
    Calls Tryd.prog 90 #[.pointer (some ⟨pb, 0, none⟩), .pointer (some ⟨b, 0, none⟩), .bool fl] w fun e w' => e = .returned (.tuple #[]) ∧ Pr pb w0 w' a0 a1 (.map (some nb)) a3 wv tv (.slice (some ⟨g, 0, none⟩) l cap) ts tx col (ch.set j (if fl then 1 else 2)) ∧ w'.heap.size = w.heap.size ∧ ∀ k, k ≠ g → w'.heap[k]? = w.heap[k]? := by
  have c2 := h.c2
  have c7 := h.c7
  have hD := hL w.drew ⟨rfl, rfl, rfl, Nat.le_refl _, fun _ _ _ => rfl⟩
  have HP := hidN h
  obtain ⟨x, hx⟩ : ∃ x, ch[j]? = some x := ⟨_, List.getElem?_eq_getElem hj⟩
  subst hl
  have hrow : OwI (pb + 1) w (.slice (some ⟨g, 0, none⟩) ch.length cap) ch := h.hrow
  have h2 : w.ownsRow (pb + 1) 3 1 (.slice (some ⟨g, 0, none⟩) ch.length cap) ch.length (ch.map (Value.int .i64)) := hrow
  have hc := World.ownsRow.cellAt h2 j (by omega)
  rw [List.getElem?_map, hx] at hc
  simp only [Option.map_some] at hc
  have hf := World.ownsRow.frozenAt h2 j
  have HFin : Hid (∀ x, Pr pb w0 (w.setCell ⟨g, j, none⟩ (.int .i64 x)).drew a0 a1 (.map (some nb)) a3 wv tv (.slice (some ⟨g, 0, none⟩) ch.length cap) ts tx col (ch.set j x)) := fun x => (h.choice rfl j x).keep ⟨rfl, rfl, rfl, Nat.le_refl _, fun _ _ _ => rfl⟩
  have hwj : IntKind.i64.wrap (j : Int) = (j : Int) := by simp [IntKind.wrap, IntKind.bits, IntKind.signed]; omega
  clear h hrow h2 hx hL
  cases fl
  · go_enter Tryd.func90, Tryd.ntmps90
    go_wp2
    go_region
    all_goals
      go_wp2
      go_returns
      exact ⟨rfl, HFin.out 2, by simp, fun k hk => heap_setCell_other w ⟨g, j, none⟩ k _ (fun e => hk (by simpa using e))⟩
  · go_enter Tryd.func90, Tryd.ntmps90
    go_wp2
    go_region
    all_goals
      go_wp2
      go_returns
      exact ⟨rfl, HFin.out 1, by simp, fun k hk => heap_setCell_other w ⟨g, j, none⟩ k _ (fun e => hk (by simpa using e))⟩

end Go.Proofs.YtbiiopiaglkicaaDoor

namespace Go.Proofs.YtbiiopiaglkicaaDoor
open Go.RowKit

set_option maxHeartbeats 1000000 in
set_option maxRecDepth 100000 in
theorem layoutFn_any (cb : Nat) (width g line : Int) (w : World) (hc : w.cell? ⟨cb, 0, none⟩ = some (.int .i64 width)) :
    Calls Tryd.prog 42 #[.int .i64 g, .int .i64 line, .pointer (some ⟨cb, 0, none⟩)] w fun e w' => e = .returned (.bool (decide (line ≤ width))) ∧ w = w' := by
  go_enter Tryd.func42, Tryd.ntmps42
  go_wp2
  go_ret
  exact ⟨rfl, rfl⟩

theorem enter_layout (args : Array Value) (W : World) : (callFunc 42 args).run Tryd.prog W = .ok (.enter 42 args) W := by kernel_rfl

/-- What the printer asks for a group: nothing where it can't be flat. -/
def canR (fw col bw : Int) (d : Int → Bool) : Bool := if fw = -1 then false else d (col + fw + bw)

set_option maxHeartbeats 1000000 in
set_option maxRecDepth 100000 in
theorem canStay_any (pb : Nat) (w0 w : World) (fb nb cf : Nat) (a1 cap : Value) (wv tv hv : Value) (ts : List Tk) (tx : List Int) (col : Int) (ch : List Int) (h : Pr pb w0 w (.map (some fb)) a1 (.map (some nb)) (.func (.func cf) #[] #[cap]) wv tv hv ts tx col ch)
    (b : Nat) (bw : Int) (be : Bool) (fw : Int) (hF : ∀ W, w.grownBy W none → (Instr.lookup 68 (.map (some fb)) (.iface 146 (.pointer (some ⟨b, 0, none⟩))) false).run Tryd.prog W = .ok (.int .i64 fw) W) (j : Nat)
    (hL : ∀ W, w.grownBy W none → (Instr.lookup 70 (.map (some nb)) (.pointer (some ⟨b, 0, none⟩)) false).run Tryd.prog W = .ok (.int .i64 (j : Int)) W) (d : Int → Bool)
    (hC : ∀ W, w.grownBy W none → Calls Tryd.prog cf #[.int .i64 (j : Int), .int .i64 (col + fw + bw), cap] W fun e w' => e = .returned (.bool (d (col + fw + bw))) ∧ W = w')
    (hE : ∀ (args : Array Value) (W : World), (callFunc cf args).run Tryd.prog W = .ok (.enter cf args) W) (hfb : -1 ≤ fw ∧ fw ≤ 1000000) (hcb : -1000000 ≤ col ∧ col ≤ 1000000) (hbb : -1000000 ≤ bw ∧ bw ≤ 1000000) :
    Calls Tryd.prog 89 #[.pointer (some ⟨pb, 0, none⟩), .pointer (some ⟨b, 0, none⟩), .agg #[.int .i64 bw, .bool be]] w fun e w' => e = .returned (.bool (canR fw col bw d)) ∧ w.grownBy w' none := by
  have hg0 : w.grownBy (w.alloc (.cells #[.int .i64 bw, .bool be] 120)) none := World.grownBy_alloc _ _ _
  have hgq : ∀ q, w.grownBy ((w.alloc (.cells #[.int .i64 bw, .bool be] 120)).drewN q) none := fun q => grown_drewN hg0 q
  have HGq := hidN hgq
  have c0 := hg0.cell h.c0 (by simp)
  have c2 := hg0.cell h.c2 (by simp)
  have c3 := hg0.cell h.c3 (by simp)
  have c6 := hg0.cell h.c6 (by simp)
  have hlt := h.lt
  have hA := hF _ hg0
  have hLq : ∀ q, _ := fun q => hL _ (hgq q)
  have hCq : ∀ q, Calls Tryd.prog cf #[.int .i64 (j : Int), .int .i64 (col + fw + bw), cap] ((w.alloc (.cells #[.int .i64 bw, .bool be] 120)).drewN q) fun e w' => e = .returned (.bool (d (col + fw + bw))) ∧ w' = (w.alloc (.cells #[.int .i64 bw, .bool be] 120)).drewN q :=
    fun q => (hC _ (hgq q)).mono fun e w' h => ⟨h.1, h.2.symm⟩
  have HCq := hidN hCq
  by_cases hfw : fw = -1
  · have HR : Hid (canR fw col bw d = false) := by unfold Hid canR; rw [if_pos hfw]
    have e1 : (fw != -1) = false := by rw [hfw]; rfl
    clear h hF hL hC hg0 hgq hCq hfw
    go_enter Tryd.func89, Tryd.ntmps89
    go_wp2_with fail
    go_quiet (fail)
    go_wp2
    go_ret
    exact ⟨by rw [HR.out]; rfl, HGq.out _⟩
  · have HR : Hid (canR fw col bw d = d (col + fw + bw)) := by unfold Hid canR; rw [if_neg hfw]
    have e1 : (fw != -1) = true := by simpa using hfw
    have hw1 : IntKind.i64.wrap (col + fw) = col + fw := by simp [IntKind.wrap, IntKind.bits, IntKind.signed]; omega
    have hw2 : IntKind.i64.wrap (col + fw + bw) = col + fw + bw := by simp [IntKind.wrap, IntKind.bits, IntKind.signed]; omega
    clear h hF hL hC hg0 hgq hCq hfw
    go_enter Tryd.func89, Tryd.ntmps89
    go_wp2_with fail
    go_quiet (refine Calls.quiet_of_same (HCq.out _))
    go_wp2
    go_ret
    exact ⟨by rw [HR.out]; rfl, HGq.out _⟩

end Go.Proofs.YtbiiopiaglkicaaDoor

namespace Go.Proofs.YtbiiopiaglkicaaDoor

/-- How many groups a tree holds. -/
def cntG : Tr → Nat
  | .leaf _ => 0
  | .un p x => cntG x + (if p.k = 8 then 1 else 0)
  | .bin _ x y => cntG x + cntG y

/-- How many groups stand before place i. -/
def grp (doc : List Pc) (i : Nat) : Nat := ((doc.take i).filter (fun p => p.k == 8)).length

theorem grp_zero (doc : List Pc) : grp doc 0 = 0 := by simp [grp]
theorem grp_succ (doc : List Pc) (i : Nat) (h : i < doc.length) : grp doc (i + 1) = grp doc i + (if doc[i].k = 8 then 1 else 0) := by
  unfold grp
  rw [List.take_add_one, List.getElem?_eq_getElem h, List.filter_append, List.length_append]
  congr 1
  by_cases hk : doc[i].k = 8
  · simp [hk]
  · simp [hk]
theorem grp_le (doc : List Pc) (i : Nat) : grp doc i ≤ doc.length := by
  unfold grp
  refine Nat.le_trans (List.length_filter_le _ _) ?_
  rw [List.length_take]
  omega

theorem grp_seg {doc : List Pc} {st : List Int} : ∀ {T : Tr} {a b : Nat}, Seg doc st T a b → grp doc b = grp doc a + cntG T
  | .leaf p, a, b, h => by
    obtain ⟨rfl, hp, har, _⟩ := h
    obtain ⟨hj, hpj⟩ := List.getElem?_eq_some_iff.1 hp
    rw [grp_succ doc a hj, hpj, if_neg (by intro e; rw [e] at har; simp [ar] at har)]
    simp [cntG]
  | .un p x, a, b, h => by
    obtain ⟨m, rfl, hp, har, _, hx⟩ := h
    obtain ⟨hj, hpj⟩ := List.getElem?_eq_some_iff.1 hp
    rw [grp_succ doc m hj, hpj, grp_seg hx]
    simp only [cntG]
    omega
  | .bin p x y, a, b, h => by
    obtain ⟨c, m, rfl, hp, har, _, hx, hy⟩ := h
    obtain ⟨hj, hpj⟩ := List.getElem?_eq_some_iff.1 hp
    rw [grp_succ doc m hj, hpj, if_neg (by intro e; rw [e] at har; simp [ar] at har), grp_seg hy, grp_seg hx]
    simp only [cntG]
    omega

/-- The list of l3groups. -/
def grps (doc : List Pc) (n : Nat) : List Int := (List.range (n + 1)).map fun i => (grp doc i : Int)
theorem grps_len (doc : List Pc) (n : Nat) : (grps doc n).length = n + 1 := by simp [grps]
theorem grps_at (doc : List Pc) (n i : Nat) (h : i ≤ n) : (grps doc n)[i]? = some (grp doc i : Int) := by
  unfold grps
  rw [List.getElem?_map, List.getElem?_range (by omega)]
  rfl
theorem grps_snoc (doc : List Pc) (n : Nat) : grps doc (n + 1) = grps doc n ++ [(grp doc (n + 1) : Int)] := by
  unfold grps
  rw [List.range_succ, List.map_append]
  rfl

/-- What is behind, up to the first line, the next one first. -/
def behind : List Tr → Int
  | [] => 0
  | T :: r => if (leadT T).2 = true then (leadT T).1 else (leadT T).1 + behind r

theorem behind_le (hw : ∀ t, -1 ≤ widthR t ∧ widthR t ≤ t.length) : ∀ (r : List Tr), -(szs r : Int) ≤ behind r ∧ behind r ≤ szs r
  | [] => by simp [behind, szs]
  | T :: r => by
    have h1 := leadT_le hw T; have h2 := behind_le hw r
    simp only [behind, szs]
    split <;> omega

/-- The groups that are met in a part laid out flat get the choice 1. -/
def markF : Tr → Nat → List Int → List Int
  | .leaf _, _, met => met
  | .un p x, n, met => markF x n (if p.k = 8 then met.set (n + cntG x) 1 else met)
  | .bin p x y, n, met => markF y (n + cntG x) (if p.k = 6 then markF x n met else met)

theorem markF_len : ∀ (T : Tr) (n : Nat) (met : List Int), (markF T n met).length = met.length
  | .leaf _, _, _ => rfl
  | .un p x, n, met => by
    simp only [markF]
    rw [markF_len]
    split <;> simp
  | .bin p x y, n, met => by
    simp only [markF]
    rw [markF_len]
    split
    · exact markF_len x n met
    · rfl

def newLine (ind : Int) : List Int := 10 :: List.replicate ind.toNat 32

/-- What is still to be laid out in broken mode: the tree, the groups before it, its indent. -/
structure Item where
  T : Tr
  n : Nat
  ind : Int

/-- The layout: with 'given' it takes the choices, else those of the width. -/
def lay (width : Int) (given : Option (List Int)) : Nat → List Item → List Int → List Int → Int → Option (List Int × List Int)
  | 0, _, _, _, _ => none
  | _ + 1, [], out, met, _ => some (out, met)
  | f + 1, ⟨.leaf p, _, ind⟩ :: rest, out, met, col =>
    if p.k = 1 then lay width given f rest (out ++ p.t) met (col + widthR p.t)
    else if p.k = 5 then lay width given f rest (out ++ [10]) met 0
    else if p.k = 2 ∨ p.k = 3 ∨ p.k = 4 then lay width given f rest (out ++ newLine ind) met ind
    else lay width given f rest out met col
  | f + 1, ⟨.bin p x y, n, ind⟩ :: rest, out, met, col =>
    if p.k = 6 then lay width given f (⟨x, n, ind⟩ :: ⟨y, n + cntG x, ind⟩ :: rest) out met col
    else lay width given f (⟨x, n, ind⟩ :: rest) out met col
  | f + 1, ⟨.un p x, n, ind⟩ :: rest, out, met, col =>
    if p.k = 7 then lay width given f (⟨x, n, ind + p.n⟩ :: rest) out met col
    else
      match given with
      | none =>
        match flatT x [] with
        | some text =>
          if col + widthR text + behind (rest.map (·.T)) ≤ width then lay width given f rest (out ++ text) (markF (.un p x) n met) (col + widthR text)
          else lay width given f (⟨x, n, ind⟩ :: rest) out (met.set (n + cntG x) 2) col
        | none => lay width given f (⟨x, n, ind⟩ :: rest) out (met.set (n + cntG x) 2) col
      | some gs =>
        if gs[n + cntG x]?.getD 0 = 1 then
          match flatT x [] with
          | some text => lay width given f rest (out ++ text) (markF (.un p x) n met) (col + widthR text)
          | none => none
        else if gs[n + cntG x]?.getD 0 = 2 then lay width given f (⟨x, n, ind⟩ :: rest) out (met.set (n + cntG x) 2) col
        else none

end Go.Proofs.YtbiiopiaglkicaaDoor

namespace Go.Proofs.YtbiiopiaglkicaaDoor
open Go.RowKit

/-- What the printer knows of the nodes, at the world wm in which it is made. -/
structure Ctx (B : Nat) (wm : World) (l : List Value) (fb lb nb : Nat) (f0 f1 f2 : Value → Option Value) : Prop where
  once : Once (fun _ => False) wm l
  flats : ∃ n, MapIs wm fb f0 n
  leads : ∃ n, MapIs wm lb f1 n
  nums : P.MapIs wm nb f2 (cntV l)
  t0 : NTab B wm l f0 fwV
  t1 : NTab B wm l f1 ldV
  t2 : GTab l l.length f2

/-- The node v, with the tree T, stands in the list behind n groups. -/
def NodeAt (B : Nat) (wm : World) (l : List Value) (v : Value) (T : Tr) (n : Nat) : Prop :=
  ∃ pre lT post, l = pre ++ lT ++ post ∧ Post wm v T lT ∧ Rep (fun _ => False) B wm v T ∧ n = cntV pre

theorem cntV_app (a b : List Value) : cntV (a ++ b) = cntV a + cntV b := by unfold cntV; rw [List.filter_append, List.length_append]

theorem post_cnt {X : Nat → Prop} {B : Nat} {w : World} : ∀ {T : Tr} {v : Value} {l : List Value}, Rep X B w v T → Post w v T l → cntV l = cntG T
  | .leaf p, v, l, hr, hp => by
    simp only [Post] at hp
    subst hp
    simp only [Rep] at hr
    simp only [cntG]
    rcases hr with h | h | h | h | h | ⟨_, b, tv, h, _⟩
    · rw [h.2]; rfl
    · rw [h.2]; rfl
    · rw [h.2]; rfl
    · rw [h.2]; rfl
    · rw [h.2]; rfl
    · rw [h]; rfl
  | .un p x, v, l, hr, hp => by
    simp only [Rep] at hr
    simp only [Post] at hp
    obtain ⟨b0, u0, h3, h4, h5, h6, h7⟩ := hr
    obtain ⟨t, b, u, l1, hv, k1, k2, k3, k4⟩ := hp
    have hbb : b = b0 := by
      rcases h7 with ⟨_, h7⟩ | ⟨_, h7⟩ <;> (rw [hv] at h7; simp at h7; exact h7.2)
    subst hbb
    have hu : u0 = u := by rw [h5] at k1; exact Option.some.inj k1
    subst hu
    subst k4
    rw [cntV_app, post_cnt h6 k3]
    simp only [cntG]
    rcases h7 with ⟨h7, h8⟩ | ⟨h7, h8⟩
    · rw [h8, if_pos h7]; rfl
    · rw [h8, if_neg (by omega)]; rfl
  | .bin p x y, v, l, hr, hp => by
    simp only [Rep] at hr
    simp only [Post] at hp
    obtain ⟨b0, u0, u0', h3, h4, h5, h5', h6, h6', h7⟩ := hr
    obtain ⟨t, b, u, u', l1, l2, hv, k1, k1', k3, k3', k4⟩ := hp
    have hbb : b = b0 := by
      rcases h7 with ⟨_, h7⟩ | ⟨_, h7⟩ <;> (rw [hv] at h7; simp at h7; exact h7.2)
    subst hbb
    have hu : u0 = u := by rw [h5] at k1; exact Option.some.inj k1
    have hu' : u0' = u' := by rw [h5'] at k1'; exact Option.some.inj k1'
    subst hu hu'
    subst k4
    rw [cntV_app, cntV_app, post_cnt h6 k3, post_cnt h6' k3']
    simp only [cntG]
    have h0 : cntV [v] = 0 := by rcases h7 with ⟨_, h8⟩ | ⟨_, h8⟩ <;> (rw [h8]; rfl)
    rw [h0]
    rfl

section
variable {B : Nat} {wm : World} {l : List Value} {v : Value} {T : Tr} {n : Nat}

theorem NodeAt.rep (h : NodeAt B wm l v T n) : Rep (fun _ => False) B wm v T := by
  obtain ⟨_, _, _, _, _, h, _⟩ := h
  exact h
theorem NodeAt.mem (h : NodeAt B wm l v T n) : v ∈ l := by
  obtain ⟨pre, lT, post, h1, h2, _, _⟩ := h
  obtain ⟨l', h3⟩ := h2.last
  rw [h1, h3]
  simp
theorem NodeAt.key (h : NodeAt B wm l v T n) (ho : Once (fun _ => False) wm l) : NKey wm v := rep_key ho h.mem h.rep

/-- A node with one operand. -/
theorem NodeAt.un {p : Pc} {x : Tr} (h : NodeAt B wm l v (.un p x) n) :
    ∃ b u, wm.cell? ⟨b, 0, none⟩ = some u ∧ NodeAt B wm l u x n ∧
      ((p.k = 8 ∧ v = gVal b ∧ ∀ f2, GTab l l.length f2 → f2 (.pointer (some ⟨b, 0, none⟩)) = some (.int .i64 ((n + cntG x : Nat) : Int))) ∨ (p.k = 7 ∧ v = .iface 141 (.pointer (some ⟨b, 0, none⟩)) ∧ wm.cell? ⟨b, 1, none⟩ = some (.int .i64 p.n))) := by
  obtain ⟨pre, lT, post, h1, hp, hr, hn⟩ := h
  have hr0 := hr
  simp only [Rep] at hr
  simp only [Post] at hp
  obtain ⟨b0, u0, h3, h4, h5, h6, h7⟩ := hr
  obtain ⟨t, b, u, l1, hv, k1, k2, k3, k4⟩ := hp
  have hbb : b = b0 := by
    rcases h7 with ⟨_, h7⟩ | ⟨_, h7⟩ <;> (rw [hv] at h7; simp at h7; exact h7.2)
  subst hbb
  have hu : u0 = u := by rw [h5] at k1; exact Option.some.inj k1
  subst hu
  refine ⟨b, u0, h5, ⟨pre, l1, [v] ++ post, by rw [h1, k4]; simp, k3, h6, hn⟩, ?_⟩
  rcases h7 with ⟨h7, h8⟩ | ⟨h7, h8⟩
  · refine .inl ⟨h7, h8, fun f2 hg => ?_⟩
    have hi : l[(pre ++ l1).length]? = some (gVal b) := by
      rw [h1, k4, show pre ++ (l1 ++ [v]) ++ post = (pre ++ l1) ++ ([v] ++ post) by simp, List.getElem?_append_right (Nat.le_refl _), h8]
      simp [gVal]
    have := hg.at_ (pre ++ l1).length b (List.getElem?_eq_some_iff.1 hi).1 hi
    rw [this]
    have ht : l.take (pre ++ l1).length = pre ++ l1 := by
      rw [h1, k4, show pre ++ (l1 ++ [v]) ++ post = (pre ++ l1) ++ ([v] ++ post) by simp]
      exact List.take_left
    rw [ht, cntV_app, post_cnt h6 k3, hn]
  · exact .inr ⟨h7, h8, k2 h7⟩

/-- A node with two. -/
theorem NodeAt.bin {p : Pc} {x y : Tr} (h : NodeAt B wm l v (.bin p x y) n) :
    ∃ b u u', wm.cell? ⟨b, 0, none⟩ = some u ∧ wm.cell? ⟨b, 1, none⟩ = some u' ∧ NodeAt B wm l u x n ∧ NodeAt B wm l u' y (n + cntG x) ∧
      ((p.k = 6 ∧ v = .iface 149 (.pointer (some ⟨b, 0, none⟩))) ∨ (p.k = 9 ∧ v = .iface 153 (.pointer (some ⟨b, 0, none⟩)))) := by
  obtain ⟨pre, lT, post, h1, hp, hr, hn⟩ := h
  simp only [Rep] at hr
  simp only [Post] at hp
  obtain ⟨b0, u0, u0', h3, h4, h5, h5', h6, h6', h7⟩ := hr
  obtain ⟨t, b, u, u', l1, l2, hv, k1, k1', k3, k3', k4⟩ := hp
  have hbb : b = b0 := by
    rcases h7 with ⟨_, h7⟩ | ⟨_, h7⟩ <;> (rw [hv] at h7; simp at h7; exact h7.2)
  subst hbb
  have hu : u0 = u := by rw [h5] at k1; exact Option.some.inj k1
  have hu' : u0' = u' := by rw [h5'] at k1'; exact Option.some.inj k1'
  subst hu hu'
  refine ⟨b, u0, u0', h5, h5', ⟨pre, l1, l2 ++ [v] ++ post, by rw [h1, k4]; simp, k3, h6, hn⟩, ⟨pre ++ l1, l2, [v] ++ post, by rw [h1, k4]; simp, k3', h6', ?_⟩, h7⟩
  rw [cntV_app, post_cnt h6 k3, hn]
end

section
variable {B : Nat} {wm : World} {l : List Value} {fb lb nb : Nat} {f0 f1 f2 : Value → Option Value}

set_option maxRecDepth 100000 in
theorem Ctx.flat (h : Ctx B wm l fb lb nb f0 f1 f2) {v : Value} {T : Tr} {n : Nat} (hv : NodeAt B wm l v T n) {W : World} (hW : wm.grownBy W none) :
    (Instr.lookup 68 (.map (some fb)) v false).run Tryd.prog W = .ok (.int .i64 (flatW T)) W := by
  obtain ⟨m, hm⟩ := h.flats
  have := (hm.keep hW).run_lookup (z := .int .i64 0) Tryd.underlying68 rfl ((hv.key h.once).keep hW)
  rw [h.t0 v hv.mem T hv.rep] at this
  exact this
set_option maxRecDepth 100000 in
theorem Ctx.lead (h : Ctx B wm l fb lb nb f0 f1 f2) {v : Value} {T : Tr} {n : Nat} (hv : NodeAt B wm l v T n) {W : World} (hW : wm.grownBy W none) :
    (Instr.lookup 69 (.map (some lb)) v false).run Tryd.prog W = .ok (.agg #[.int .i64 (leadT T).1, .bool (leadT T).2]) W := by
  obtain ⟨m, hm⟩ := h.leads
  have := (hm.keep hW).run_lookup (z := .agg #[.int .i64 0, .bool false]) Tryd.underlying69 rfl ((hv.key h.once).keep hW)
  rw [h.t1 v hv.mem T hv.rep] at this
  exact this
set_option maxRecDepth 100000 in
theorem Ctx.num (h : Ctx B wm l fb lb nb f0 f1 f2) {b j : Nat} (hm : gVal b ∈ l) (hf : f2 (.pointer (some ⟨b, 0, none⟩)) = some (.int .i64 (j : Int))) {W : World} (hW : wm.grownBy W none) :
    (Instr.lookup 70 (.map (some nb)) (.pointer (some ⟨b, 0, none⟩)) false).run Tryd.prog W = .ok (.int .i64 (j : Int)) W := by
  obtain ⟨_, cs, t', hb⟩ := h.once.lt _ _ hm
  have := (h.nums.keep hW).run_lookup (z := .int .i64 0) Tryd.underlying70 rfl ((P.NKey.ptr b cs t' hb).keep hW)
  rw [hf] at this
  exact this
end

end Go.Proofs.YtbiiopiaglkicaaDoor

namespace Go.Proofs.YtbiiopiaglkicaaDoor
open Go.RowKit

theorem grown_drew {a b : World} {r : Option Nat} (h : a.grownBy b r) : a.grownBy b.drew r := ⟨h.os, h.tape, h.output, h.size, h.block⟩
theorem cell_any {w : World} {a : Addr} {u : Value} (h : w.cell? a = some u) : ∀ o, (w.alloc o).cell? a = some u := fun o => cell_alloc1 o h

set_option maxHeartbeats 2000000 in
set_option maxRecDepth 100000 in
theorem lay_nest (B pb : Nat) (wm w : World) (hpb : pb = wm.heap.size) (l : List Value) (a0 a1 a2 a3 wv tv hv : Value) (ts : List Tk) (tx : List Int) (col : Int) (ch : List Int) (h : Pr pb wm w a0 a1 a2 a3 wv tv hv ts tx col ch)
    (v : Value) (p : Pc) (x : Tr) (n : Nat) (ind : Int) (fl : Bool) (bw : Int) (be : Bool) (hn : NodeAt B wm l v (.un p x) n) (hk : p.k = 7) (hi : 0 ≤ ind ∧ ind ≤ 4000) (hp : 0 ≤ p.n ∧ p.n ≤ 4000) (hl : ts.length ≤ 1000000) :
    Calls Tryd.prog 74 #[.pointer (some ⟨pb, 0, none⟩), agg5 v ind fl bw be] w fun e w' => e = .returned (.tuple #[]) ∧ ∃ u wv', NodeAt B wm l u x n ∧ Pr pb wm w' a0 a1 a2 a3 wv' tv hv (ts ++ [⟨u, x, n, ind + p.n, fl, bw, be⟩]) tx col ch := by
  subst hpb
  obtain ⟨b, u, c0, hu, hvv⟩ := hn.un
  rcases hvv with ⟨h1, _⟩ | ⟨_, hv0, c1⟩
  · omega
  have hgm := grown_of_below h.bel
  have c0r := cell_any (hgm.cell c0 (by simp))
  have c1r := cell_any (hgm.cell c1 (by simp))
  have HGD : Hid (∀ o, w.grownBy (w.alloc o).drew.drew none) := fun o => grown_drew (grown_drew (World.grownBy_alloc _ _ _))
  obtain ⟨tu, yu, hform⟩ := hu.rep.form
  subst hform
  subst hv0
  obtain ⟨e1, e2, e3, e4, e5, e6, e7, e8, e9, e10⟩ := tas_nest (.pointer (some ⟨b, 0, none⟩))
  have hlt := h.lt
  have HP := hidN h
  have HU := hidN hu
  have hO := of_any 141 tu (.pointer (some ⟨b, 0, none⟩)) yu (ind + p.n) fl bw be
  have HO := hidN hO
  unfold agg5 at *
  clear h hn hu c0 c1 hgm hO
  go_enter Tryd.func74, Tryd.ntmps74
  go_wp2_with fail
  go_region
  go_wp2_with fail
  go_region_with (first | (go_at_call 88; refine (HO.out _).mono ?_; rintro e w2 ⟨rfl, g2⟩) | (go_at_call 70; refine (pushT_any _ wm w2 _ _ _ _ _ _ _ _ _ _ _ (HP.out.keep (grown_trans (HGD.out _) g2)) ⟨.iface tu yu, x, n, ind + p.n, fl, bw, be⟩ ⟨_, _, rfl⟩ hl).mono ?_; rintro e w3 ⟨rfl, ⟨wv', hP3, _⟩, _, _⟩))
  all_goals
    go_wp2
    go_returns
    exact ⟨rfl, .iface tu yu, wv', HU.out, hP3⟩

set_option maxHeartbeats 2000000 in
set_option maxRecDepth 100000 in
theorem lay_alt (B pb : Nat) (wm w : World) (hpb : pb = wm.heap.size) (l : List Value) (a0 a1 a2 a3 wv tv hv : Value) (ts : List Tk) (tx : List Int) (col : Int) (ch : List Int) (h : Pr pb wm w a0 a1 a2 a3 wv tv hv ts tx col ch)
    (v : Value) (p : Pc) (x y : Tr) (n : Nat) (ind : Int) (fl : Bool) (bw : Int) (be : Bool) (hn : NodeAt B wm l v (.bin p x y) n) (hk : p.k = 9) (hl : ts.length ≤ 1000000) :
    Calls Tryd.prog 74 #[.pointer (some ⟨pb, 0, none⟩), agg5 v ind fl bw be] w fun e w' => e = .returned (.tuple #[]) ∧ ∃ u wv', NodeAt B wm l u (if fl then y else x) (if fl then n + cntG x else n) ∧ Pr pb wm w' a0 a1 a2 a3 wv' tv hv (ts ++ [⟨u, if fl then y else x, if fl then n + cntG x else n, ind, fl, bw, be⟩]) tx col ch := by
  subst hpb
  obtain ⟨b, u, u', c0, c1, hu, hu', hvv⟩ := hn.bin
  rcases hvv with ⟨h1, _⟩ | ⟨_, hv0⟩
  · omega
  have hgm := grown_of_below h.bel
  have c0r := cell_any (hgm.cell c0 (by simp))
  have c1r := cell_any (hgm.cell c1 (by simp))
  have HGD : Hid (∀ o, w.grownBy (w.alloc o).drew none) := fun o => grown_drew (World.grownBy_alloc _ _ _)
  obtain ⟨tu, yu, hform⟩ := hu.rep.form
  obtain ⟨tu', yu', hform'⟩ := hu'.rep.form
  subst hform hform'
  subst hv0
  obtain ⟨e1, e2, e3, e4, e5, e6, e7, e8, e9, e10⟩ := tas_alt (.pointer (some ⟨b, 0, none⟩))
  have hlt := h.lt
  have HP := hidN h
  have HU := hidN hu
  have HU' := hidN hu'
  have HO := hidN (of_any 153 tu (.pointer (some ⟨b, 0, none⟩)) yu ind fl bw be)
  have HO' := hidN (of_any 153 tu' (.pointer (some ⟨b, 0, none⟩)) yu' ind fl bw be)
  unfold agg5 at *
  clear h hn hu hu' c0 c1 hgm
  cases fl
  · go_enter Tryd.func74, Tryd.ntmps74
    go_wp2_with fail
    go_region_with (first | (go_at_call 88; refine (HO.out _).mono ?_; rintro e w2 ⟨rfl, g2⟩) | (go_at_call 70; refine (pushT_any _ wm w2 _ _ _ _ _ _ _ _ _ _ _ (HP.out.keep (grown_trans (HGD.out _) g2)) ⟨.iface tu yu, x, n, ind, false, bw, be⟩ ⟨_, _, rfl⟩ hl).mono ?_; rintro e w3 ⟨rfl, ⟨wv', hP3, _⟩, _, _⟩))
    all_goals
      go_wp2
      go_returns
      exact ⟨rfl, .iface tu yu, HU.out, wv', hP3⟩
  · go_enter Tryd.func74, Tryd.ntmps74
    go_wp2_with fail
    go_region_with (first | (go_at_call 88; refine (HO'.out _).mono ?_; rintro e w2 ⟨rfl, g2⟩) | (go_at_call 70; refine (pushT_any _ wm w2 _ _ _ _ _ _ _ _ _ _ _ (HP.out.keep (grown_trans (HGD.out _) g2)) ⟨.iface tu' yu', y, n + cntG x, ind, true, bw, be⟩ ⟨_, _, rfl⟩ hl).mono ?_; rintro e w3 ⟨rfl, ⟨wv', hP3, _⟩, _, _⟩))
    all_goals
      go_wp2
      go_returns
      exact ⟨rfl, .iface tu' yu', HU'.out, wv', hP3⟩

end Go.Proofs.YtbiiopiaglkicaaDoor

