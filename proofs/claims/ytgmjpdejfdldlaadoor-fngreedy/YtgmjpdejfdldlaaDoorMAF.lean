import Derived.Handy
import Derived.Maps.AppendAt
import Derived.Test.YtgmjpdejfdldlaaDoorMAE
namespace Go.Proofs.YtgmjpdejfdldlaaDoor

/-- How many groups a tree holds. -/
def cntG : Tr → Nat
  | .leaf _ => 0
  | .un p x => cntG x + (if p.k = 8 then 1 else 0)
  | .bin _ x y => cntG x + cntG y

/-- How many groups stand before place i. -/
def grp (doc : List Pc) (i : Nat) : Nat := ((doc.take i).filter (fun p => p.k == 8)).length

theorem grp_zero (doc : List Pc) : grp doc 0 = 0 := by simp [grp]
theorem grp_succ (doc : List Pc) (i : Nat) (h : i < doc.length) : grp doc (i + 1) = grp doc i + (if doc[i].k = 8 then 1 else 0) := by
  unfold grp
  rw [List.take_add_one, List.getElem?_eq_getElem h, List.filter_append, List.length_append]
  congr 1
  by_cases hk : doc[i].k = 8
  · simp [hk]
  · simp [hk]
theorem grp_le (doc : List Pc) (i : Nat) : grp doc i ≤ doc.length := by
  unfold grp
  refine Nat.le_trans (List.length_filter_le _ _) ?_
  rw [List.length_take]
  omega

theorem grp_seg {doc : List Pc} {st : List Int} : ∀ {T : Tr} {a b : Nat}, Seg doc st T a b → grp doc b = grp doc a + cntG T
  | .leaf p, a, b, h => by
    obtain ⟨rfl, hp, har, _⟩ := h
    obtain ⟨hj, hpj⟩ := List.getElem?_eq_some_iff.1 hp
    rw [grp_succ doc a hj, hpj, if_neg (by intro e; rw [e] at har; simp [ar] at har)]
    simp [cntG]
  | .un p x, a, b, h => by
    obtain ⟨m, rfl, hp, har, _, hx⟩ := h
    obtain ⟨hj, hpj⟩ := List.getElem?_eq_some_iff.1 hp
    rw [grp_succ doc m hj, hpj, grp_seg hx]
    simp only [cntG]
    omega
  | .bin p x y, a, b, h => by
    obtain ⟨c, m, rfl, hp, har, _, hx, hy⟩ := h
    obtain ⟨hj, hpj⟩ := List.getElem?_eq_some_iff.1 hp
    rw [grp_succ doc m hj, hpj, if_neg (by intro e; rw [e] at har; simp [ar] at har), grp_seg hy, grp_seg hx]
    simp only [cntG]
    omega

/-- The list of l3groups. -/
def grps (doc : List Pc) (n : Nat) : List Int := (List.range (n + 1)).map fun i => (grp doc i : Int)
theorem grps_len (doc : List Pc) (n : Nat) : (grps doc n).length = n + 1 := by simp [grps]
theorem grps_at (doc : List Pc) (n i : Nat) (h : i ≤ n) : (grps doc n)[i]? = some (grp doc i : Int) := by
  unfold grps
  rw [List.getElem?_map, List.getElem?_range (by omega)]
  rfl
theorem grps_snoc (doc : List Pc) (n : Nat) : grps doc (n + 1) = grps doc n ++ [(grp doc (n + 1) : Int)] := by
  unfold grps
  rw [List.range_succ, List.map_append]
  rfl

/-- What is behind, up to the first line, the next one first. -/
def behind : List Tr → Int
  | [] => 0
  | T :: r => if (leadT T).2 = true then (leadT T).1 else (leadT T).1 + behind r

theorem behind_le (hw : ∀ t, -1 ≤ widthR t ∧ widthR t ≤ t.length) : ∀ (r : List Tr), -(szs r : Int) ≤ behind r ∧ behind r ≤ szs r
  | [] => by simp [behind, szs]
  | T :: r => by
    have h1 := leadT_le hw T; have h2 := behind_le hw r
    simp only [behind, szs]
    split <;> omega

/-- The groups that are met in a part laid out flat get the choice 1. -/
def markF : Tr → Nat → List Int → List Int
  | .leaf _, _, met => met
  | .un p x, n, met => markF x n (if p.k = 8 then met.set (n + cntG x) 1 else met)
  | .bin p x y, n, met => markF y (n + cntG x) (if p.k = 6 then markF x n met else met)

theorem markF_len : ∀ (T : Tr) (n : Nat) (met : List Int), (markF T n met).length = met.length
  | .leaf _, _, _ => rfl
  | .un p x, n, met => by
    simp only [markF]
    rw [markF_len]
    split <;> simp
  | .bin p x y, n, met => by
    simp only [markF]
    rw [markF_len]
    split
    · exact markF_len x n met
    · rfl

def newLine (ind : Int) : List Int := 10 :: List.replicate ind.toNat 32

/-- What is still to be laid out in broken mode: the tree, the groups before it, its indent. -/
structure Item where
  T : Tr
  n : Nat
  ind : Int

/-- The layout: with 'given' it takes the choices, else those of the width. -/
def lay (width : Int) (given : Option (List Int)) : Nat → List Item → List Int → List Int → Int → Option (List Int × List Int)
  | 0, _, _, _, _ => none
  | _ + 1, [], out, met, _ => some (out, met)
  | f + 1, ⟨.leaf p, _, ind⟩ :: rest, out, met, col =>
    if p.k = 1 then lay width given f rest (out ++ p.t) met (col + widthR p.t)
    else if p.k = 5 then lay width given f rest (out ++ [10]) met 0
    else if p.k = 2 ∨ p.k = 3 ∨ p.k = 4 then lay width given f rest (out ++ newLine ind) met ind
    else lay width given f rest out met col
  | f + 1, ⟨.bin p x y, n, ind⟩ :: rest, out, met, col =>
    if p.k = 6 then lay width given f (⟨x, n, ind⟩ :: ⟨y, n + cntG x, ind⟩ :: rest) out met col
    else lay width given f (⟨x, n, ind⟩ :: rest) out met col
  | f + 1, ⟨.un p x, n, ind⟩ :: rest, out, met, col =>
    if p.k = 7 then lay width given f (⟨x, n, ind + p.n⟩ :: rest) out met col
    else
      match given with
      | none =>
        match flatT x [] with
        | some text =>
          if col + widthR text + behind (rest.map (·.T)) ≤ width then lay width given f rest (out ++ text) (markF (.un p x) n met) (col + widthR text)
          else lay width given f (⟨x, n, ind⟩ :: rest) out (met.set (n + cntG x) 2) col
        | none => lay width given f (⟨x, n, ind⟩ :: rest) out (met.set (n + cntG x) 2) col
      | some gs =>
        if gs[n + cntG x]?.getD 0 = 1 then
          match flatT x [] with
          | some text => lay width given f rest (out ++ text) (markF (.un p x) n met) (col + widthR text)
          | none => none
        else if gs[n + cntG x]?.getD 0 = 2 then lay width given f (⟨x, n, ind⟩ :: rest) out (met.set (n + cntG x) 2) col
        else none

end Go.Proofs.YtgmjpdejfdldlaaDoor

namespace Go.Proofs.YtgmjpdejfdldlaaDoor
open Go.RowKit

theorem grown_set (w : World) (a : Addr) (u : Value) : w.grownBy (w.setCell a u) (some a.block) :=
  ⟨rfl, rfl, rfl, by simp, fun k _ hk => heap_setCell_other w a k u (fun e => hk (by simp [e]))⟩
theorem row_set {B : Nat} {w : World} {e : TypeId} {size n : Nat} {v : Value} {xs : List Value} (h : w.ownsRow B e size v n xs) (a : Addr) (u : Value) (hb : v.ownBlock ≠ some a.block) : (w.setCell a u).ownsRow B e size v n xs :=
  World.ownsRow.kept h (grown_set w a u) (.inr hb)
theorem Ow.set {q : IntKind} {t : TypeId} {B : Nat} {w : World} {v : Value} {zs : List Int} (h : Ow q t B w v zs) (a : Addr) (u : Value) (hb : a.block < B) : Ow q t B (w.setCell a u) v zs :=
  row_set h a u (fun e => by have := World.ownsRow.lt h _ e; omega)
theorem grown_both {W w1 : World} {a : Addr} {v : Value} (hg : W.grownBy w1 none) (h : W.cell? a = some v) (hf : W.frozen? a = false) : w1.cell? a = some v ∧ w1.frozen? a = false :=
  ⟨hg.cell h (by simp), (World.frozen?_of_block (hg.block a.block (World.block_lt_of_cell? W a h) (by simp))).trans hf⟩

/-- One element lies at block b from cell o on; its Text's value is tv. -/
structure PcAt (B : Nat) (w : World) (b o : Nat) (p : Pc) (tv : Value) : Prop where
  k : w.cell? ⟨b, o, none⟩ = some (.int .i64 p.k)
  t : w.cell? ⟨b, o + 1, none⟩ = some tv
  n : w.cell? ⟨b, o + 2, none⟩ = some (.int .i64 p.n)
  rd : RdB B w tv p.t
  sl : Sl tv p.t.length

/-- The slice value v reads as the elements doc; all lies below block B. -/
def RdP (B : Nat) (w : World) (v : Value) (doc : List Pc) : Prop :=
  ∃ a cap, v = .slice a doc.length cap ∧ doc.length ≤ cap ∧ cap ≤ maxLen ∧ (doc ≠ [] → ∃ b off, a = some ⟨b, off, none⟩ ∧ b < B ∧ ∀ j p, doc[j]? = some p → ∃ tv, PcAt B w b (off + j * 3) p tv)

theorem PcAt.beside {B : Nat} {w w' : World} {b o : Nat} {p : Pc} {tv : Value} {row : Option Nat} (h : PcAt B w b o p tv) (hb : b < B) (hg : w.grownBy w' row) (hr : ∀ k, row = some k → B ≤ k) : PcAt B w' b o p tv :=
  have hn : some b ≠ row := fun e => by have := hr b e.symm; omega
  ⟨hg.cell h.k hn, hg.cell h.t hn, hg.cell h.n hn, h.rd.beside hg hr, h.sl⟩

theorem RdP.beside {B : Nat} {w w' : World} {v : Value} {doc : List Pc} {row : Option Nat} (h : RdP B w v doc) (hg : w.grownBy w' row) (hr : ∀ k, row = some k → B ≤ k) : RdP B w' v doc := by
  obtain ⟨a, cap, hv, h1, h2, hh⟩ := h
  refine ⟨a, cap, hv, h1, h2, fun h0 => ?_⟩
  obtain ⟨b, off, ha, hb, hc⟩ := hh h0
  refine ⟨b, off, ha, hb, fun j p hp => ?_⟩
  obtain ⟨tv, ht⟩ := hc j p hp
  exact ⟨tv, ht.beside hb hg hr⟩

theorem RdP.keep {B : Nat} {w w' : World} {v : Value} {doc : List Pc} (h : RdP B w v doc) (hg : w.grownBy w' none) : RdP B w' v doc := h.beside hg (fun _ e => by cases e)

theorem Rd.wide {q : IntKind} {B B' : Nat} {w : World} {v : Value} {zs : List Int} (h : Rd q B w v zs) (hB : B ≤ B') : Rd q B' w v zs := by
  obtain ⟨a, cap, hv, hr⟩ := h
  refine ⟨a, cap, hv, fun h0 => ?_⟩
  obtain ⟨b, off, ha, hb, hc⟩ := hr h0
  exact ⟨b, off, ha, by omega, hc⟩

theorem RdP.wide {B B' : Nat} {w : World} {v : Value} {doc : List Pc} (h : RdP B w v doc) (hB : B ≤ B') : RdP B' w v doc := by
  obtain ⟨a, cap, hv, h1, h2, hh⟩ := h
  refine ⟨a, cap, hv, h1, h2, fun h0 => ?_⟩
  obtain ⟨b, off, ha, hb, hc⟩ := hh h0
  refine ⟨b, off, ha, by omega, fun j p hp => ?_⟩
  obtain ⟨tv, ht⟩ := hc j p hp
  exact ⟨tv, ⟨ht.k, ht.t, ht.n, ht.rd.wide hB, ht.sl⟩⟩

theorem RdP.at {B : Nat} {w : World} {v : Value} {doc : List Pc} (h : RdP B w v doc) (j : Nat) (hj : j < doc.length) :
    ∃ b off cap tv, v = .slice (some ⟨b, off, none⟩) doc.length cap ∧ b < B ∧ PcAt B w b (off + j * 3) doc[j] tv := by
  obtain ⟨a, cap, hv, h1, h2, hh⟩ := h
  obtain ⟨b, off, ha, hb, hc⟩ := hh (fun e => by rw [e] at hj; simp at hj)
  obtain ⟨tv, ht⟩ := hc j doc[j] (by simp [hj])
  exact ⟨b, off, cap, tv, by rw [hv, ha], hb, ht⟩

end Go.Proofs.YtgmjpdejfdldlaaDoor

namespace Go.Proofs.YtgmjpdejfdldlaaDoor
open Go.RowKit

set_option maxHeartbeats 400000 in
theorem l2arity_any (k : Int) (w : World) : Calls Tryd.prog 58 #[.int .i64 k] w fun e w' => e = .returned (.int .i64 (ar k)) ∧ w = w' := by
  by_cases h6 : k = 6
  · subst h6
    go_enter Tryd.func58, Tryd.ntmps58
    go_wp2
    go_ret
    exact ⟨rfl, rfl⟩
  by_cases h9 : k = 9
  · subst h9
    go_enter Tryd.func58, Tryd.ntmps58
    go_wp2
    go_ret
    exact ⟨rfl, rfl⟩
  by_cases h7 : k = 7
  · subst h7
    go_enter Tryd.func58, Tryd.ntmps58
    go_wp2
    go_ret
    exact ⟨rfl, rfl⟩
  by_cases h8 : k = 8
  · subst h8
    go_enter Tryd.func58, Tryd.ntmps58
    go_wp2
    go_ret
    exact ⟨rfl, rfl⟩
  have ha : Hid (ar k = 0) := by unfold Hid ar; rw [if_neg (by omega), if_neg (by omega)]
  have e6 : (k == 6) = false := by simpa using h6
  have e7 : (k == 7) = false := by simpa using h7
  have e8 : (k == 8) = false := by simpa using h8
  have e9 : (k == 9) = false := by simpa using h9
  go_enter Tryd.func58, Tryd.ntmps58
  go_wp2
  go_ret
  exact ⟨by rw [ha.out]; rfl, rfl⟩

end Go.Proofs.YtgmjpdejfdldlaaDoor

namespace Go.Proofs.YtgmjpdejfdldlaaDoor
open Go.RowKit

/-- A row of one's own, cut. -/
theorem row_cut {B : Nat} {w : World} {e : TypeId} {size n m : Nat} {g cap : Nat} {xs : List Value} (h : w.ownsRow B e size (.slice (some ⟨g, 0, none⟩) n cap) n xs) (hm : m ≤ n) :
    w.ownsRow B e size (.slice (some ⟨g, 0, none⟩) m cap) m (xs.take (m * size)) := by
  rcases h.2 with ⟨h', _⟩ | ⟨g', cap', cur, h', hb, hg, hnc, hcm, hcs, htake⟩
  · simp at h'
  · simp only [Value.slice.injEq, Option.some.injEq, Addr.mk.injEq, and_true, true_and] at h'
    obtain ⟨rfl, rfl⟩ := h'
    have hle : m * size ≤ n * size := Nat.mul_le_mul_right _ hm
    refine ⟨by rw [List.length_take, h.1]; omega, .inr ⟨g, cap, cur, rfl, hb, hg, by omega, hcm, hcs, ?_⟩⟩
    rw [← htake, List.take_take, Nat.min_eq_left hle]

/-- The slice value of a row of one's own, written out. -/
theorem row_form {B : Nat} {w : World} {e : TypeId} {size n : Nat} {v : Value} {xs : List Value} (h : w.ownsRow B e size v n xs) : ∃ a cap, v = .slice a n cap ∧ n ≤ cap ∧ cap ≤ maxLen := by
  rcases h.2 with ⟨hv, hn⟩ | ⟨g, cap, cur, hv, hb, hg, hnc, hcm, hcs, ht⟩
  · exact ⟨_, 0, by rw [hv, hn], by omega, by unfold maxLen; omega⟩
  · exact ⟨_, cap, hv, hnc, hcm⟩

/-- Two rows of one's own: an append onto the one leaves the other, and they stay apart. -/
theorem two_rows {B : Nat} {w w' : World} {e : TypeId} {size m : Nat} {ov C v' : Value} {ys : List Value} {o : Obj} (hO : w.ownsRow B e size ov m ys) (hap : ∀ g, ov.ownBlock = some g → C.ownBlock ≠ some g)
    (hg : (w.alloc o).grownBy w' C.ownBlock) (hat : v'.ownBlock = C.ownBlock ∨ v'.ownBlock = some (w.alloc o).heap.size) : w'.ownsRow B e size ov m ys ∧ ∀ g, ov.ownBlock = some g → v'.ownBlock ≠ some g := by
  refine ⟨World.ownsRow.kept (hO.alloc o) hg ?_, fun g h1 h2 => ?_⟩
  · cases h : ov.ownBlock with
    | none => exact .inl rfl
    | some g => exact .inr (fun e => hap g h e.symm)
  · rcases hat with h | h
    · exact hap g h1 (by rw [← h, h2])
    · have := World.ownsRow.lt hO g h1
      rw [h2] at h
      simp at h
      omega

theorem op_take (op : List Int) (n : Nat) : op.reverse.take (op.length - n) = (op.drop n).reverse := by
  rw [List.reverse_drop]
theorem op_at (op : List Int) (n : Nat) (h0 : 0 < n) (hn : n ≤ op.length) : op.reverse[op.length - n]?.getD 0 = op[n - 1]?.getD 0 := by
  rw [List.getElem?_reverse (by omega)]
  congr 2
  omega

theorem stGo_bad (doc : List Pc) (k : Nat) (hk : k < doc.length) (op out : List Int) (h : op.length < ar doc[k].k) : stGo (doc.drop k) k op out = (out, op) := by
  rw [List.drop_eq_getElem_cons hk]; simp only [stGo]; rw [if_pos h]
theorem stGo_go (doc : List Pc) (k : Nat) (hk : k < doc.length) (op out : List Int) (h : ¬ op.length < ar doc[k].k) (s : Int) (hs : s = if ar doc[k].k = 0 then (k : Int) else op[ar doc[k].k - 1]?.getD 0) :
    stGo (doc.drop k) k op out = stGo (doc.drop (k + 1)) (k + 1) (s :: op.drop (ar doc[k].k)) (out ++ [s]) := by
  rw [List.drop_eq_getElem_cons hk]; simp only [stGo]; rw [if_neg h, hs]

set_option maxHeartbeats 2000000 in
set_option maxRecDepth 100000 in
theorem l2starts_any (v : Value) (doc : List Pc) (w : World) (hv : RdP w.heap.size w v doc) (hn : doc.length ≤ 1048576) :
    Calls Tryd.prog 35 #[v] w fun e w' => ∃ v', e = .returned v' ∧ OwI w.heap.size w' v' (startsOf doc) ∧ w.grownBy w' none := by
  obtain ⟨i0, hi, hz0, hz1, hz2⟩ := info_parts info3
  obtain ⟨a, cap, hv0, _⟩ := id hv
  subst hv0
  go_enter Tryd.func35, Tryd.ntmps35
  go_wp2
  go_loopw [3, 4, 5] (fun ov pv i wr => ∃ (k : Nat) (op out : List Int), k ≤ doc.length ∧ i = .int .i64 k ∧ OwI w.heap.size wr ov out ∧ OwI w.heap.size wr pv op.reverse ∧ (∀ g, ov.ownBlock = some g → pv.ownBlock ≠ some g) ∧ op.length ≤ k ∧ out.length ≤ k ∧ Hid (stGo (doc.drop k) k op out = stGo doc 0 [] []) ∧ w.grownBy wr none)
    (fun _ _ i _ => doc.length - (intOf i).toNat)
  case atStart => exact ⟨0, [], [], Nat.zero_le _, rfl, World.ownsRow_nil _ _ _ _, World.ownsRow_nil _ _ _ _, (fun g h => by simp [Value.ownBlock] at h), Nat.le_refl _, Nat.le_refl _, rfl, World.grownBy.refl _ _⟩
  case round =>
    obtain ⟨k, op, out, hk, rfl, hO, hP, hap, hol, hul, HS, hgr⟩ := hrel
    obtain ⟨pa, pcap, hpv, hpc, hpm⟩ := row_form hP
    obtain ⟨oa, ocap, hov, hoc, hom⟩ := row_form hO
    rw [List.length_reverse] at hpv
    by_cases hlt : k < doc.length
    · obtain ⟨b, off, cap', tv, hva, hb, hp⟩ := (hv.keep hgr).at k hlt
      cases hva
      have hk0 := hp.k
      have ha := l2arity_any doc[k].k wr
      have hbad := stGo_bad doc k hlt op out
      have hgo := stGo_go doc k hlt op out
      have har := ar_cases doc[k].k
      generalize ar doc[k].k = n at ha hbad hgo har
      generalize doc[k].k = kk at hk0 ha
      clear hv hp
      by_cases hb2 : op.length < n
      · have HB : Hid (stGo doc 0 [] [] = (out, op)) := by unfold Hid; rw [← HS.out]; exact hbad hb2
        clear hbad hgo har HS
        by_cases h1 : op.length = 1
        · have e1 : ((op.length : Int) != 1) = false := by simp; omega
          have HF : Hid (startsOf doc = out) := by unfold Hid startsOf; rw [HB.out, if_pos h1]
          clear h1
          subst hpv hov
          go_wp2_with fail
          refine ha.mono ?_
          rintro e w1 ⟨rfl, rfl⟩
          go_wp2
          go_ret
          exact ⟨.slice oa out.length ocap, rfl, by rw [HF.out]; exact hO, hgr⟩
        · have e1 : ((op.length : Int) != 1) = true := by simp; omega
          have HF : Hid (startsOf doc = []) := by unfold Hid startsOf; rw [HB.out, if_neg h1]
          clear h1
          subst hpv hov
          go_wp2_with fail
          refine ha.mono ?_
          rintro e w1 ⟨rfl, rfl⟩
          go_wp2
          go_ret
          exact ⟨_, rfl, by rw [HF.out]; exact World.ownsRow_nil _ _ _ _, hgr⟩
      · obtain ⟨m, hm⟩ : ∃ m, op.length = m + n := ⟨op.length - n, by omega⟩
        have hgo2 := hgo hb2
        rcases hP.2 with ⟨hpn, hp0⟩ | ⟨g, cp, cur, hpg, hpb, hpx, hpnc, hpcm, hpcs, hpt⟩
        · have h00 : op = [] := by simpa using hp0
          subst h00
          have hn0 : n = 0 := by simp at hm; omega
          subst hn0
          have HS2 : Hid (stGo (doc.drop (k + 1)) (k + 1) [(k : Int)] (out ++ [(k : Int)]) = stGo doc 0 [] []) := by
            unfold Hid; rw [← HS.out, hgo2 k (by simp)]; rfl
          have HC : Hid ([] ++ [(k : Int)] = [(k : Int)].reverse) := rfl
          have HL : Hid (([] : List Int).length ≤ k) := Nat.zero_le _
          subst hpn hov
          have hC : OwI w.heap.size wr (.slice none 0 0) [] := World.ownsRow_nil _ _ _ _
          clear hbad hgo hgo2 har HS hP hpv hm hp0
          have hgs := hgr.size
          go_wp2_with fail
          refine ha.mono ?_
          rintro e w1 ⟨rfl, rfl⟩
          clear ha
          go_wp2_with (first
            | (at_builtin; refine wpList_append_own_at _ rfl (.tmp 39) (.tmp 41) 26 rfl w.heap.size 3 i0 (.int .i64 0) 1 8 Tryd.underlying26 hi hz0 hz1 hz2 rfl (by decide) _ _ _ rfl (World.ownsRow.alloc hC _) ⟨wr.heap.size, 0, none⟩ 1 1 [.int .i64 k] rfl rfl (cell_one_new _ _ _) (by intro u hu; simp at hu; subst hu; rfl) (by unfold maxLen; omega) (by omega) (by simp; omega) ?_; intro v2 w2 nw2 gw2 _ aw2; obtain ⟨P2, B2⟩ := own_app (q := .i64) (xs := [k]) _ hgs hC nw2 (by simp) gw2; obtain ⟨O2, hap2⟩ := two_rows hO hap gw2 aw2; clear nw2 gw2 aw2; have G2 := B2.size)
            | (at_builtin; refine wpList_append_own_at _ rfl (.tmp 43) (.tmp 45) 26 rfl w.heap.size 3 i0 (.int .i64 0) 1 8 Tryd.underlying26 hi hz0 hz1 hz2 rfl (by decide) _ _ _ rfl (World.ownsRow.alloc O2 _) ⟨w2.heap.size, 0, none⟩ 1 1 [.int .i64 k] rfl rfl (cell_one_new _ _ _) (by intro u hu; simp at hu; subst hu; rfl) (by unfold maxLen; omega) (by omega) (by simp; omega) ?_; intro v3 w3 nw3 gw3 _ aw3; obtain ⟨O3, B3⟩ := own_app (q := .i64) (xs := [k]) _ (Nat.le_trans hgs G2) O2 nw3 (by simp) gw3; obtain ⟨P3, hap3⟩ := two_rows P2 (fun g h1 h2 => hap2 g h2 h1) gw3 aw3; clear nw3 gw3 aw3 P2 O2 hap2))
          go_roundw
          case rel => exact ⟨k + 1, _, _, by omega, by go_num, O3, HC.out ▸ P3, fun g h1 h2 => hap3 g h2 h1, by have := HL.out; simp <;> omega, by simp <;> omega, HS2, grown_of_below ((below_of_grown hgr).trans (B2.trans B3))⟩
          case measure => simp [intOf]; omega
        · have hpl : op.reverse.length = op.length := by simp
          rw [hpl] at hpg
          rw [hpg] at hP hap
          have hPl : wr.ownsRow w.heap.size 3 1 (.slice (some ⟨g, 0, none⟩) op.length cp) op.length (op.reverse.map (Value.int .i64)) := by have := hP; unfold OwI Ow at this; rw [hpl] at this; exact this
          have hcut := row_cut hPl (m := m) (by omega)
          have e1 : (op.drop n).reverse.length = m := by simp; omega
          have hC : OwI w.heap.size wr (.slice (some ⟨g, 0, none⟩) m cp) (op.drop n).reverse := by
            unfold OwI Ow
            rw [e1, ← op_take op n, show op.length - n = m by omega, List.map_take]
            simpa using hcut
          have hap1 : ∀ g', (Value.slice oa out.length ocap).ownBlock = some g' → (Value.slice (some ⟨g, 0, none⟩) m cp).ownBlock ≠ some g' := fun g' h => hap g' (by rw [hov]; exact h)
          clear hap
          have hap := hap1
          have hcx : 0 < n → wr.cell? ⟨g, m, none⟩ = some (.int .i64 (op[n - 1]?.getD 0)) := by
            intro hn0
            rw [World.ownsRow.cellAt hPl m (by omega), List.getElem?_map, ← op_at op n hn0 (by omega), show op.length - n = m by omega]
            have : m < op.reverse.length := by simp; omega
            rw [List.getElem?_eq_getElem this]
            rfl
          have hdl : (op.drop n).reverse.length ≤ m := Nat.le_of_eq e1
          have hmk : m ≤ k := by omega
          have hmc : m + n ≤ cp := by rw [hpl] at hpnc; omega
          have hmc2 : m ≤ cp := by omega
          clear hpnc
          have hnm : ((m + n : Nat) : Int) = (m : Int) + n := by omega
          rw [hm] at hpg
          clear hap1 hpx hpt hpcs hpv e1 hP hPl hcut hpl
          unfold maxLen at hpcm
          by_cases h0 : n = 0
          · subst h0
            have HS2 : Hid (stGo (doc.drop (k + 1)) (k + 1) ((k : Int) :: op.drop 0) (out ++ [(k : Int)]) = stGo doc 0 [] []) := by
              unfold Hid; rw [← HS.out, hgo2 k (by simp)]
            have HC : Hid ((op.drop 0).reverse ++ [(k : Int)] = ((k : Int) :: op.drop 0).reverse) := by unfold Hid; simp
            have HL : Hid ((op.drop 0).length ≤ m) := by unfold Hid; simpa using hdl
            clear hbad hgo hgo2 har HS hcx hm hol hb2 hnm
            generalize (op.drop 0) = oq at *
            subst hpg hov
            have hgs := hgr.size
            go_wp2_with fail
            refine ha.mono ?_
            rintro e w1 ⟨rfl, rfl⟩
            clear ha
            go_wp2_with (first
              | (at_builtin; refine wpList_append_own_at _ rfl (.tmp 39) (.tmp 41) 26 rfl w.heap.size 3 i0 (.int .i64 0) 1 8 Tryd.underlying26 hi hz0 hz1 hz2 rfl (by decide) _ _ _ rfl (World.ownsRow.alloc hC _) ⟨wr.heap.size, 0, none⟩ 1 1 [.int .i64 k] rfl rfl (cell_one_new _ _ _) (by intro u hu; simp at hu; subst hu; rfl) (by unfold maxLen; omega) (by omega) (by simp; omega) ?_; intro v2 w2 nw2 gw2 _ aw2; obtain ⟨P2, B2⟩ := own_app (q := .i64) (xs := [k]) _ hgs hC nw2 (by simp) gw2; obtain ⟨O2, hap2⟩ := two_rows hO hap gw2 aw2; clear nw2 gw2 aw2; have G2 := B2.size)
              | (at_builtin; refine wpList_append_own_at _ rfl (.tmp 43) (.tmp 45) 26 rfl w.heap.size 3 i0 (.int .i64 0) 1 8 Tryd.underlying26 hi hz0 hz1 hz2 rfl (by decide) _ _ _ rfl (World.ownsRow.alloc O2 _) ⟨w2.heap.size, 0, none⟩ 1 1 [.int .i64 k] rfl rfl (cell_one_new _ _ _) (by intro u hu; simp at hu; subst hu; rfl) (by unfold maxLen; omega) (by omega) (by simp; omega) ?_; intro v3 w3 nw3 gw3 _ aw3; obtain ⟨O3, B3⟩ := own_app (q := .i64) (xs := [k]) _ (Nat.le_trans hgs G2) O2 nw3 (by simp) gw3; obtain ⟨P3, hap3⟩ := two_rows P2 (fun g h1 h2 => hap2 g h2 h1) gw3 aw3; clear nw3 gw3 aw3 P2 O2 hap2))
            go_roundw
            case rel => exact ⟨k + 1, _, _, by omega, by go_num, O3, HC.out ▸ P3, fun g h1 h2 => hap3 g h2 h1, by have := HL.out; simp <;> omega, by simp <;> omega, HS2, grown_of_below ((below_of_grown hgr).trans (B2.trans B3))⟩
            case measure => simp [intOf]; omega
          · have hcx1 := hcx (by omega)
            have HS2 : Hid (stGo (doc.drop (k + 1)) (k + 1) (op[n - 1]?.getD 0 :: op.drop n) (out ++ [op[n - 1]?.getD 0]) = stGo doc 0 [] []) := by
              unfold Hid; rw [← HS.out, hgo2 (op[n - 1]?.getD 0) (by rw [if_neg h0])]
            have HC : Hid ((op.drop n).reverse ++ [op[n - 1]?.getD 0] = (op[n - 1]?.getD 0 :: op.drop n).reverse) := by unfold Hid; simp
            have HL : Hid ((op.drop n).length ≤ m) := by unfold Hid; simpa using hdl
            clear hbad hgo hgo2 HS hcx hm hol hb2 hnm
            generalize (op.drop n) = oq at *
            generalize op[n - 1]?.getD 0 = s at *
            rcases har with rfl | rfl | rfl
            · exact absurd rfl h0
            · clear h0
              subst hpg hov
              have hgs := hgr.size
              go_wp2_with fail
              refine ha.mono ?_
              rintro e w1 ⟨rfl, rfl⟩
              clear ha
              go_wp2_with (first
                | (at_builtin; refine wpList_append_own_at _ rfl (.tmp 39) (.tmp 41) 26 rfl w.heap.size 3 i0 (.int .i64 0) 1 8 Tryd.underlying26 hi hz0 hz1 hz2 rfl (by decide) _ _ _ rfl (World.ownsRow.alloc hC _) ⟨wr.heap.size, 0, none⟩ 1 1 [.int .i64 s] rfl rfl (cell_one_new _ _ _) (by intro u hu; simp at hu; subst hu; rfl) (by unfold maxLen; omega) (by omega) (by simp; omega) ?_; intro v2 w2 nw2 gw2 _ aw2; obtain ⟨P2, B2⟩ := own_app (q := .i64) (xs := [s]) _ hgs hC nw2 (by simp) gw2; obtain ⟨O2, hap2⟩ := two_rows hO hap gw2 aw2; clear nw2 gw2 aw2; have G2 := B2.size)
                | (at_builtin; refine wpList_append_own_at _ rfl (.tmp 43) (.tmp 45) 26 rfl w.heap.size 3 i0 (.int .i64 0) 1 8 Tryd.underlying26 hi hz0 hz1 hz2 rfl (by decide) _ _ _ rfl (World.ownsRow.alloc O2 _) ⟨w2.heap.size, 0, none⟩ 1 1 [.int .i64 s] rfl rfl (cell_one_new _ _ _) (by intro u hu; simp at hu; subst hu; rfl) (by unfold maxLen; omega) (by omega) (by simp; omega) ?_; intro v3 w3 nw3 gw3 _ aw3; obtain ⟨O3, B3⟩ := own_app (q := .i64) (xs := [s]) _ (Nat.le_trans hgs G2) O2 nw3 (by simp) gw3; obtain ⟨P3, hap3⟩ := two_rows P2 (fun g h1 h2 => hap2 g h2 h1) gw3 aw3; clear nw3 gw3 aw3 P2 O2 hap2))
              go_roundw
              case rel => exact ⟨k + 1, _, _, by omega, by go_num, O3, HC.out ▸ P3, fun g h1 h2 => hap3 g h2 h1, by have := HL.out; simp <;> omega, by simp <;> omega, HS2, grown_of_below ((below_of_grown hgr).trans (B2.trans B3))⟩
              case measure => simp [intOf]; omega
            · clear h0
              subst hpg hov
              have hgs := hgr.size
              go_wp2_with fail
              refine ha.mono ?_
              rintro e w1 ⟨rfl, rfl⟩
              clear ha
              go_wp2_with (first
                | (at_builtin; refine wpList_append_own_at _ rfl (.tmp 39) (.tmp 41) 26 rfl w.heap.size 3 i0 (.int .i64 0) 1 8 Tryd.underlying26 hi hz0 hz1 hz2 rfl (by decide) _ _ _ rfl (World.ownsRow.alloc hC _) ⟨wr.heap.size, 0, none⟩ 1 1 [.int .i64 s] rfl rfl (cell_one_new _ _ _) (by intro u hu; simp at hu; subst hu; rfl) (by unfold maxLen; omega) (by omega) (by simp; omega) ?_; intro v2 w2 nw2 gw2 _ aw2; obtain ⟨P2, B2⟩ := own_app (q := .i64) (xs := [s]) _ hgs hC nw2 (by simp) gw2; obtain ⟨O2, hap2⟩ := two_rows hO hap gw2 aw2; clear nw2 gw2 aw2; have G2 := B2.size)
                | (at_builtin; refine wpList_append_own_at _ rfl (.tmp 43) (.tmp 45) 26 rfl w.heap.size 3 i0 (.int .i64 0) 1 8 Tryd.underlying26 hi hz0 hz1 hz2 rfl (by decide) _ _ _ rfl (World.ownsRow.alloc O2 _) ⟨w2.heap.size, 0, none⟩ 1 1 [.int .i64 s] rfl rfl (cell_one_new _ _ _) (by intro u hu; simp at hu; subst hu; rfl) (by unfold maxLen; omega) (by omega) (by simp; omega) ?_; intro v3 w3 nw3 gw3 _ aw3; obtain ⟨O3, B3⟩ := own_app (q := .i64) (xs := [s]) _ (Nat.le_trans hgs G2) O2 nw3 (by simp) gw3; obtain ⟨P3, hap3⟩ := two_rows P2 (fun g h1 h2 => hap2 g h2 h1) gw3 aw3; clear nw3 gw3 aw3 P2 O2 hap2))
              go_roundw
              case rel => exact ⟨k + 1, _, _, by omega, by go_num, O3, HC.out ▸ P3, fun g h1 h2 => hap3 g h2 h1, by have := HL.out; simp <;> omega, by simp <;> omega, HS2, grown_of_below ((below_of_grown hgr).trans (B2.trans B3))⟩
              case measure => simp [intOf]; omega
    · have hkn : k = doc.length := by omega
      have HB : Hid (stGo doc 0 [] [] = (out, op)) := by unfold Hid; rw [← HS.out, hkn]; simp [stGo]
      by_cases h1 : op.length = 1
      · have e1 : ((op.length : Int) != 1) = false := by simp; omega
        have HF : Hid (startsOf doc = out) := by unfold Hid startsOf; rw [HB.out, if_pos h1]
        clear h1
        subst hpv hov
        go_wp2
        go_ret
        exact ⟨_, rfl, by rw [HF.out]; exact hO, hgr⟩
      · have e1 : ((op.length : Int) != 1) = true := by simp; omega
        have HF : Hid (startsOf doc = []) := by unfold Hid startsOf; rw [HB.out, if_neg h1]
        clear h1
        subst hpv hov
        go_wp2
        go_ret
        exact ⟨_, rfl, by rw [HF.out]; exact World.ownsRow_nil _ _ _ _, hgr⟩

end Go.Proofs.YtgmjpdejfdldlaaDoor

