import Derived.Handy
import Derived.Deep.RegionWith
import Derived.Test.YtalkhnhhaiigiaaGreatDoorMAA
import Derived.Test.YtalkhnhhaiigiaaGreatDoorMAH
namespace Go.Proofs.YtalkhnhhaiigiaaGreatDoor
open Go.RowKit

set_option maxHeartbeats 400000 in
set_option maxRecDepth 100000 in
theorem toByteS_any (v : Value) (zs : List Int) (w : World) (hv : Rd .u8 w.heap.size w v zs) (hn : zs.length ≤ 4194304) :
    Calls Tryz.prog 75 #[v] w fun e w' => ∃ v', e = .returned v' ∧ Ow .u8 5 w.heap.size w' v' zs ∧ w.grownBy w' none := by
  obtain ⟨i0, hi, hz0, hz1, hz2⟩ := info_parts info5
  obtain ⟨a, cap, rfl, hr⟩ := hv
  go_enter Tryz.func75, Tryz.ntmps75
  go_wp2_with (at_make; refine wpList_make_full _ rfl _ _ 57 rfl w.heap.size 5 i0 (.int .u8 0) 1 Tryz.underlying57 hi hz0 hz1 _ _ _ _ zs.length rfl rfl (by omega) (by omega) ?b2 ?b3 (Nat.le_refl _) ?_)
  case b2 => rw [hz2]; omega
  case b3 => unfold maxLen; omega
  intro w0 hown0 hgrow0
  go_wp2
  go_loopw [4] (fun i wr => ∃ k : Nat, k ≤ zs.length ∧ i = .int .i64 k ∧ wr.ownsRow w.heap.size 5 1 (.slice (some ⟨w.heap.size, 0, none⟩) zs.length zs.length) zs.length ((zs.take k ++ List.replicate (zs.length - k) 0).map (Value.int .u8)) ∧ w.grownBy wr none)
    (fun i _ => zs.length - (intOf i).toNat)
  case atStart =>
    refine ⟨0, Nat.zero_le _, rfl, ?_, hgrow0⟩
    simpa [toList_madeCells_one, Value.cells] using hown0
  case round =>
    obtain ⟨k, hk, rfl, hown, hgr⟩ := hrel
    by_cases hlt : k < zs.length
    · obtain ⟨b, off, rfl, hb, hc⟩ := hr (fun h => by simp [h] at hlt)
      have hcx : wr.cell? ⟨b, off + k, none⟩ = some (.int .u8 (zs[k]?.getD 0)) := hgr.cell (hc k hlt) (by simp)
      have hoc : wr.cell? ⟨w.heap.size, k, none⟩ = some (.int .u8 0) := by
        rw [World.ownsRow.cellAt hown k (by omega)]; simp [List.getElem?_append, List.getElem?_replicate, Nat.min_eq_left hk]; omega
      have hof := World.ownsRow.frozenAt hown k
      have hst := World.ownsRow.stored hown k (.int .u8 (zs[k]?.getD 0))
      rw [copy_step _ zs k hlt] at hst
      have hg2 := grown_new hgr hst.2 (fun j hj => by cases hj; exact Nat.le_refl _)
      have hst1 := hst.1
      clear hst hc hr hown hb
      generalize zs[k]?.getD 0 = z at hcx hst1 hg2
      go_wp2
      go_roundw
      case rel => exact ⟨k + 1, by omega, by go_num, hst1, hg2⟩
      case measure => simp [intOf]; omega
    · go_wp2
      go_ret
      have hkn : k = zs.length := by omega
      subst hkn
      exact ⟨_, rfl, by unfold Ow; simpa using hown, hgr⟩

end Go.Proofs.YtalkhnhhaiigiaaGreatDoor

namespace Go.Proofs.YtalkhnhhaiigiaaGreatDoor
open Go.RowKit

theorem infoCm : (Tryz.prog.info? 83).map (fun i => (i.zero, i.size, i.bytes)) = some (some (.agg #[.bool false, .slice none 0 0]), 2, 32) := by kernel_rfl
theorem row_setC {B : Nat} {w : World} {e : TypeId} {size n : Nat} {v : Value} {xs : List Value} (h : w.ownsRow B e size v n xs) (a : Addr) (u : Value) (hb : v.ownBlock ≠ some a.block) : (w.setCell a u).ownsRow B e size v n xs :=
  World.ownsRow.kept h ⟨rfl, rfl, rfl, by simp, fun i _ hn => Below.heap_setCell _ _ _ _ (fun e => hn (by rw [e]))⟩ (by
    cases hv : v.ownBlock with
    | none => exact .inl rfl
    | some k => exact .inr (fun e => hb (by rw [hv, e])))
theorem Ow.setC {q : IntKind} {t : TypeId} {B : Nat} {w : World} {v : Value} {zs : List Int} (h : Ow q t B w v zs) (a : Addr) (u : Value) (hb : a.block < B) : Ow q t B (w.setCell a u) v zs :=
  row_setC h a u (fun e => by have := World.ownsRow.lt h _ e; omega)
theorem grown_bothC {W w1 : World} {a : Addr} {v : Value} (hg : W.grownBy w1 none) (h : W.cell? a = some v) (hf : W.frozen? a = false) : w1.cell? a = some v ∧ w1.frozen? a = false :=
  ⟨hg.cell h (by simp), (World.frozen?_of_block (hg.block a.block (World.block_lt_of_cell? W a h) (by simp))).trans hf⟩

set_option maxHeartbeats 1000000 in
set_option maxRecDepth 100000 in
theorem toComment_any (p : Cm) (tv : Value) (w : World) (hv : RdB w.heap.size w tv p.t) (hn : p.t.length ≤ 1048576) :
    Calls Tryz.prog 42 #[.agg #[.bool p.b, tv]] w fun e w' => ∃ tv', e = .returned (.agg #[.bool p.b, tv']) ∧ OwB w.heap.size w' tv' p.t ∧ w.grownBy w' none := by
  obtain ⟨a, cap, hv0, _⟩ := id hv
  go_enter Tryz.func42, Tryz.ntmps42
  subst hv0
  go_wp2_with fail
  refine (toByteS_any _ p.t _ (by refine (hv.keep ?_).now; exact grown_trans (grown_trans (World.grownBy_alloc _ _ _) (World.grownBy_alloc _ _ _)) (World.grownBy_alloc _ _ _)) (by omega)).mono ?_
  rintro e w1 ⟨tv', rfl, o1, g1⟩
  obtain ⟨a1, cap1, hv1, _⟩ := o1.rd
  have r0 := grown_bothC (a := ⟨w.heap.size + 1, 0, none⟩) (v := .bool false) g1 (by simp [go_sem]) (by simp [go_sem])
  have r1 := grown_bothC (a := ⟨w.heap.size + 1, 1, none⟩) (v := .slice none 0 0) g1 (by simp [go_sem]) (by simp [go_sem])
  have x0 := grown_bothC (a := ⟨w.heap.size + 1 + 1, 0, none⟩) (v := .bool p.b) g1 (by simp [go_sem]) (by simp [go_sem])
  have x1 := grown_bothC (a := ⟨w.heap.size + 1 + 1, 1, none⟩) (v := .slice none 0 0) g1 (by simp [go_sem]) (by simp [go_sem])
  obtain ⟨r0, r0f⟩ := r0
  obtain ⟨r1, r1f⟩ := r1
  obtain ⟨x0, x0f⟩ := x0
  obtain ⟨x1, x1f⟩ := x1
  have bel : Below w.heap.size w w1 := (((((Below.refl w.heap.size w).alloc (Nat.le_refl _) _).alloc (by simp) _).alloc (by simp; omega) _).grown g1 (by simp; omega) (fun k e => by cases e))
  have H : Hid (OwB (w.heap.size + 3) w1 tv' p.t) := row_base (by simp) o1
  clear o1 g1
  subst hv1
  go_wp2
  refine bodyPost_ret (v := .agg #[.bool p.b, .slice a1 p.t.length cap1]) (by simp [results, Tryz.results42, go_sem, r0, r1]) rfl ?_
  refine ⟨_, rfl, ?_, ?_⟩
  · exact row_base (by omega) (((H.out.setC _ _ (by simp)).setC _ _ (by simp)).setC _ _ (by simp))
  · exact grown_of_below (((bel.setCell (by simp; omega) _).setCell (by simp) _).setCell (by simp) _)

/-- The cells of a row of elements. -/
def cells2 : List Cm → List Value → List Value
  | p :: ps, tv :: tvs => .bool p.b :: tv :: cells2 ps tvs
  | _, _ => []
def zerC : Nat → List Value
  | 0 => []
  | m + 1 => .bool false :: .slice none 0 0 :: zerC m

theorem cells2_len : ∀ (ps : List Cm) (tvs : List Value), tvs.length = ps.length → (cells2 ps tvs).length = ps.length * 2
  | [], [], _ => rfl
  | _ :: ps, _ :: tvs, h => by simp only [List.length_cons, Nat.add_right_cancel_iff] at h; simp only [cells2, List.length_cons, cells2_len ps tvs h]; omega
  | [], _ :: _, h => by simp at h
  | _ :: _, [], h => by simp at h

theorem cells2_snoc : ∀ (ps : List Cm) (tvs : List Value) (p : Cm) (tv : Value), tvs.length = ps.length → cells2 (ps ++ [p]) (tvs ++ [tv]) = cells2 ps tvs ++ [.bool p.b, tv]
  | [], [], _, _, _ => rfl
  | _ :: ps, _ :: tvs, p, tv, h => by simp only [List.length_cons, Nat.add_right_cancel_iff] at h; simp only [List.cons_append, cells2, cells2_snoc ps tvs p tv h]
  | [], _ :: _, _, _, h => by simp at h
  | _ :: _, [], _, _, h => by simp at h

theorem cells2_at : ∀ (ps : List Cm) (tvs : List Value) (j : Nat) (p : Cm), tvs.length = ps.length → ps[j]? = some p → ∃ tv, tvs[j]? = some tv ∧ (cells2 ps tvs)[j * 2]? = some (.bool p.b) ∧ (cells2 ps tvs)[j * 2 + 1]? = some tv
  | p0 :: ps, tv :: tvs, 0, p, h, hp => by simp at hp; subst hp; exact ⟨tv, rfl, rfl, rfl⟩
  | p0 :: ps, tv :: tvs, j + 1, p, h, hp => by
    simp only [List.length_cons, Nat.add_right_cancel_iff] at h
    obtain ⟨u, h1, h2, h3⟩ := cells2_at ps tvs j p h (by simpa using hp)
    refine ⟨u, by simpa using h1, ?_, ?_⟩
    · rw [show (j + 1) * 2 = j * 2 + 2 by omega]; simpa [cells2] using h2
    · rw [show (j + 1) * 2 + 1 = (j * 2 + 1) + 2 by omega]; simpa [cells2] using h3
  | [], _, _, _, _, hp => by simp at hp
  | _ :: _, [], _, _, h, _ => by simp at h

theorem zerC_made : ∀ (n : Nat), (madeCells #[Value.bool false, .slice none 0 0] (n * 2)).toList = zerC n := by
  intro n
  apply List.ext_getElem?
  intro j
  have hz : ∀ (n j : Nat), (zerC n)[j]? = if j < n * 2 then some ((#[Value.bool false, .slice none 0 0] : Array Value).getD (j % 2) default) else none := by
    intro n
    induction n with
    | zero => intro j; simp [zerC]
    | succ n ih =>
      intro j
      match j with
      | 0 => simp [zerC]
      | 1 => simp only [zerC]; rw [if_pos (by omega)]; rfl
      | j + 2 =>
        simp only [zerC, List.getElem?_cons_succ]
        rw [ih j, show (j + 2) % 2 = j % 2 by omega]
        by_cases h : j < n * 2
        · rw [if_pos h, if_pos (by omega)]
        · rw [if_neg h, if_neg (by omega)]
  rw [hz]
  by_cases h : j < n * 2
  · simp [madeCells, h]
  · simp [madeCells, h]

/-- The texts of a row of elements, each a row of its own, none of them block g. -/
structure TxsC (B : Nat) (w : World) (g : Nat) (doc : List Cm) (tvs : List Value) : Prop where
  len : tvs.length = doc.length
  own : ∀ (j : Nat) (p : Cm) (tv : Value), doc[j]? = some p → tvs[j]? = some tv → OwB B w tv p.t ∧ tv.ownBlock ≠ some g
  apart : tvs.Pairwise (fun a b => ∀ g, a.ownBlock = some g → b.ownBlock ≠ some g)

theorem TxsC.keep {B : Nat} {w w' : World} {g : Nat} {doc : List Cm} {tvs : List Value} (h : TxsC B w g doc tvs) (hg : w.grownBy w' none) : TxsC B w' g doc tvs :=
  ⟨h.len, fun j p tv h1 h2 => ⟨(h.own j p tv h1 h2).1.later hg, (h.own j p tv h1 h2).2⟩, h.apart⟩
theorem TxsC.set {B : Nat} {w : World} {g : Nat} {doc : List Cm} {tvs : List Value} (h : TxsC B w g doc tvs) (o : Nat) (u : Value) : TxsC B (w.setCell ⟨g, o, none⟩ u) g doc tvs :=
  ⟨h.len, fun j p tv h1 h2 => ⟨row_setC (h.own j p tv h1 h2).1 _ _ (h.own j p tv h1 h2).2, (h.own j p tv h1 h2).2⟩, h.apart⟩

theorem TxsC.snoc {B : Nat} {w w1 : World} {g : Nat} {doc : List Cm} {tvs : List Value} {p : Cm} {tv : Value} (h : TxsC B w g doc tvs) (hB : B ≤ w.heap.size) (hgs : g < w.heap.size) (hg : w.grownBy w1 none) (ho : OwB w.heap.size w1 tv p.t) :
    TxsC B w1 g (doc ++ [p]) (tvs ++ [tv]) := by
  have hl := h.len
  refine ⟨by simp [hl], fun j q u h1 h2 => ?_, ?_⟩
  · by_cases hj : j < doc.length
    · rw [List.getElem?_append_left hj] at h1
      rw [List.getElem?_append_left (by omega)] at h2
      exact (h.keep hg).own j q u h1 h2
    · have hj2 : j = doc.length := by
        have := (List.getElem?_eq_some_iff.1 h1).1
        simp at this; omega
      subst hj2
      simp at h1
      rw [← hl] at h2
      simp at h2
      subst h1 h2
      refine ⟨row_base hB ho, fun e => ?_⟩
      have := World.ownsRow.lt ho _ e
      omega
  · rw [List.pairwise_append]
    refine ⟨h.apart, by simp, ?_⟩
    intro a ha b hb g' hg' hb'
    simp at hb
    subst hb
    obtain ⟨j, hj, hja⟩ := List.getElem_of_mem ha
    have h1 := (h.own j (doc[j]'(by omega)) a (by simp [show j < doc.length by omega]) (by rw [← hja]; simp [hj])).1
    have := World.ownsRow.lt h1 _ hg'
    have := World.ownsRow.lt ho _ hb'
    omega

/-- A row of elements of one's own. -/
def OwC (B : Nat) (w : World) (v : Value) (doc : List Cm) : Prop :=
  ∃ (g : Nat) (tvs : List Value), v = .slice (some ⟨g, 0, none⟩) doc.length doc.length ∧ doc.length ≤ maxLen ∧ w.ownsRow B 83 2 v doc.length (cells2 doc tvs) ∧ TxsC B w g doc tvs

theorem OwC.later {B : Nat} {w w' : World} {v : Value} {doc : List Cm} (h : OwC B w v doc) (hg : w.grownBy w' none) : OwC B w' v doc := by
  obtain ⟨g, tvs, hv, hm, ho, ht⟩ := h
  exact ⟨g, tvs, hv, hm, World.ownsRow.kept ho hg (by cases v.ownBlock <;> simp), ht.keep hg⟩

theorem OwC.rd {B : Nat} {w : World} {v : Value} {doc : List Cm} (h : OwC B w v doc) : RdC w.heap.size w v doc := by
  obtain ⟨g, tvs, hv, hm, ho, ht⟩ := h
  have hlt := World.ownsRow.lt ho g (by rw [hv]; rfl)
  refine ⟨_, _, hv, Nat.le_refl _, hm, fun h0 => ⟨g, 0, rfl, hlt.2, fun j p hp => ?_⟩⟩
  obtain ⟨tv, h1, h2, h3⟩ := cells2_at doc tvs j p ht.len hp
  have hj := (List.getElem?_eq_some_iff.1 hp).1
  have hown := (ht.own j p tv hp h1).1
  rw [hv] at ho
  refine ⟨tv, ?_, ?_, hown.rd, hown.sl⟩
  · rw [Nat.zero_add, World.ownsRow.cellAt ho (j * 2) (by omega)]; exact h2
  · rw [Nat.zero_add, World.ownsRow.cellAt ho (j * 2 + 1) (by omega)]; exact h3

theorem set2 (A R : List Value) (x y x' y' : Value) (k : Nat) (hA : A.length = k * 2) :
    ((A ++ x :: y :: R).set (k * 2) x').set (k * 2 + 1) y' = A ++ x' :: y' :: R := by
  rw [List.set_append_right _ _ (by omega), List.set_append_right _ _ (by omega)]
  rw [show k * 2 - A.length = 0 by omega, show k * 2 + 1 - A.length = 1 by omega]
  rfl

set_option maxHeartbeats 1000000 in
set_option maxRecDepth 100000 in
theorem toCommentS_any (v : Value) (doc : List Cm) (w : World) (hv : RdC w.heap.size w v doc) (hn : doc.length ≤ 1048576) (ht : ∀ p ∈ doc, p.t.length ≤ 1048576) :
    Calls Tryz.prog 19 #[v] w fun e w' => ∃ v', e = .returned v' ∧ OwC w.heap.size w' v' doc ∧ w.grownBy w' none := by
  obtain ⟨i0, hi, hz0, hz1, hz2⟩ := info_parts infoCm
  obtain ⟨a, cap, hv0, _⟩ := id hv
  subst hv0
  go_enter Tryz.func19, Tryz.ntmps19
  go_wp2_with (at_make; refine wpList_make_full _ rfl _ _ 31 rfl w.heap.size 83 i0 (.agg #[.bool false, .slice none 0 0]) 2 Tryz.underlying31 hi hz0 hz1 _ _ _ _ doc.length rfl rfl (by omega) (by omega) ?b2 ?b3 (Nat.le_refl _) ?_)
  case b2 => rw [hz2]; omega
  case b3 => unfold maxLen; omega
  intro w0 hown0 hgrow0
  go_wp2
  go_loopw [4] (fun i wr => ∃ (k : Nat) (tvs : List Value), k ≤ doc.length ∧ i = .int .i64 k ∧ wr.ownsRow w.heap.size 83 2 (.slice (some ⟨w.heap.size, 0, none⟩) doc.length doc.length) doc.length (cells2 (doc.take k) tvs ++ zerC (doc.length - k)) ∧ TxsC w.heap.size wr w.heap.size (doc.take k) tvs ∧ w.grownBy wr none)
    (fun i _ => doc.length - (intOf i).toNat)
  case atStart =>
    refine ⟨0, [], Nat.zero_le _, rfl, ?_, ⟨rfl, fun j p tv h _ => by simp at h, by simp⟩, hgrow0⟩
    simpa [zerC_made, Value.cells, cells2] using hown0
  case round =>
    obtain ⟨k, tvs, hk, rfl, hown, hT, hgr⟩ := hrel
    by_cases hlt : k < doc.length
    · obtain ⟨b, off, cap', tv, hva, hb, hp⟩ := (hv.keep hgr).at k hlt
      cases hva
      have hk0 := hp.k; have ht0 := hp.t
      have hlk : (doc.take k).length = k := by simp; omega
      have hsz : w.heap.size < wr.heap.size := (World.ownsRow.lt hown w.heap.size rfl).2
      have hcl := cells2_len (doc.take k) tvs hT.len
      have hto := toComment_any doc[k] tv wr (hp.rd.wideC (by omega)) (ht _ (List.getElem_mem hlt))
      obtain ⟨ta, tcap, htv, htl, htm⟩ := hp.sl
      subst htv
      have htk : doc.take (k + 1) = doc.take k ++ [doc[k]] := by rw [List.take_add_one]; simp [hlt]
      have hzr : zerC (doc.length - k) = .bool false :: .slice none 0 0 :: zerC (doc.length - (k + 1)) := by
        rw [show doc.length - k = (doc.length - (k + 1)) + 1 by omega]; rfl
      rw [hzr] at hown
      clear hzr hv hp
      have A : Hid (doc.take (k + 1) = doc.take k ++ [doc[k]]) := htk
      clear htk
      generalize doc[k] = p at hk0 ht0 hto A
      go_wp2_with fail
      refine hto.mono ?_
      rintro e w1 ⟨tv', rfl, o1, g1⟩
      have hown1 := World.ownsRow.kept hown g1 (.inr (by simp [Value.ownBlock]))
      have hc0 := World.ownsRow.cellAt hown1 (k * 2) (by omega)
      have hc1 := World.ownsRow.cellAt hown1 (k * 2 + 1) (by omega)
      rw [List.getElem?_append_right (by omega), show k * 2 - (cells2 (doc.take k) tvs).length = 0 by omega] at hc0
      rw [List.getElem?_append_right (by omega), show k * 2 + 1 - (cells2 (doc.take k) tvs).length = 1 by omega] at hc1
      simp only [List.getElem?_cons_zero, List.getElem?_cons_succ] at hc0 hc1
      have hf0 := World.ownsRow.frozenAt hown1 (k * 2)
      have hf1 := World.ownsRow.frozenAt hown1 (k * 2 + 1)
      have hs0 := World.ownsRow.stored hown1 (k * 2) (.bool p.b)
      have hs1 := World.ownsRow.stored hs0.1 (k * 2 + 1) tv'
      have hrow := hs1.1
      rw [set2 _ _ _ _ _ _ k (by omega)] at hrow
      have hT1 := ((hT.snoc (by omega) hsz g1 o1).set (k * 2) (.bool p.b)).set (k * 2 + 1) tv'
      have hg3 : w.grownBy ((w1.setCell ⟨w.heap.size, k * 2, none⟩ (.bool p.b)).setCell ⟨w.heap.size, k * 2 + 1, none⟩ tv') none :=
        grown_of_below (((below_of_grown (grown_trans hgr g1)).setCell (by simp) _).setCell (by simp) _)
      have hrow2 := cells2_snoc (doc.take k) tvs p tv' hT.len
      rw [← A.out] at hT1 hrow2
      have HR : Hid (((w1.setCell ⟨w.heap.size, k * 2, none⟩ (.bool p.b)).setCell ⟨w.heap.size, k * 2 + 1, none⟩ tv').ownsRow w.heap.size 83 2 (.slice (some ⟨w.heap.size, 0, none⟩) doc.length doc.length) doc.length (cells2 (doc.take (k + 1)) (tvs ++ [tv']) ++ zerC (doc.length - (k + 1)))) := by
        unfold Hid; rw [hrow2]; simpa using hrow
      have HT : Hid (TxsC _ _ _ _ _) := hT1
      obtain ⟨a1, cap1, hv1, _⟩ := o1.rd
      clear hs0 hs1 hrow hrow2 hT1 hown hown1 hT o1 g1 hcl hlk
      subst hv1
      go_wp2
      go_roundw
      case rel => exact ⟨k + 1, _, by omega, by go_num, HR.out, HT.out, hg3⟩
      case measure => simp [intOf]; omega
    · go_wp2
      go_ret
      have hkn : k = doc.length := by omega
      subst hkn
      simp only [List.take_length, Nat.sub_self, zerC, List.append_nil] at hown hT
      exact ⟨_, rfl, ⟨_, _, rfl, by unfold maxLen; omega, hown, hT⟩, hgr⟩

end Go.Proofs.YtalkhnhhaiigiaaGreatDoor

namespace Go.Proofs.YtalkhnhhaiigiaaGreatDoor
open Go.RowKit

set_option maxHeartbeats 400000 in
set_option maxRecDepth 100000 in
theorem toIntS_any (v : Value) (zs : List Int) (w : World) (hv : Rd .i64 w.heap.size w v zs) (hn : zs.length ≤ 4194304) :
    Calls Tryz.prog 74 #[v] w fun e w' => ∃ v', e = .returned v' ∧ Ow .i64 3 w.heap.size w' v' zs ∧ w.grownBy w' none := by
  obtain ⟨i0, hi, hz0, hz1, hz2⟩ := info_parts info3
  obtain ⟨a, cap, rfl, hr⟩ := hv
  go_enter Tryz.func74, Tryz.ntmps74
  go_wp2_with (at_make; refine wpList_make_full _ rfl _ _ 66 rfl w.heap.size 3 i0 (.int .i64 0) 1 Tryz.underlying66 hi hz0 hz1 _ _ _ _ zs.length rfl rfl (by omega) (by omega) ?b2 ?b3 (Nat.le_refl _) ?_)
  case b2 => rw [hz2]; omega
  case b3 => unfold maxLen; omega
  intro w0 hown0 hgrow0
  go_wp2
  go_loopw [4] (fun i wr => ∃ k : Nat, k ≤ zs.length ∧ i = .int .i64 k ∧ wr.ownsRow w.heap.size 3 1 (.slice (some ⟨w.heap.size, 0, none⟩) zs.length zs.length) zs.length ((zs.take k ++ List.replicate (zs.length - k) 0).map (Value.int .i64)) ∧ w.grownBy wr none)
    (fun i _ => zs.length - (intOf i).toNat)
  case atStart =>
    refine ⟨0, Nat.zero_le _, rfl, ?_, hgrow0⟩
    simpa [toList_madeCells_one, Value.cells] using hown0
  case round =>
    obtain ⟨k, hk, rfl, hown, hgr⟩ := hrel
    by_cases hlt : k < zs.length
    · obtain ⟨b, off, rfl, hb, hc⟩ := hr (fun h => by simp [h] at hlt)
      have hcx : wr.cell? ⟨b, off + k, none⟩ = some (.int .i64 (zs[k]?.getD 0)) := hgr.cell (hc k hlt) (by simp)
      have hoc : wr.cell? ⟨w.heap.size, k, none⟩ = some (.int .i64 0) := by
        rw [World.ownsRow.cellAt hown k (by omega)]; simp [List.getElem?_append, List.getElem?_replicate, Nat.min_eq_left hk]; omega
      have hof := World.ownsRow.frozenAt hown k
      have hst := World.ownsRow.stored hown k (.int .i64 (zs[k]?.getD 0))
      rw [copy_step _ zs k hlt] at hst
      have hg2 := grown_new hgr hst.2 (fun j hj => by cases hj; exact Nat.le_refl _)
      have hst1 := hst.1
      clear hst hc hr hown hb
      generalize zs[k]?.getD 0 = z at hcx hst1 hg2
      go_wp2
      go_roundw
      case rel => exact ⟨k + 1, by omega, by go_num, hst1, hg2⟩
      case measure => simp [intOf]; omega
    · go_wp2
      go_ret
      have hkn : k = zs.length := by omega
      subst hkn
      exact ⟨_, rfl, by unfold Ow; simpa using hown, hgr⟩

end Go.Proofs.YtalkhnhhaiigiaaGreatDoor

namespace Go.Proofs.YtalkhnhhaiigiaaGreatDoor
open Go.RowKit

theorem eqByteS_false_of {za zb : List Int} (k : Nat) (h : za[k]?.getD 0 ≠ zb[k]?.getD 0) : decide (za = zb) = false := by
  simp only [decide_eq_false_iff_not]; intro e; exact h (by rw [e])

set_option maxHeartbeats 400000 in
set_option maxRecDepth 100000 in
theorem eqByteS_any (va vb : Value) (za zb : List Int) (w : World) (ha : Rd .u8 w.heap.size w va za) (hb : Rd .u8 w.heap.size w vb zb) (hn : za.length ≤ 600000000) :
    Calls Tryz.prog 54 #[va, vb] w fun e w' => e = .returned (.bool (decide (za = zb))) ∧ ∃ m, w' = w.drewN m := by
  obtain ⟨a, capa, rfl, hra⟩ := ha
  obtain ⟨b, capb, rfl, hrb⟩ := hb
  by_cases hl : za.length = zb.length
  · have hne : ((za.length : Int) != (zb.length : Int)) = false := by simp [hl]
    have HL : Hid (za.length = zb.length) := hl
    clear hl
    go_enter Tryz.func54, Tryz.ntmps54
    go_wp2
    go_loopw [5] (fun i wr => ∃ k m : Nat, k ≤ za.length ∧ i = .int .i64 k ∧ za.take k = zb.take k ∧ wr = w.drewN m)
      (fun i _ => za.length - (intOf i).toNat)
    case atStart => exact ⟨0, 0, Nat.zero_le _, rfl, by simp, rfl⟩
    case round =>
      obtain ⟨k, m, hk, rfl, ht, hwr⟩ := hrel
      subst hwr
      by_cases hlt : k < za.length
      · have hlt2 : k < zb.length := by rw [← HL.out]; exact hlt
        obtain ⟨ba, offa, rfl, hba, hca⟩ := hra (fun h => by simp [h] at hlt)
        obtain ⟨bb, offb, rfl, hbb, hcb⟩ := hrb (fun h => by simp [h] at hlt2)
        have hxa := hca k hlt
        have hxb := hcb k hlt2
        have hta := take_snoc za k hlt
        have htb := take_snoc zb k hlt2
        have hla : (k : Int) < (za.length : Int) := by omega
        have hlb : (k : Int) < (zb.length : Int) := by omega
        clear hca hcb hra hrb
        by_cases hz : za[k]?.getD 0 = zb[k]?.getD 0
        · have HT : Hid (za.take (k + 1) = zb.take (k + 1)) := by unfold Hid; rw [hta, htb, ht, hz]
          clear hta htb ht
          rw [← hz] at hxb
          clear hz
          generalize za[k]?.getD 0 = z at hxa hxb
          go_wp2
          go_quiet (fail)
          go_wp2
          go_roundw
          case rel => exact ⟨k + 1, _, by omega, by go_num, HT.out, rfl⟩
          case measure => simp [intOf]; omega
        · have HF : Hid (decide (za = zb) = false) := eqByteS_false_of k hz
          generalize za[k]?.getD 0 = z at hxa hz
          generalize zb[k]?.getD 0 = z2 at hxb hz
          clear hta htb ht
          have hz2 : (z != z2) = true := by simp [hz]
          clear hz
          go_wp2
          go_quiet (fail)
          go_wp2
          go_ret
          exact ⟨by rw [HF.out]; rfl, m + nq, by rw [World.drewN_drewN]⟩
      · have HF : Hid (decide (za = zb) = true) := by
          unfold Hid
          rw [List.take_of_length_le (by omega), List.take_of_length_le (by have := HL.out; omega)] at ht
          simp [ht]
        clear ht
        go_wp2
        go_ret
        exact ⟨by rw [HF.out]; rfl, _, rfl⟩
  · have hne : ((za.length : Int) != (zb.length : Int)) = true := by simp; omega
    have HF : Hid (decide (za = zb) = false) := by
      unfold Hid
      simp only [decide_eq_false_iff_not]; intro e; exact hl (by rw [e])
    clear hl
    go_enter Tryz.func54, Tryz.ntmps54
    go_wp2
    go_ret
    exact ⟨by rw [HF.out]; rfl, 0, rfl⟩

theorem eqByteS_same (va vb : Value) (zs : List Int) (w : World) (ha : Rd .u8 w.heap.size w va zs) (hb : Rd .u8 w.heap.size w vb zs) (hn : zs.length ≤ 600000000) :
    Calls Tryz.prog 54 #[va, vb] w fun e w' => e = .returned (.bool true) ∧ w.grownBy w' none := by
  refine (eqByteS_any va vb zs zs w ha hb hn).mono ?_
  rintro e w' ⟨rfl, m, rfl⟩
  exact ⟨by simp, grown_drewN (World.grownBy.refl _ _) m⟩

end Go.Proofs.YtalkhnhhaiigiaaGreatDoor

namespace Go.Proofs.YtalkhnhhaiigiaaGreatDoor
open Go.RowKit

set_option maxHeartbeats 1000000 in
set_option maxRecDepth 100000 in
theorem eqComment_same (p : Cm) (ta tb : Value) (w : World) (ha : RdB w.heap.size w ta p.t) (hb : RdB w.heap.size w tb p.t) (hn : p.t.length ≤ 1048576) :
    Calls Tryz.prog 56 #[.agg #[.bool p.b, ta], .agg #[.bool p.b, tb]] w fun e w' => e = .returned (.bool true) ∧ w.grownBy w' none := by
  obtain ⟨a1, cap1, hva, _⟩ := id ha
  obtain ⟨a2, cap2, hvb, _⟩ := id hb
  have hg : ∀ o1 o2 : Obj, w.grownBy ((w.alloc o1).alloc o2) none := fun _ _ => grown_trans (World.grownBy_alloc _ _ _) (World.grownBy_alloc _ _ _)
  have hkk : (p.b != p.b) = false := by simp
  subst hva hvb
  go_enter Tryz.func56, Tryz.ntmps56
  go_wp2_with fail
  refine (eqByteS_any _ _ p.t p.t _ (ha.keep (hg _ _)).now (hb.keep (hg _ _)).now (by omega)).mono ?_
  rintro e w1 ⟨rfl, m, rfl⟩
  simp only [decide_true]
  go_wp2
  go_ret
  exact ⟨rfl, grown_drewN (hg _ _) m⟩

set_option maxHeartbeats 2000000 in
set_option maxRecDepth 100000 in
theorem eqCommentS_same (va vb : Value) (doc : List Cm) (w : World) (ha : RdC w.heap.size w va doc) (hb : RdC w.heap.size w vb doc) (hn : doc.length ≤ 1048576) (ht : ∀ p ∈ doc, p.t.length ≤ 1048576) :
    Calls Tryz.prog 26 #[va, vb] w fun e w' => e = .returned (.bool true) ∧ w.grownBy w' none := by
  obtain ⟨a1, cap1, hva, _⟩ := id ha
  obtain ⟨a2, cap2, hvb, _⟩ := id hb
  have hll : ((doc.length : Int) != (doc.length : Int)) = false := by simp
  subst hva hvb
  go_enter Tryz.func26, Tryz.ntmps26
  go_wp2
  go_loopw [5] (fun i wr => ∃ k : Nat, k ≤ doc.length ∧ i = .int .i64 k ∧ w.grownBy wr none) (fun i _ => doc.length - (intOf i).toNat)
  case atStart => exact ⟨0, Nat.zero_le _, rfl, World.grownBy.refl _ _⟩
  case round =>
    obtain ⟨k, hk, rfl, hgr⟩ := hrel
    by_cases hlt : k < doc.length
    · obtain ⟨b1, off1, cap1', tv1, hva1, hb1, hp1⟩ := (ha.keep hgr).at k hlt
      obtain ⟨b2, off2, cap2', tv2, hva2, hb2, hp2⟩ := (hb.keep hgr).at k hlt
      cases hva1
      cases hva2
      have k1 := hp1.k; have t1 := hp1.t
      have k2 := hp2.k; have t2 := hp2.t
      have rd1 := hp1.rd; have rd2 := hp2.rd
      obtain ⟨ta1, tcap1, htv1, _, _⟩ := hp1.sl
      obtain ⟨ta2, tcap2, htv2, _, _⟩ := hp2.sl
      have hpt := ht _ (List.getElem_mem hlt)
      have hgs := hgr.size
      clear ha hb hp1 hp2 ht
      subst htv1 htv2
      generalize doc[k] = p at k1 t1 k2 t2 rd1 rd2 hpt
      have H : Hid (∀ w' : World, wr.grownBy w' none → Calls Tryz.prog 56 #[.agg #[.bool p.b, .slice ta1 p.t.length tcap1], .agg #[.bool p.b, .slice ta2 p.t.length tcap2]] w' fun e w'' => e = .returned (.bool true) ∧ w'.grownBy w'' none) := by
        intro w' hg'
        exact eqComment_same p _ _ w' (rd1.wideC hgs |>.keep hg').now (rd2.wideC hgs |>.keep hg').now hpt
      have HG : Hid (w.grownBy wr none) := hgr
      clear rd1 rd2 hgr
      go_wp2
      have HD : Hid (wr.grownBy wr.drew none) := ⟨rfl, rfl, rfl, Nat.le_refl _, fun _ _ _ => rfl⟩
      go_region_with (go_at_call 56; refine (H.out wr.drew HD.out).mono ?_; rintro e w1 ⟨rfl, g1⟩)
      all_goals
        go_wp2
        go_roundw
        case rel => exact ⟨k + 1, by omega, by go_num, grown_trans (grown_trans HG.out HD.out) g1⟩
        case measure => simp [intOf]; omega
    · go_wp2
      go_ret
      exact ⟨rfl, hgr⟩

end Go.Proofs.YtalkhnhhaiigiaaGreatDoor

namespace Go.Proofs.YtalkhnhhaiigiaaGreatDoor
open Go.RowKit

theorem eqIntS_false_of {za zb : List Int} (k : Nat) (h : za[k]?.getD 0 ≠ zb[k]?.getD 0) : decide (za = zb) = false := by
  simp only [decide_eq_false_iff_not]; intro e; exact h (by rw [e])

set_option maxHeartbeats 400000 in
set_option maxRecDepth 100000 in
theorem eqIntS_any (va vb : Value) (za zb : List Int) (w : World) (ha : Rd .i64 w.heap.size w va za) (hb : Rd .i64 w.heap.size w vb zb) (hn : za.length ≤ 600000000) :
    Calls Tryz.prog 89 #[va, vb] w fun e w' => e = .returned (.bool (decide (za = zb))) ∧ ∃ m, w' = w.drewN m := by
  obtain ⟨a, capa, rfl, hra⟩ := ha
  obtain ⟨b, capb, rfl, hrb⟩ := hb
  by_cases hl : za.length = zb.length
  · have hne : ((za.length : Int) != (zb.length : Int)) = false := by simp [hl]
    have HL : Hid (za.length = zb.length) := hl
    clear hl
    go_enter Tryz.func89, Tryz.ntmps89
    go_wp2
    go_loopw [5] (fun i wr => ∃ k m : Nat, k ≤ za.length ∧ i = .int .i64 k ∧ za.take k = zb.take k ∧ wr = w.drewN m)
      (fun i _ => za.length - (intOf i).toNat)
    case atStart => exact ⟨0, 0, Nat.zero_le _, rfl, by simp, rfl⟩
    case round =>
      obtain ⟨k, m, hk, rfl, ht, hwr⟩ := hrel
      subst hwr
      by_cases hlt : k < za.length
      · have hlt2 : k < zb.length := by rw [← HL.out]; exact hlt
        obtain ⟨ba, offa, rfl, hba, hca⟩ := hra (fun h => by simp [h] at hlt)
        obtain ⟨bb, offb, rfl, hbb, hcb⟩ := hrb (fun h => by simp [h] at hlt2)
        have hxa := hca k hlt
        have hxb := hcb k hlt2
        have hta := take_snoc za k hlt
        have htb := take_snoc zb k hlt2
        have hla : (k : Int) < (za.length : Int) := by omega
        have hlb : (k : Int) < (zb.length : Int) := by omega
        clear hca hcb hra hrb
        by_cases hz : za[k]?.getD 0 = zb[k]?.getD 0
        · have HT : Hid (za.take (k + 1) = zb.take (k + 1)) := by unfold Hid; rw [hta, htb, ht, hz]
          clear hta htb ht
          rw [← hz] at hxb
          clear hz
          generalize za[k]?.getD 0 = z at hxa hxb
          go_wp2
          go_quiet (fail)
          go_wp2
          go_roundw
          case rel => exact ⟨k + 1, _, by omega, by go_num, HT.out, rfl⟩
          case measure => simp [intOf]; omega
        · have HF : Hid (decide (za = zb) = false) := eqIntS_false_of k hz
          generalize za[k]?.getD 0 = z at hxa hz
          generalize zb[k]?.getD 0 = z2 at hxb hz
          clear hta htb ht
          have hz2 : (z != z2) = true := by simp [hz]
          clear hz
          go_wp2
          go_quiet (fail)
          go_wp2
          go_ret
          exact ⟨by rw [HF.out]; rfl, m + nq, by rw [World.drewN_drewN]⟩
      · have HF : Hid (decide (za = zb) = true) := by
          unfold Hid
          rw [List.take_of_length_le (by omega), List.take_of_length_le (by have := HL.out; omega)] at ht
          simp [ht]
        clear ht
        go_wp2
        go_ret
        exact ⟨by rw [HF.out]; rfl, _, rfl⟩
  · have hne : ((za.length : Int) != (zb.length : Int)) = true := by simp; omega
    have HF : Hid (decide (za = zb) = false) := by
      unfold Hid
      simp only [decide_eq_false_iff_not]; intro e; exact hl (by rw [e])
    clear hl
    go_enter Tryz.func89, Tryz.ntmps89
    go_wp2
    go_ret
    exact ⟨by rw [HF.out]; rfl, 0, rfl⟩

theorem eqIntS_same (va vb : Value) (zs : List Int) (w : World) (ha : Rd .i64 w.heap.size w va zs) (hb : Rd .i64 w.heap.size w vb zs) (hn : zs.length ≤ 600000000) :
    Calls Tryz.prog 89 #[va, vb] w fun e w' => e = .returned (.bool true) ∧ w.grownBy w' none := by
  refine (eqIntS_any va vb zs zs w ha hb hn).mono ?_
  rintro e w' ⟨rfl, m, rfl⟩
  exact ⟨by simp, grown_drewN (World.grownBy.refl _ _) m⟩

end Go.Proofs.YtalkhnhhaiigiaaGreatDoor

