import Derived.Test.YtkkcnpokobndcaaDoorFsKit
import Derived.Test.YtkkcnpokobndcaaDoorToB
import Derived.Handy
namespace Go.Proofs.YtkkcnpokobndcaaDoor
open Go.RowKit

theorem row_setF {B : Nat} {w : World} {e : TypeId} {size n : Nat} {v : Value} {xs : List Value} (h : w.ownsRow B e size v n xs) (a : Addr) (u : Value) (hb : v.ownBlock ≠ some a.block) : (w.setCell a u).ownsRow B e size v n xs :=
  World.ownsRow.kept h ⟨rfl, rfl, rfl, by simp, fun i _ hn => Below.heap_setCell _ _ _ _ (fun e => hn (by rw [e]))⟩ (by
    cases hv : v.ownBlock with
    | none => exact .inl rfl
    | some k => exact .inr (fun e => hb (by rw [hv, e])))
theorem Ow.setF {q : IntKind} {t : TypeId} {B : Nat} {w : World} {v : Value} {zs : List Int} (h : Ow q t B w v zs) (a : Addr) (u : Value) (hb : a.block < B) : Ow q t B (w.setCell a u) v zs :=
  row_setF h a u (fun e => by have := World.ownsRow.lt h _ e; omega)
theorem grown_bothF {W w1 : World} {a : Addr} {v : Value} (hg : W.grownBy w1 none) (h : W.cell? a = some v) (hf : W.frozen? a = false) : w1.cell? a = some v ∧ w1.frozen? a = false :=
  ⟨hg.cell h (by simp), (World.frozen?_of_block (hg.block a.block (World.block_lt_of_cell? W a h) (by simp))).trans hf⟩

theorem grown_setF (w : World) (a : Addr) (u : Value) : w.grownBy (w.setCell a u) (some a.block) :=
  ⟨rfl, rfl, rfl, by simp, fun i _ hn => Below.heap_setCell _ _ _ _ (fun e => hn (by rw [e]))⟩

set_option maxHeartbeats 1000000 in
set_option maxRecDepth 100000 in
theorem toFsFile_any (p : Fl) (nv dv : Value) (w : World) (hn : RdB w.heap.size w nv p.n) (hd : RdB w.heap.size w dv p.d) (ln : p.n.length ≤ 1048576) (ld : p.d.length ≤ 1048576) :
    Calls Tryd.prog 50 #[.agg #[nv, dv, .int .i64 p.s]] w fun e w' => ∃ n' d', e = .returned (.agg #[n', d', .int .i64 p.s]) ∧ OwB w.heap.size w' n' p.n ∧ OwB w.heap.size w' d' p.d ∧ Apt n' d' ∧ w.grownBy w' none := by
  obtain ⟨a, cap, hv0, _⟩ := id hn
  obtain ⟨a2, cap2, hv2, _⟩ := id hd
  go_enter Tryd.func50, Tryd.ntmps50
  subst hv0 hv2
  go_wp2_with fail
  refine (toByteS_any _ p.n _ (by refine (hn.keep ?_).now; exact grown_trans (grown_trans (World.grownBy_alloc _ _ _) (World.grownBy_alloc _ _ _)) (World.grownBy_alloc _ _ _)) (by omega)).mono ?_
  rintro e w1 ⟨tv', rfl, o1, g1⟩
  obtain ⟨a1, cap1, hv1, _⟩ := o1.rd
  have y1 := (grown_bothF (a := ⟨w.heap.size, 1, none⟩) (v := .slice a2 p.d.length cap2) g1 (by simp [go_sem]) (by simp [go_sem])).1
  have y2 := (grown_bothF (a := ⟨w.heap.size, 2, none⟩) (v := .int .i64 p.s) g1 (by simp [go_sem]) (by simp [go_sem])).1
  obtain ⟨r0, r0f⟩ := grown_bothF (a := ⟨w.heap.size + 1, 0, none⟩) (v := .slice none 0 0) g1 (by simp [go_sem]) (by simp [go_sem])
  obtain ⟨r1, r1f⟩ := grown_bothF (a := ⟨w.heap.size + 1, 1, none⟩) (v := .slice none 0 0) g1 (by simp [go_sem]) (by simp [go_sem])
  obtain ⟨r2, r2f⟩ := grown_bothF (a := ⟨w.heap.size + 1, 2, none⟩) (v := .int .i64 0) g1 (by simp [go_sem]) (by simp [go_sem])
  obtain ⟨x0, x0f⟩ := grown_bothF (a := ⟨w.heap.size + 1 + 1, 0, none⟩) (v := .slice none 0 0) g1 (by simp [go_sem]) (by simp [go_sem])
  obtain ⟨x1, x1f⟩ := grown_bothF (a := ⟨w.heap.size + 1 + 1, 1, none⟩) (v := .slice none 0 0) g1 (by simp [go_sem]) (by simp [go_sem])
  obtain ⟨x2, x2f⟩ := grown_bothF (a := ⟨w.heap.size + 1 + 1, 2, none⟩) (v := .int .i64 0) g1 (by simp [go_sem]) (by simp [go_sem])
  have bel : Below w.heap.size w w1 := (((((Below.refl w.heap.size w).alloc (Nat.le_refl _) _).alloc (by simp) _).alloc (by simp; omega) _).grown g1 (by simp; omega) (fun k e => by cases e))
  have hs1 : w.heap.size + 3 ≤ w1.heap.size := by have := g1.size; simp at this; omega
  have H : Hid (OwB (w.heap.size + 3) w1 tv' p.n) := row_base (by simp) o1
  have hd1 : RdB w.heap.size w1 (.slice a2 p.d.length cap2) p.d := hd.beside (grown_of_below bel) (fun _ e => by cases e)
  clear o1 g1 hn hd
  subst hv1
  go_wp2_with fail
  refine (toByteS_any _ p.d _ ((hd1.beside (grown_setF _ _ _) (fun k e => by cases e; simp; omega)).now) (by omega)).mono ?_
  rintro e w2 ⟨tv2, rfl, o2, g2⟩
  obtain ⟨a3, cap3, hv3, _⟩ := o2.rd
  have z2 : w2.cell? ⟨w.heap.size, 2, none⟩ = some (.int .i64 p.s) := g2.cell (by simp [go_sem, y2]) (by simp)
  obtain ⟨s0, s0f⟩ := grown_bothF (a := ⟨w.heap.size + 1, 0, none⟩) (v := .slice none 0 0) g2 (by simp [go_sem, r0]) (by simp [go_sem, r0f])
  obtain ⟨s1, s1f⟩ := grown_bothF (a := ⟨w.heap.size + 1, 1, none⟩) (v := .slice none 0 0) g2 (by simp [go_sem, r1]) (by simp [go_sem, r1f])
  obtain ⟨s2, s2f⟩ := grown_bothF (a := ⟨w.heap.size + 1, 2, none⟩) (v := .int .i64 0) g2 (by simp [go_sem, r2]) (by simp [go_sem, r2f])
  obtain ⟨u0, u0f⟩ := grown_bothF (a := ⟨w.heap.size + 1 + 1, 0, none⟩) (v := .slice a1 p.n.length cap1) g2 (by simp [go_sem, x0]) (by simp [go_sem, x0f])
  obtain ⟨u1, u1f⟩ := grown_bothF (a := ⟨w.heap.size + 1 + 1, 1, none⟩) (v := .slice none 0 0) g2 (by simp [go_sem, x1]) (by simp [go_sem, x1f])
  obtain ⟨u2, u2f⟩ := grown_bothF (a := ⟨w.heap.size + 1 + 1, 2, none⟩) (v := .int .i64 0) g2 (by simp [go_sem, x2]) (by simp [go_sem, x2f])
  have bel2 : Below w.heap.size w w2 := (bel.setCell (by simp; omega) _).grown g2 (by simp; omega) (fun k e => by cases e)
  have HA : Hid (Apt (.slice a1 p.n.length cap1) tv2) := fun g h1 h2 => by
    have l1 := World.ownsRow.lt H.out _ h1
    have l2 := World.ownsRow.lt o2 _ h2
    simp at l2
    omega
  have H1 : Hid (OwB (w.heap.size + 3) w2 (.slice a1 p.n.length cap1) p.n) := (H.out.setF _ _ (by simp)).later g2
  have H2 : Hid (OwB (w.heap.size + 3) w2 tv2 p.d) := row_base (by simp; omega) o2
  clear o2 g2 H bel hd1
  subst hv3
  go_wp2
  refine bodyPost_ret (v := .agg #[.slice a1 p.n.length cap1, .slice a3 p.d.length cap3, .int .i64 p.s]) (by simp [results, Tryd.results50, go_sem, s0, s1, s2]) rfl ?_
  refine ⟨_, _, rfl, ?_, ?_, HA.out, ?_⟩
  · exact row_base (by omega) (((((H1.out.setF _ _ (by simp)).setF _ _ (by simp)).setF _ _ (by simp)).setF _ _ (by simp)).setF _ _ (by simp))
  · exact row_base (by omega) (((((H2.out.setF _ _ (by simp)).setF _ _ (by simp)).setF _ _ (by simp)).setF _ _ (by simp)).setF _ _ (by simp))
  · exact grown_of_below (((((bel2.setCell (by simp; omega) _).setCell (by simp; omega) _).setCell (by simp) _).setCell (by simp) _).setCell (by simp) _)

def zerF : Nat → List Value
  | 0 => []
  | m + 1 => .slice none 0 0 :: .slice none 0 0 :: .int .i64 0 :: zerF m
theorem zerF_made : ∀ (n : Nat), (madeCells #[Value.slice none 0 0, .slice none 0 0, .int .i64 0] (n * 3)).toList = zerF n := by
  intro n
  apply List.ext_getElem?
  intro j
  have hz : ∀ (n j : Nat), (zerF n)[j]? = if j < n * 3 then some ((#[Value.slice none 0 0, .slice none 0 0, .int .i64 0] : Array Value).getD (j % 3) default) else none := by
    intro n
    induction n with
    | zero => intro j; simp [zerF]
    | succ n ih =>
      intro j
      match j with
      | 0 => simp [zerF]
      | 1 => simp only [zerF]; rw [if_pos (by omega)]; rfl
      | 2 => simp only [zerF]; rw [if_pos (by omega)]; rfl
      | j + 3 =>
        simp only [zerF, List.getElem?_cons_succ]
        rw [ih j, show (j + 3) % 3 = j % 3 by omega]
        by_cases h : j < n * 3
        · rw [if_pos h, if_pos (by omega)]
        · rw [if_neg h, if_neg (by omega)]
  rw [hz]
  by_cases h : j < n * 3
  · simp [madeCells, h]
  · simp [madeCells, h]

theorem setF3 (A R : List Value) (x y z x' y' z' : Value) (k : Nat) (hA : A.length = k * 3) :
    (((A ++ x :: y :: z :: R).set (k * 3) x').set (k * 3 + 1) y').set (k * 3 + 2) z' = A ++ x' :: y' :: z' :: R := by
  rw [List.set_append_right _ _ (by omega), List.set_append_right _ _ (by omega), List.set_append_right _ _ (by omega)]
  rw [show k * 3 - A.length = 0 by omega, show k * 3 + 1 - A.length = 1 by omega, show k * 3 + 2 - A.length = 2 by omega]
  rfl
theorem TxF.set {B : Nat} {w : World} {g : Nat} {fs : List Fl} {xs : List (Value × Value)} (h : TxF B w (some g) fs xs) (o : Nat) (u : Value) : TxF B (w.setCell ⟨g, o, none⟩ u) (some g) fs xs :=
  h.row (grown_setF w ⟨g, o, none⟩ u) (fun _ e => .inl e)

set_option maxHeartbeats 2000000 in
set_option maxRecDepth 100000 in
theorem toFsFileS_any (v : Value) (fs : List Fl) (w : World) (hv : RdF w.heap.size w v fs) (hn : fs.length ≤ 1048576) (ht : ∀ p ∈ fs, p.n.length ≤ 1048576 ∧ p.d.length ≤ 1048576) :
    Calls Tryd.prog 32 #[v] w fun e w' => ∃ v', e = .returned v' ∧ OwF w.heap.size w' v' fs ∧ w.grownBy w' none := by
  obtain ⟨i0, hi, hz0, hz1, hz2⟩ := info_parts infoFl
  obtain ⟨a, cap, hv0, _⟩ := id hv
  subst hv0
  go_enter Tryd.func32, Tryd.ntmps32
  go_wp2_with (at_make; refine wpList_make_full _ rfl _ _ 29 rfl w.heap.size 49 i0 (.agg #[.slice none 0 0, .slice none 0 0, .int .i64 0]) 3 Tryd.underlying29 hi hz0 hz1 _ _ _ _ fs.length rfl rfl (by omega) (by omega) ?b2 ?b3 (Nat.le_refl _) ?_)
  case b2 => rw [hz2]; omega
  case b3 => unfold maxLen; omega
  intro w0 hown0 hgrow0
  go_wp2
  go_loopw [4] (fun i wr => ∃ (k : Nat) (xs : List (Value × Value)), k ≤ fs.length ∧ i = .int .i64 k ∧ wr.ownsRow w.heap.size 49 3 (.slice (some ⟨w.heap.size, 0, none⟩) fs.length fs.length) fs.length (cellsF (fs.take k) xs ++ zerF (fs.length - k)) ∧ TxF w.heap.size wr (some w.heap.size) (fs.take k) xs ∧ w.grownBy wr none)
    (fun i _ => fs.length - (intOf i).toNat)
  case atStart =>
    refine ⟨0, [], Nat.zero_le _, rfl, ?_, ⟨rfl, fun j p tv h _ => by simp at h, by simp [pairs]⟩, hgrow0⟩
    simpa [zerF_made, Value.cells, cellsF] using hown0
  case round =>
    obtain ⟨k, xs, hk, rfl, hown, hT, hgr⟩ := hrel
    by_cases hlt : k < fs.length
    · obtain ⟨b, off, cap', x, hva, hb, hp⟩ := (hv.keep hgr).at k hlt
      cases hva
      obtain ⟨nv, dv⟩ := x
      have hk0 := hp.n; have ht0 := hp.d; have hn0 := hp.s
      have hlk : (fs.take k).length = k := by simp; omega
      have hsz : w.heap.size < wr.heap.size := (World.ownsRow.lt hown w.heap.size rfl).2
      have hcl := cellsF_len (fs.take k) xs hT.len
      have hto := toFsFile_any fs[k] nv dv wr (hp.rn.wideF (by omega)) (hp.rd.wideF (by omega)) (ht _ (List.getElem_mem hlt)).1 (ht _ (List.getElem_mem hlt)).2
      obtain ⟨ta, tcap, htv, _, _⟩ := hp.sn
      obtain ⟨ta2, tcap2, htv2, _, _⟩ := hp.sd
      simp only at htv htv2
      subst htv htv2
      have htk : fs.take (k + 1) = fs.take k ++ [fs[k]] := by rw [List.take_add_one]; simp [hlt]
      have hzr : zerF (fs.length - k) = .slice none 0 0 :: .slice none 0 0 :: .int .i64 0 :: zerF (fs.length - (k + 1)) := by
        rw [show fs.length - k = (fs.length - (k + 1)) + 1 by omega]; rfl
      rw [hzr] at hown
      clear hzr hv hp
      have A : Hid (fs.take (k + 1) = fs.take k ++ [fs[k]]) := htk
      clear htk
      generalize fs[k] = p at hk0 ht0 hn0 hto A
      go_wp2_with fail
      refine hto.mono ?_
      rintro e w1 ⟨nv', dv', rfl, o1, o2, hap, g1⟩
      have hown1 := World.ownsRow.kept hown g1 (.inr (by simp [Value.ownBlock]))
      have hc0 := World.ownsRow.cellAt hown1 (k * 3) (by omega)
      have hc1 := World.ownsRow.cellAt hown1 (k * 3 + 1) (by omega)
      have hc2 := World.ownsRow.cellAt hown1 (k * 3 + 2) (by omega)
      rw [List.getElem?_append_right (by omega), show k * 3 - (cellsF (fs.take k) xs).length = 0 by omega] at hc0
      rw [List.getElem?_append_right (by omega), show k * 3 + 1 - (cellsF (fs.take k) xs).length = 1 by omega] at hc1
      rw [List.getElem?_append_right (by omega), show k * 3 + 2 - (cellsF (fs.take k) xs).length = 2 by omega] at hc2
      simp only [List.getElem?_cons_zero, List.getElem?_cons_succ] at hc0 hc1 hc2
      have hf0 := World.ownsRow.frozenAt hown1 (k * 3)
      have hf1 := World.ownsRow.frozenAt hown1 (k * 3 + 1)
      have hf2 := World.ownsRow.frozenAt hown1 (k * 3 + 2)
      have hs0 := World.ownsRow.stored hown1 (k * 3) nv'
      have hs1 := World.ownsRow.stored hs0.1 (k * 3 + 1) dv'
      have hs2 := World.ownsRow.stored hs1.1 (k * 3 + 2) (.int .i64 p.s)
      have hrow := hs2.1
      rw [setF3 _ _ _ _ _ _ _ _ k (by omega)] at hrow
      have hT1 := (((hT.snoc (x := (nv', dv')) (by omega) (fun k e => by cases e; exact hsz) g1 o1 o2 hap).set (k * 3) nv').set (k * 3 + 1) dv').set (k * 3 + 2) (.int .i64 p.s)
      have hg3 : w.grownBy (((w1.setCell ⟨w.heap.size, k * 3, none⟩ nv').setCell ⟨w.heap.size, k * 3 + 1, none⟩ dv').setCell ⟨w.heap.size, k * 3 + 2, none⟩ (.int .i64 p.s)) none :=
        grown_of_below ((((below_of_grown (grown_trans hgr g1)).setCell (by simp) _).setCell (by simp) _).setCell (by simp) _)
      have hrow2 := cellsF_snoc (fs.take k) xs p (nv', dv') hT.len
      rw [← A.out] at hT1 hrow2
      have HR : Hid ((((w1.setCell ⟨w.heap.size, k * 3, none⟩ nv').setCell ⟨w.heap.size, k * 3 + 1, none⟩ dv').setCell ⟨w.heap.size, k * 3 + 2, none⟩ (.int .i64 p.s)).ownsRow w.heap.size 49 3 (.slice (some ⟨w.heap.size, 0, none⟩) fs.length fs.length) fs.length (cellsF (fs.take (k + 1)) (xs ++ [(nv', dv')]) ++ zerF (fs.length - (k + 1)))) := by
        unfold Hid; rw [hrow2]; simpa using hrow
      have HT : Hid (TxF _ _ _ _ _) := hT1
      obtain ⟨a1, cap1, hv1, _⟩ := o1.rd
      obtain ⟨a2, cap2, hv2, _⟩ := o2.rd
      clear hs0 hs1 hs2 hrow hrow2 hT1 hown hown1 hT o1 o2 hap g1 hcl hlk
      subst hv1 hv2
      go_wp2
      go_roundw
      case rel => exact ⟨k + 1, _, by omega, by go_num, HR.out, HT.out, hg3⟩
      case measure => simp [intOf]; omega
    · go_wp2
      go_ret
      have hkn : k = fs.length := by omega
      subst hkn
      simp only [List.take_length, Nat.sub_self, zerF, List.append_nil] at hown hT
      exact ⟨_, rfl, ⟨_, hown, hT⟩, hgr⟩

theorem OwF.setLow {B : Nat} {w : World} {v : Value} {fs : List Fl} (h : OwF B w v fs) (a : Addr) (u : Value) (hb : a.block < B) : OwF B (w.setCell a u) v fs := by
  obtain ⟨xs, ho, ht⟩ := h
  refine ⟨xs, row_setF ho a u (fun e => by have := World.ownsRow.lt ho _ e; omega), ht.len, fun j p x h1 h2 => ?_, ht.apart⟩
  obtain ⟨o1, o2, o3⟩ := ht.own j p x h1 h2
  exact ⟨o1.setF a u hb, o2.setF a u hb, o3⟩

set_option maxHeartbeats 1000000 in
theorem toFs_any (v : Value) (fs : List Fl) (w : World) (hv : RdF w.heap.size w v fs) (hn : fs.length ≤ 1048576) (ht : ∀ p ∈ fs, p.n.length ≤ 1048576 ∧ p.d.length ≤ 1048576) :
    Calls Tryd.prog 10 #[.agg #[v]] w fun e w' => ∃ v', e = .returned (.agg #[v']) ∧ OwF w.heap.size w' v' fs ∧ w.grownBy w' none := by
  obtain ⟨a, cap, hv0, _⟩ := id hv
  have HS : Hid (∀ w', w.grownBy w' none → Calls Tryd.prog 32 #[v] w' fun e w'' => ∃ v', e = .returned v' ∧ OwF w'.heap.size w'' v' fs ∧ w'.grownBy w'' none) := fun w' g => toFsFileS_any v fs w' (hv.now g) hn ht
  subst hv0
  clear hv
  go_enter Tryd.func10, Tryd.ntmps10
  go_wp2_with fail
  refine (HS.out _ (by exact grown_trans (grown_trans (World.grownBy_alloc _ _ _) (World.grownBy_alloc _ _ _)) (World.grownBy_alloc _ _ _))).mono ?_
  rintro e w1 ⟨v', rfl, o1, g1⟩
  obtain ⟨r0, r0f⟩ := grown_bothF (a := ⟨w.heap.size + 1, 0, none⟩) (v := .slice none 0 0) g1 (by simp [go_sem]) (by simp [go_sem])
  obtain ⟨x0, x0f⟩ := grown_bothF (a := ⟨w.heap.size + 1 + 1, 0, none⟩) (v := .slice none 0 0) g1 (by simp [go_sem]) (by simp [go_sem])
  have bel : Below w.heap.size w w1 := (((((Below.refl w.heap.size w).alloc (Nat.le_refl _) _).alloc (by simp) _).alloc (by simp; omega) _).grown g1 (by simp; omega) (fun k e => by cases e))
  obtain ⟨a1, cap1, hv1, _⟩ := o1.rd
  have H : Hid (OwF (w.heap.size + 3) w1 v' fs) := o1.base (by simp)
  clear o1 g1
  subst hv1
  go_wp2
  refine bodyPost_ret (v := .agg #[.slice a1 fs.length cap1]) (by simp [results, Tryd.results10, go_sem, r0]) rfl ?_
  refine ⟨_, rfl, ?_, ?_⟩
  · exact ((H.out.setLow _ _ (by simp)).setLow _ _ (by simp)).base (by omega)
  · exact grown_of_below ((bel.setCell (by simp; omega) _).setCell (by simp) _)

end Go.Proofs.YtkkcnpokobndcaaDoor
