import Derived.Test.YtkkcnpokobndcaaDoorFsCopy
namespace Go.Proofs.YtkkcnpokobndcaaDoor
open Go.RowKit

/-- A file as it is handed on: its texts read. -/
structure FlV (B : Nat) (w : World) (p : Fl) (x : Value × Value) : Prop where
  rn : RdB B w x.1 p.n
  sn : Sl x.1 p.n.length
  rd : RdB B w x.2 p.d
  sd : Sl x.2 p.d.length
theorem FlV.keep {B : Nat} {w w' : World} {p : Fl} {x : Value × Value} (h : FlV B w p x) (g : w.grownBy w' none) : FlV B w' p x := ⟨h.rn.keep g, h.sn, h.rd.keep g, h.sd⟩
theorem FlV.wide {B B' : Nat} {w : World} {p : Fl} {x : Value × Value} (h : FlV B w p x) (hB : B ≤ B') : FlV B' w p x := ⟨h.rn.wideF hB, h.sn, h.rd.wideF hB, h.sd⟩

/-- What l7find says. -/
def FindSays (B : Nat) (fs : List Fl) (n : List Int) (e : Ending) (w' : World) : Prop :=
  match findF fs n with
  | some f => ∃ x : Value × Value, e = .returned (.tuple #[.agg #[x.1, x.2, .int .i64 f.s], .bool true]) ∧ FlV B w' f x
  | none => e = .returned (.tuple #[.agg #[.slice none 0 0, .slice none 0 0, .int .i64 0], .bool false])

set_option maxHeartbeats 4000000 in
set_option maxRecDepth 100000 in
theorem l7find_any (v nv : Value) (fs : List Fl) (n : List Int) (w : World) (hv : RdF w.heap.size w v fs) (hnv : RdB w.heap.size w nv n) (hd : Fss fs) (hb : Byt n) :
    Calls Tryd.prog 30 #[.agg #[v], nv] w fun e w' => FindSays w.heap.size fs n e w' ∧ w.grownBy w' none := by
  obtain ⟨a, cap, hv0, hcap, hmax, _⟩ := id hv
  obtain ⟨na, ncap, hn0, _⟩ := id hnv
  have hlen := hd.len
  have HV : Hid (RdF w.heap.size w v fs) := hv
  have HN : Hid (RdB w.heap.size w nv n) := hnv
  have HD : Hid (Fss fs) := hd
  subst hv0 hn0
  clear hv hd hnv
  go_enter Tryd.func30, Tryd.ntmps30
  go_wp2
  have HC : Hid (∀ wr : World, ((w.alloc (.cells #[.slice a fs.length cap] 31)).alloc (.cells #[.slice none 0 0, .slice none 0 0, .int .i64 0] 49)).grownBy wr none → wr.cell? ⟨w.heap.size, 0, none⟩ = some (.slice a fs.length cap) ∧ (wr.cell? ⟨w.heap.size + 1, 0, none⟩ = some (.slice none 0 0) ∧ wr.cell? ⟨w.heap.size + 1, 1, none⟩ = some (.slice none 0 0) ∧ wr.cell? ⟨w.heap.size + 1, 2, none⟩ = some (.int .i64 0)) ∧ wr.frozen? ⟨w.heap.size + 1, 0, none⟩ = false ∧ wr.frozen? ⟨w.heap.size + 1, 1, none⟩ = false ∧ wr.frozen? ⟨w.heap.size + 1, 2, none⟩ = false) := fun wr g =>
    ⟨g.cell (by simp [go_sem]) (by simp), ⟨g.cell (by simp [go_sem]) (by simp), g.cell (by simp [go_sem]) (by simp), g.cell (by simp [go_sem]) (by simp)⟩, (grown_bothF (v := .slice none 0 0) g (by simp [go_sem]) (by simp [go_sem])).2, (grown_bothF (v := .slice none 0 0) g (by simp [go_sem]) (by simp [go_sem])).2, (grown_bothF (v := .int .i64 0) g (by simp [go_sem]) (by simp [go_sem])).2⟩
  go_loopw [6] (fun i wr => ∃ k : Nat, k ≤ fs.length ∧ i = .int .i64 k ∧ Hid (∀ j (hj : j < k) (hl : j < fs.length), fs[j].n ≠ n) ∧ ((w.alloc (.cells #[.slice a fs.length cap] 31)).alloc (.cells #[.slice none 0 0, .slice none 0 0, .int .i64 0] 49)).grownBy wr none) (fun i _ => fs.length - (intOf i).toNat)
  case atStart => exact ⟨0, Nat.zero_le _, rfl, fun j hj => by omega, World.grownBy.refl _ _⟩
  case round =>
    obtain ⟨k, hk, rfl, HA, hgr⟩ := hrel
    obtain ⟨hfc, ⟨r0, r1, r2⟩, q0, q1, q2⟩ := HC.out wr hgr
    have hgw : w.grownBy wr none := grown_trans (grown_trans (World.grownBy_alloc _ _ _) (World.grownBy_alloc _ _ _)) hgr
    by_cases hlt : k < fs.length
    · obtain ⟨b, off, cap', x, hva, hb2, hp⟩ := (HV.out.keep hgw).at k hlt
      cases hva
      obtain ⟨fv, dv⟩ := x
      have z0 := hp.n; have z1 := hp.d; have z2 := hp.s
      have k1 := fun m => conv_str (hp.rn.keep (grown_drewN (World.grownBy.refl wr none) m))
      have k2 := fun m => conv_str (HN.out.keep (grown_drewN hgw m))
      have HE := eqStr (HD.out.byt _ (List.getElem_mem hlt)).1 hb
      have hgd : w.grownBy wr none := hgw
      have hV : FlV w.heap.size wr fs[k] (fv, dv) := ⟨hp.rn, hp.sn, hp.rd, hp.sd⟩
      obtain ⟨fa, fcap, hfv, _, _⟩ := hp.sn
      obtain ⟨da, dcap, hdv, _, _⟩ := hp.sd
      simp only at hfv hdv z0 z1 z2
      by_cases heq : fs[k].n = n
      · have HF : Hid (findF fs n = some fs[k]) := find_yes k hlt (fun j hj => HA.out j hj (by omega)) heq
        rw [decide_eq_true heq] at HE
        have HVV : Hid (FlV w.heap.size wr fs[k] (fv, dv)) := hV
        subst hfv hdv
        clear hp heq hV
        generalize fs[k] = p at *
        go_wp2
        go_quiet (fail)
        go_wp2
        refine bodyPost_ret (v := .tuple #[.agg #[.slice fa p.n.length fcap, .slice da p.d.length dcap, .int .i64 p.s], .bool true]) (by simp [results, Tryd.results30, go_sem, r0, r1, r2]) rfl ?_
        have hgz : w.grownBy ((((wr.drewN nq).setCell ⟨w.heap.size + 1, 0, none⟩ (.slice fa p.n.length fcap)).setCell ⟨w.heap.size + 1, 1, none⟩ (.slice da p.d.length dcap)).setCell ⟨w.heap.size + 1, 2, none⟩ (.int .i64 p.s)) none :=
          grown_of_below ((((below_of_grown (grown_drewN hgd nq)).setCell (by simp) _).setCell (by simp) _).setCell (by simp) _)
        have hgx : ∀ (zs : List Int) (v : Value), RdB w.heap.size wr v zs → RdB w.heap.size ((((wr.drewN nq).setCell ⟨w.heap.size + 1, 0, none⟩ (.slice fa p.n.length fcap)).setCell ⟨w.heap.size + 1, 1, none⟩ (.slice da p.d.length dcap)).setCell ⟨w.heap.size + 1, 2, none⟩ (.int .i64 p.s)) v zs := fun zs v h =>
          ((((h.keep (grown_drewN (World.grownBy.refl _ _) nq)).beside (grown_setF _ _ _) (fun k e => by cases e; simp)).beside (grown_setF _ _ _) (fun k e => by cases e; simp)).beside (grown_setF _ _ _) (fun k e => by cases e; simp))
        refine ⟨?_, hgz⟩
        unfold FindSays
        rw [HF.out]
        exact ⟨(_, _), rfl, hgx _ _ HVV.out.rn, HVV.out.sn, hgx _ _ HVV.out.rd, HVV.out.sd⟩
      · rw [decide_eq_false heq] at HE
        have HB : Hid (∀ j (hj : j < k + 1) (hl : j < fs.length), fs[j].n ≠ n) := fun j hj hl => by
          by_cases hjk : j = k
          · subst hjk; exact heq
          · exact HA.out j (by omega) hl
        subst hfv hdv
        clear hp heq hV
        generalize fs[k] = p at *
        go_wp2
        go_quiet (fail)
        go_wp2
        go_roundw
        case rel => exact ⟨k + 1, by omega, by go_num, HB, grown_drewN hgr _⟩
        case measure => simp [intOf]; omega
    · have HF : Hid (findF fs n = none) := find_no (fun j hj => HA.out j (by omega) hj)
      go_wp2
      refine bodyPost_ret (v := .tuple #[.agg #[.slice none 0 0, .slice none 0 0, .int .i64 0], .bool false]) (by simp [results, Tryd.results30, go_sem, r0, r1, r2]) rfl ?_
      refine ⟨?_, ?_⟩
      · unfold FindSays; rw [HF.out]
      · exact grown_of_below ((((below_of_grown hgw).setCell (by simp) _).setCell (by simp) _).setCell (by simp) _)

end Go.Proofs.YtkkcnpokobndcaaDoor
