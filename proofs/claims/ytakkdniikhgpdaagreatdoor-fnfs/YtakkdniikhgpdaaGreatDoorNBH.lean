import Derived.Test.YtakkdniikhgpdaaGreatDoorNAW
import Derived.Test.YtakkdniikhgpdaaGreatDoorNBG
namespace Go.Proofs.YtakkdniikhgpdaaGreatDoor
open Go.RowKit
attribute [-go_sem] Builtin.append_

theorem cellsF_setL3 : ∀ (fs : List Fl) (xs : List (Value × Value)) (i : Nat) (p : Fl) (s : Int), xs.length = fs.length → fs[i]? = some p → cellsF (fs.set i { p with s := s }) xs = (cellsF fs xs).set (i * 3 + 2) (.int .i64 s)
  | [], _, _, _, _, _, h => by simp at h
  | q :: fs, [], _, _, _, h, _ => by simp at h
  | q :: fs, x :: xs, 0, p, s, _, h => by simp at h; subst h; rfl
  | q :: fs, x :: xs, i + 1, p, s, hl, h => by
    have := cellsF_setL3 fs xs i p s (by simpa using hl) (by simpa using h)
    simp only [List.set_cons_succ, cellsF, this]
    rw [show (i + 1) * 3 = (i * 3 + 2) + 1 by omega]
    rfl
/-- A file's Safe is set. -/
theorem LoF.setS {B : Nat} {w : World} {g cap : Nat} {fs : List Fl} (h : LoF B w (.slice (some ⟨g, 0, none⟩) fs.length cap) fs) {i : Nat} {p : Fl} (hp : fs[i]? = some p) (s : Int) : LoF B (w.setCell ⟨g, i * 3 + 2, none⟩ (.int .i64 s)) (.slice (some ⟨g, 0, none⟩) fs.length cap) (fs.set i { p with s := s }) ∧ w.grownBy (w.setCell ⟨g, i * 3 + 2, none⟩ (.int .i64 s)) (some g) := by
  obtain ⟨xs, ho, ht⟩ := h
  obtain ⟨o2, g2⟩ := World.ownsRow.stored ho (i * 3 + 2) (.int .i64 s)
  have hX := ht.row (g' := some g) g2 (fun k e => .inl e)
  refine ⟨⟨xs, ?_, by simp [ht.len], fun j q y e1 e2 => ?_⟩, g2⟩
  · rw [cellsF_setL3 fs xs i p s ht.len hp, List.length_set]
    exact o2
  · by_cases hj : i = j
    · subst hj
      rw [List.getElem?_set_self (List.getElem?_eq_some_iff.1 hp).1] at e1
      cases e1
      exact hX.own i p y hp e2
    · rw [List.getElem?_set_ne hj] at e1
      exact hX.own j q y e1 e2

theorem Lft.drew {B h : Nat} {w w' : World} {fs' : List Fl} (H : Lft B h w fs' w') : Lft B h w fs' w'.drew := by
  obtain ⟨⟨v', hp, ⟨xs, ho, ht⟩, hB⟩, hb⟩ := H
  exact ⟨⟨v', hp, ⟨xs, ho, ht.len, ht.own⟩, hB⟩, hb.drew⟩

set_option maxHeartbeats 4000000 in
set_option maxRecDepth 100000 in
theorem sync_yes (B h : Nat) (v nv : Value) (fs : List Fl) (n : List Int) (a0 a1 a2 : Addr) (w : World) (H : HL B h w v fs) (hd : Fss fs) (hval : validF fs = true) (hn : RdB w.heap.size w nv n) (hs : Sl nv n.length) (hb : Byt n) (hok : nameOK n = true) (hno : findF fs n ≠ none) (he : Errs w a0 a1 a2) :
    Calls Tryz.prog 123 #[.pointer (some ⟨h, 0, none⟩), nv] w fun e w' => e = .returned .nilIface ∧ ∃ (i : Nat) (hi : i < fs.length), Pos fs n i ∧ fs[i].n = n ∧ Lft B h w (fs.set i { fs[i] with s := (fs[i].d.length : Int) }) w' := by
  have HF := hide (find_any h v nv fs n a0 a1 a2 w H.cell H.rd hd hval hn hs hb he)
  have HH := hide H
  have hc := H.cell
  have hBh := H.hB
  have hhl := H.lt
  have hlen : fs.length ≤ 50 := by
    by_cases hh : 50 < fs.length
    · rw [valid_long hh] at hval; cases hval
    · omega
  obtain ⟨va, vc, hv0, hv1, hv2, _⟩ := H.rd
  unfold maxLen at hv2
  obtain ⟨na, ncap, hnv0, _, _⟩ := id hs
  have hn2 : ∀ (w : World), (binOp .neq 54 .nilIface .nilIface).run Tryz.prog w = .ok (.bool false) w := fun _ => rfl
  subst hnv0 hv0
  clear hn hs hval he hd hb H
  go_enter Tryz.func123, Tryz.ntmps123
  go_wp2_with fail
  refine HF.out.mono ?_
  rintro e w1 ⟨u, rfl, fd, g⟩
  cases fd with
  | bad hk => rw [hok] at hk; cases hk
  | none i hk _ hf' => exact absurd hf' hno
  | yes i hi hk hpos heq _ =>
    have HP := hide hpos
    have HQ := hide heq
    have H1 := HH.out.later g
    have hc1 := H1.cell
    have HB1 : Hid (Below B w w1) := (below_of_grown g).mono (by omega)
    have hl1 := g.size
    obtain ⟨b, off, cap', x, hva, hbl, hp⟩ := H1.rd.at i hi
    obtain ⟨xs, ho, ht⟩ := id H1.lo
    obtain ⟨g0, hva2⟩ : ∃ g0, va = some ⟨g0, 0, none⟩ := by
      rcases ho.2 with ⟨e, e2⟩ | ⟨g0, cap, cur, e, _⟩
      · omega
      · cases e; exact ⟨g0, rfl⟩
    subst hva2
    cases hva
    have hgh : b ≠ h := fun e => by
      obtain ⟨cur, hc⟩ := own_type ho (k := b) rfl
      rw [e, H1.hp] at hc
      cases hc
    have y1 := hp.d
    have y2 := hp.s
    have f2 : w1.frozen? ⟨b, i * 3 + 2, none⟩ = false := World.ownsRow.frozenAt ho _
    have hBg := (own_cap ho).2.2.1
    obtain ⟨xn, xd⟩ := x
    obtain ⟨da, dcap, hdv, _, _⟩ := hp.sd
    simp only at hdv y1
    subst hdv
    rw [Nat.zero_add] at y1 y2
    obtain ⟨hS, gS⟩ := H1.lo.setS (List.getElem?_eq_getElem hi) (fs[i].d.length : Int)
    have HL2 : Hid (Lft B h w (fs.set i { fs[i] with s := (fs[i].d.length : Int) }) (w1.setCell ⟨b, i * 3 + 2, none⟩ (.int .i64 (fs[i].d.length : Int)))) := by
      refine ⟨⟨_, ⟨by rw [gS.block h (by omega) (by simpa using fun e => hgh e.symm)]; exact H1.hp, hS, hBh⟩⟩, HB1.out.trans ((Below.refl B w1).grown gS (by omega) (fun k e => by cases e; exact hBg))⟩
    clear hp g hpos heq hS gS H1 ho ht HF HH hc
    generalize hdl : fs[i].d.length = dl at *
    have mixed : Tryz.prog.follows .mixedOrders = true := by kernel_rfl
    have hil : (i : Int) < fs.length := by omega
    go_wp2
    go_region
    go_wp2
    go_ret
    exact ⟨rfl, i, hi, HP.out, HQ.out, by rw [hdl]; exact HL2.out.drew⟩
end Go.Proofs.YtakkdniikhgpdaaGreatDoor

namespace Go.Proofs.YtakkdniikhgpdaaGreatDoor
open Go.RowKit
attribute [-go_sem] Builtin.append_

theorem Fss.sub {fs gs : List Fl} (h : Fss fs) (hs : gs.length ≤ fs.length) (hm : ∀ p ∈ gs, p ∈ fs) : Fss gs := ⟨Nat.le_trans hs h.len, fun p hp => h.tlen p (hm p hp), fun p hp => h.byt p (hm p hp)⟩
theorem del_mem {fs : List Fl} {i : Nat} : ∀ p ∈ fs.take i ++ fs.drop (i + 1), p ∈ fs := fun p hp => by
  rcases List.mem_append.1 hp with h | h
  · exact List.mem_of_mem_take h
  · exact List.mem_of_mem_drop h

set_option maxHeartbeats 4000000 in
set_option maxRecDepth 100000 in
theorem rename_new (B h : Nat) (v fv tv : Value) (fs : List Fl) (n m : List Int) (a0 a1 a2 : Addr) (w : World) (H : HL B h w v fs) (hd : Fss fs) (hval : validF fs = true) (hn : RdB w.heap.size w fv n) (hs : Sl fv n.length) (hb : Byt n) (hok : nameOK n = true) (hm : RdB w.heap.size w tv m) (hsm : Sl tv m.length) (hbm : Byt m) (hokm : nameOK m = true) (hfr : findF fs n ≠ none) (hto : findF fs m = none) (he : ∀ W, Below B w W → Errs W a0 a1 a2) :
    Calls Tryz.prog 122 #[.pointer (some ⟨h, 0, none⟩), fv, tv] w fun e w' => e = .returned .nilIface ∧ ∃ (i k : Nat) (hi : i < fs.length), fs[i].n = n ∧ Pos (fs.take i ++ fs.drop (i + 1)) m k ∧ Lft B h w ((fs.take i ++ fs.drop (i + 1)).take k ++ { fs[i] with n := m } :: (fs.take i ++ fs.drop (i + 1)).drop k) w' := by
  have hml : m.length ≤ 100 := by
    unfold nameOK at hokm
    have := of_decide_eq_true hokm
    omega
  obtain ⟨ta, tc, htv0, _, ht2⟩ := id hsm
  unfold maxLen at ht2
  have HNm := hide (fun w => canBeName_any ta m tc w (by omega))
  rw [hokm] at HNm
  have HF := hide (find_any h v fv fs n a0 a1 a2 w H.cell H.rd hd hval hn hs hb (he w (Below.refl _ _)))
  have HC : Hid (∀ W : World, w.grownBy W none → _) := fun W (g : w.grownBy W none) => bytesClone_any tv m W ((hm.keep g).wideF g.size) (by omega)
  have HH := hide H
  have HDd := hide hd
  have HVl := hide hval
  have hBh := H.hB
  have hhl := H.lt
  have hlen := valid_len50 hval
  obtain ⟨va, vc, hv0, _⟩ := H.rd
  obtain ⟨fa, fc, hfv0, _, _⟩ := id hs
  have hn2 : ∀ (w : World), (binOp .neq 54 .nilIface .nilIface).run Tryz.prog w = .ok (.bool false) w := fun _ => rfl
  subst hfv0 htv0 hv0
  clear hn hs hval hd hb H hm hsm
  go_enter Tryz.func122, Tryz.ntmps122
  go_wp2_with fail
  refine (HNm.out _).mono ?_; rintro e w1 ⟨rfl, rfl⟩
  go_wp2_with fail
  refine HF.out.mono ?_
  rintro e w1 ⟨u, rfl, fd, g⟩
  cases fd with
  | bad hk => rw [hok] at hk; cases hk
  | none i hk _ hf' => exact absurd hf' hfr
  | yes i hi hk hpos heq _ =>
    have HQ := hide heq
    have H1 := HH.out.later g
    have hc1 := H1.cell
    have HB1 : Hid (Below B w w1) := (below_of_grown g).mono (by omega)
    have hl1 := g.size
    have G1 := hide g
    obtain ⟨xs, ho, ht⟩ := id H1.lo
    obtain ⟨g0, hva2⟩ : ∃ g0, va = some ⟨g0, 0, none⟩ := by
      rcases ho.2 with ⟨e, e2⟩ | ⟨g0, cap, cur, e, _⟩
      · omega
      · cases e; exact ⟨g0, rfl⟩
    subst hva2
    obtain ⟨⟨xn, xd⟩, hx, z0, z1, z2⟩ := cellsF_at fs xs i fs[i] ht.len (List.getElem?_eq_getElem hi)
    obtain ⟨on, od, hnb⟩ := ht.own i _ _ (List.getElem?_eq_getElem hi) hx
    have y0 : w1.cell? ⟨g0, i * 3, none⟩ = some xn := by rw [World.ownsRow.cellAt ho _ (by omega)]; exact z0
    have y1 : w1.cell? ⟨g0, i * 3 + 1, none⟩ = some xd := by rw [World.ownsRow.cellAt ho _ (by omega)]; exact z1
    have y2 : w1.cell? ⟨g0, i * 3 + 2, none⟩ = some (.int .i64 fs[i].s) := by rw [World.ownsRow.cellAt ho _ (by omega)]; exact z2
    obtain ⟨xna, xnc, hxn, _, _⟩ := on.sl
    obtain ⟨xda, xdc, hxd, _, _⟩ := od.sl
    simp only at hxn hxd
    have hgh : g0 ≠ h := fun e => by
      obtain ⟨cur, hc⟩ := own_type ho (k := g0) rfl
      rw [e, H1.hp] at hc
      cases hc
    have hBg := (own_cap ho).2.2.1
    have hgl := (own_cap ho).2.2.2
    have hcap := (own_cap ho).1
    subst hxn hxd
    have hil : (i : Int) < fs.length := by omega
    obtain ⟨W2, hW2⟩ : ∃ W2, W2 = w1.alloc (Obj.cells #[.slice xna fs[i].n.length xnc, .slice xda fs[i].d.length xdc, .int .i64 fs[i].s] 45) := ⟨_, rfl⟩
    have gA : w1.grownBy W2 none := by rw [hW2]; exact World.grownBy_alloc _ _ _
    have sA : W2.heap.size = w1.heap.size + 1 := by rw [hW2]; simp
    have k0 : W2.cell? ⟨w1.heap.size, 0, none⟩ = some (.slice xna fs[i].n.length xnc) := by rw [hW2]; simp [go_sem]
    have k1 : W2.cell? ⟨w1.heap.size, 1, none⟩ = some (.slice xda fs[i].d.length xdc) := by rw [hW2]; simp [go_sem]
    have k2 : W2.cell? ⟨w1.heap.size, 2, none⟩ = some (.int .i64 fs[i].s) := by rw [hW2]; simp [go_sem]
    have kf : W2.frozen? ⟨w1.heap.size, 0, none⟩ = false := by rw [hW2]; simp [go_sem]
    have HCl := hide (HC.out W2 (grown_trans g gA))
    have HW2 := hide hW2
    rw [hW2] at HCl
    have HGA := hide gA
    have HH1 := hide H1
    have HON := hide on
    have HOD := hide od
    have HNB := hide hnb
    have HT := hide ht
    have HX := hide hx
    clear HF HC HNm H1 ho ht g gA hW2 on od hnb z0 z1 z2 hpos
    go_wp2_with fail
    rw [heq] at HCl
    refine HCl.out.mono ?_
    rintro e w3 ⟨x1, rfl, o3, g3⟩
    have hW2 := HW2.out
    rw [heq] at hW2
    rw [← hW2] at o3 g3
    obtain ⟨x1a, x1c, hx1, _, _⟩ := o3.sl
    have m0 := g3.cell k0 (by simp)
    have m1 := g3.cell k1 (by simp)
    have m2 := g3.cell k2 (by simp)
    have mf := (World.frozen?_of_block (a := ⟨w1.heap.size, 0, none⟩) (g3.block w1.heap.size (by omega) (by simp))).trans kf
    have hs3 := g3.size
    obtain ⟨w4, hw4⟩ : ∃ w4, w4 = w3.setCell ⟨w1.heap.size, 0, none⟩ x1 := ⟨_, rfl⟩
    have gS : w3.grownBy w4 (some w1.heap.size) := by rw [hw4]; exact ⟨rfl, rfl, rfl, by simp, fun k _ hn => Below.heap_setCell _ _ _ _ (fun e => hn (by rw [e]))⟩
    have g14 : w1.grownBy w4 none := grown_new (grown_trans HGA.out g3) gS (fun j e => by cases e; exact Nat.le_refl _)
    have H4 := HH1.out.later g14
    have n0 : w4.cell? ⟨w1.heap.size, 0, none⟩ = some x1 := by rw [hw4]; exact World.cell?_setCell_same _ _ _ m0
    have n1 : w4.cell? ⟨w1.heap.size, 1, none⟩ = some (.slice xda fs[i].d.length xdc) := by rw [hw4, World.cell?_setCell_other _ _ _ _ (by simp)]; exact m1
    have n2 : w4.cell? ⟨w1.heap.size, 2, none⟩ = some (.int .i64 fs[i].s) := by rw [hw4, World.cell?_setCell_other _ _ _ _ (by simp)]; exact m2
    have hc4 := H4.cell
    have hs4 := g14.size
    have hx4 : w4.heap.size = w3.heap.size := by rw [hw4]; simp
    obtain ⟨ys, ho4, ht4⟩ := id H4.lo
    have HD := hide (delete_any g0 fs.length vc i (cellsF fs ys) B w4 ho4 hi (by omega) (cellsF_oneL ht4))
    have HO1 : Hid (OwB W2.heap.size w4 x1 m) := o3.beside gS (fun k hk j hj e => by cases hj; have := World.ownsRow.lt o3 _ hk; omega)
    have HOd : Hid (OwB B w4 (.slice xda fs[i].d.length xdc) fs[i].d) := HOD.out.later g14
    have HT4 := hide ht4
    have HH4 := hide H4
    have G14 := hide g14
    have HW4 := hide hw4
    subst hx1
    have hw1 : IntKind.i64.wrap ((i : Int) + 1) = (i : Int) + 1 := by rw [IntKind.wrap_i64]; omega
    have hc5 := hc4
    rw [hw4] at hc5
    have HD5 := HD
    rw [hw4] at HD5
    have hh4 : h < w4.heap.size := by omega
    have hg4 : g0 < w4.heap.size := by omega
    clear o3 g3 gS g14 H4 ho4 ht4 hW2 HCl k0 k1 k2 kf HD hw4
    go_wp2_with fail
    refine HD5.out.mono ?_
    rintro e w5 ⟨rfl, o5, g5⟩
    rw [← HW4.out] at g5
    have hp5 : w5.heap[h]? = _ := (g5.block h hh4 (by simpa using fun e => hgh e.symm)).trans HH4.out.hp
    have cc5 : w5.cell? ⟨h, 0, none⟩ = some (.slice (some ⟨g0, 0, none⟩) fs.length vc) := by rw [cell_of_row w5 h 0 _ _ (0, 0) hp5]; rfl
    have f5 : w5.frozen? ⟨h, 0, none⟩ = false := frozen_of_row w5 h 0 _ _ hp5
    have L5 := LoF.del HT4.out hi o5 g5
    have H6 := HL.put hp5 hBh L5
    obtain ⟨w6, hw6⟩ : ∃ w6, w6 = w5.setCell ⟨h, 0, none⟩ (.slice (some ⟨g0, 0, none⟩) (fs.length - 1) vc) := ⟨_, rfl⟩
    have gS6 : w5.grownBy w6 (some h) := by rw [hw6]; exact ⟨rfl, rfl, rfl, by simp, fun k _ hn => Below.heap_setCell _ _ _ _ (fun e => hn (by rw [e]))⟩
    rw [← hw6] at H6
    have hP : w1.heap.size ≠ g0 := by omega
    have hPh : w1.heap.size ≠ h := by omega
    have t0 := gS6.cell (g5.cell n0 (by simpa using hP)) (by simpa using hPh)
    have t1 := gS6.cell (g5.cell n1 (by simpa using hP)) (by simpa using hPh)
    have t2 := gS6.cell (g5.cell n2 (by simpa using hP)) (by simpa using hPh)
    have B6 : Below B w w6 := ((HB1.out.trans ((below_of_grown G14.out).mono (by omega))).trans ((Below.refl B w4).grown g5 (by omega) (fun k e => by cases e; exact hBg))).trans (by rw [hw6]; exact (Below.refl B w5).setCell (by simpa using hBh) _)
    have hty : ∀ {u : Value} {zs : List Int} {B' : Nat}, OwB B' w5 u zs → u.ownBlock ≠ some h := fun o e => by
      obtain ⟨cur, hc⟩ := own_type o e
      rw [hp5] at hc
      cases hc
    have q1 : OwB W2.heap.size w5 (.slice x1a m.length x1c) m := HO1.out.beside g5 (fun k hk j hj e => by cases hj; have := World.ownsRow.lt HO1.out _ hk; omega)
    have q2 : OwB B w5 (.slice xda fs[i].d.length xdc) fs[i].d := HOd.out.beside g5 (fun k hk j hj e => by cases hj; exact (HNB.out g0 rfl).2 (by rw [← e]; exact hk))
    have r1 : OwB B w6 (.slice x1a m.length x1c) m := row_base (by omega) (q1.beside gS6 (fun k hk j hj e => by cases hj; subst e; exact hty q1 hk))
    have r2 : OwB B w6 (.slice xda fs[i].d.length xdc) fs[i].d := q2.beside gS6 (fun k hk j hj e => by cases hj; subst e; exact hty q2 hk)
    have hl6 : (fs.take i ++ fs.drop (i + 1)).length = fs.length - 1 := by simp; omega
    have hne1 : (Value.slice x1a m.length x1c).ownBlock ≠ some g0 := fun e2 => by have := World.ownsRow.lt HO1.out g0 e2; omega
    have hne2 : ∀ k, g0 = k → (Value.slice x1a m.length x1c).ownBlock ≠ some k ∧ (Value.slice xda fs[i].d.length xdc).ownBlock ≠ some k := fun k e => by rw [← e]; exact ⟨hne1, (HNB.out g0 rfl).2⟩
    have HPut := hide (put_new B h (.slice (some ⟨g0, 0, none⟩) (fs.length - 1) vc) (.slice x1a m.length x1c) (.slice xda fs[i].d.length xdc) (fs.take i ++ fs.drop (i + 1)) { fs[i] with n := m } a0 a1 a2 w6 H6 (HDd.out.sub (by rw [hl6]; omega) del_mem) (valid_del HVl.out i) r1 r2 (fun k e => hne2 k (by simpa [Value.ownBlock] using e)) hbm hokm (find_of_none fun p hp => find_noneF hto p (del_mem p hp)) (by rw [hl6]; omega) (he w6 B6))
    have HB6 := hide B6
    have HW6 := hide hw6
    rw [hw6] at t0 t1 t2
    have HPut6 := HPut
    rw [hw6] at HPut6
    clear hp5 L5 H6 gS6 q1 q2 r1 r2 o5 g5 B6 HD5 hw6 hty HPut
    go_wp2_with fail
    refine HPut6.out.mono ?_
    rintro e w7 ⟨rfl, k, hpk, hL⟩
    rw [← HW6.out] at hL
    have HR := hide (hL.pre HB6.out)
    have HPk := hide hpk
    clear hL hpk
    go_wp2
    go_ret
    exact ⟨rfl, i, k, hi, HQ.out, HPk.out, HR.out⟩
end Go.Proofs.YtakkdniikhgpdaaGreatDoor

namespace Go.Proofs.YtakkdniikhgpdaaGreatDoor
open Go.RowKit
attribute [-go_sem] Builtin.append_

theorem FsCtx.loose {w W : World} {pv v : Value} {X : List Fl} {B : Nat} (h : FsCtx w W pv) (o : LoF B W v X) (hB : w.heap.size + 2 ≤ B) (u : Value) : LoF w.heap.size (W.setCell ⟨w.heap.size + 1, 0, none⟩ u) v X ∧ w.grownBy (W.setCell ⟨w.heap.size + 1, 0, none⟩ u) none :=
  ⟨(o.setLow _ _ (by simp; omega)).base (by omega), grown_of_below ((below_of_grown h.g).setCell (by simp) _)⟩
theorem LoF.sl {B : Nat} {w : World} {v : Value} {fs : List Fl} (h : LoF B w v fs) : ∃ a c, v = .slice a fs.length c := by
  obtain ⟨a, c, e, _⟩ := h.rd
  exact ⟨a, c, e⟩

set_option maxHeartbeats 8000000 in
set_option maxRecDepth 100000 in
theorem afterFsWrite_ok (v c0 c1 : Value) (fs : List Fl) (P : List Fl → Prop) (a0 a1 a2 : Addr) (w : World) (hv : RdF w.heap.size w v fs) (hd : Fss fs) (hval : validF fs = true) (he : Errs w a0 a1 a2)
    (HCL : ∀ (B h : Nat) (u : Value) (W : World), w.grownBy W none → w.heap.size ≤ B → HL B h W u fs → Calls Tryz.prog 27 #[.iface 59 (.pointer (some ⟨h, 0, none⟩)), c0, c1] W fun e W' => e = .returned (.nilIface) ∧ ∃ fs', P fs' ∧ Lft B h W fs' W') :
    Calls Tryz.prog 26 #[.agg #[v], .func (.func 27) #[] #[c0, c1]] w fun e w' => ∃ v' fs', e = .returned (.tuple #[.agg #[v'], .int .i64 0]) ∧ P fs' ∧ LoF w.heap.size w' v' fs' ∧ w.grownBy w' none := by
  obtain ⟨a, cap, hv0, _⟩ := id hv
  have HVa := hide (fun (w' : World) (g : w.grownBy w' none) => implValid_any v fs w' (hv.now g) hd)
  rw [hval] at HVa
  have HCp := hide (fun (w' : World) (g : w.grownBy w' none) => copyFiles_any v fs w' (hv.now g) hd)
  have HC := hide HCL
  have HE := hide he
  subst hv0
  clear hv hval hd HCL he
  go_enter Tryz.func26, Tryz.ntmps26
  go_wp2_with fail
  have CX0 := hide (FsCtx.start w (.slice a fs.length cap))
  refine (HVa.out _ CX0.out.g).mono ?_
  rintro e w1 ⟨rfl, g1⟩
  have CX := hide (CX0.out.later g1)
  have cp := CX.out.p
  clear g1 CX0
  go_wp2_with fail
  refine (HCp.out _ CX.out.g).mono ?_
  rintro e w2 ⟨wr, u, rfl, o2, g2, rfl⟩
  have gA := World.grownBy_alloc wr (Obj.cells #[u] 81) none
  have G2 : Hid (w1.grownBy (wr.alloc (Obj.cells #[u] 81)) none) := grown_trans g2 gA
  have hs1 := CX.out.s
  have hB := g2.size
  have HH : HL w1.heap.size wr.heap.size (wr.alloc (Obj.cells #[u] 81)) u fs := ⟨heap_alloc_new wr _, (o2.later gA).lo.base (by omega), hB⟩
  have HCl := hide (HC.out w1.heap.size wr.heap.size u _ (grown_trans CX.out.g G2.out) (by omega) HH)
  clear o2 g2 gA HH
  go_wp2_with fail
  refine HCl.out.mono ?_
  rintro e w3 ⟨rfl, fs', hP, ⟨u', H3⟩, b3⟩
  have HP := hide hP
  clear hP
  have g13 : w1.grownBy w3 none := grown_of_below ((below_of_grown G2.out).trans (b3.mono (by omega)))
  have CX3 := hide (CX.out.later g13)
  have c3 := H3.cell
  obtain ⟨ua, uc, hu0⟩ := H3.lo.sl
  have O3 := hide H3.lo
  have HCo := hide (codeOf_nil w3)
  subst hu0
  clear H3 b3 g13
  go_wp2_with fail
  refine HCo.out.mono ?_; rintro e w4 ⟨rfl, rfl⟩
  have rr := CX3.out.r
  have rf := CX3.out.f
  have HSt := hide (state_any wr.heap.size ua fs'.length uc w3 c3)
  go_wp2_with fail
  refine HSt.out.mono ?_; rintro e w5 ⟨rfl, g5⟩
  have CX5 := hide (CX3.out.later g5)
  have O5 := hide (O3.out.later g5)
  have rr := CX5.out.r
  have rf := CX5.out.f
  clear g5
  go_wp2
  refine bodyPost_ret (v := .tuple #[.agg #[(.slice ua fs'.length uc)], .int .i64 0]) (by simp [results, Tryz.results26, go_sem, rr]) rfl ?_
  exact ⟨_, fs', rfl, HP.out, CX5.out.loose O5.out (by omega) _⟩

set_option maxHeartbeats 8000000 in
set_option maxRecDepth 100000 in
theorem afterFsSync_ok (v c0 : Value) (fs : List Fl) (P : List Fl → Prop) (a0 a1 a2 : Addr) (w : World) (hv : RdF w.heap.size w v fs) (hd : Fss fs) (hval : validF fs = true) (he : Errs w a0 a1 a2)
    (HCL : ∀ (B h : Nat) (u : Value) (W : World), w.grownBy W none → w.heap.size ≤ B → HL B h W u fs → Calls Tryz.prog 33 #[.iface 59 (.pointer (some ⟨h, 0, none⟩)), c0] W fun e W' => e = .returned (.nilIface) ∧ ∃ fs', P fs' ∧ Lft B h W fs' W') :
    Calls Tryz.prog 26 #[.agg #[v], .func (.func 33) #[] #[c0]] w fun e w' => ∃ v' fs', e = .returned (.tuple #[.agg #[v'], .int .i64 0]) ∧ P fs' ∧ LoF w.heap.size w' v' fs' ∧ w.grownBy w' none := by
  obtain ⟨a, cap, hv0, _⟩ := id hv
  have HVa := hide (fun (w' : World) (g : w.grownBy w' none) => implValid_any v fs w' (hv.now g) hd)
  rw [hval] at HVa
  have HCp := hide (fun (w' : World) (g : w.grownBy w' none) => copyFiles_any v fs w' (hv.now g) hd)
  have HC := hide HCL
  have HE := hide he
  subst hv0
  clear hv hval hd HCL he
  go_enter Tryz.func26, Tryz.ntmps26
  go_wp2_with fail
  have CX0 := hide (FsCtx.start w (.slice a fs.length cap))
  refine (HVa.out _ CX0.out.g).mono ?_
  rintro e w1 ⟨rfl, g1⟩
  have CX := hide (CX0.out.later g1)
  have cp := CX.out.p
  clear g1 CX0
  go_wp2_with fail
  refine (HCp.out _ CX.out.g).mono ?_
  rintro e w2 ⟨wr, u, rfl, o2, g2, rfl⟩
  have gA := World.grownBy_alloc wr (Obj.cells #[u] 81) none
  have G2 : Hid (w1.grownBy (wr.alloc (Obj.cells #[u] 81)) none) := grown_trans g2 gA
  have hs1 := CX.out.s
  have hB := g2.size
  have HH : HL w1.heap.size wr.heap.size (wr.alloc (Obj.cells #[u] 81)) u fs := ⟨heap_alloc_new wr _, (o2.later gA).lo.base (by omega), hB⟩
  have HCl := hide (HC.out w1.heap.size wr.heap.size u _ (grown_trans CX.out.g G2.out) (by omega) HH)
  clear o2 g2 gA HH
  go_wp2_with fail
  refine HCl.out.mono ?_
  rintro e w3 ⟨rfl, fs', hP, ⟨u', H3⟩, b3⟩
  have HP := hide hP
  clear hP
  have g13 : w1.grownBy w3 none := grown_of_below ((below_of_grown G2.out).trans (b3.mono (by omega)))
  have CX3 := hide (CX.out.later g13)
  have c3 := H3.cell
  obtain ⟨ua, uc, hu0⟩ := H3.lo.sl
  have O3 := hide H3.lo
  have HCo := hide (codeOf_nil w3)
  subst hu0
  clear H3 b3 g13
  go_wp2_with fail
  refine HCo.out.mono ?_; rintro e w4 ⟨rfl, rfl⟩
  have rr := CX3.out.r
  have rf := CX3.out.f
  have HSt := hide (state_any wr.heap.size ua fs'.length uc w3 c3)
  go_wp2_with fail
  refine HSt.out.mono ?_; rintro e w5 ⟨rfl, g5⟩
  have CX5 := hide (CX3.out.later g5)
  have O5 := hide (O3.out.later g5)
  have rr := CX5.out.r
  have rf := CX5.out.f
  clear g5
  go_wp2
  refine bodyPost_ret (v := .tuple #[.agg #[(.slice ua fs'.length uc)], .int .i64 0]) (by simp [results, Tryz.results26, go_sem, rr]) rfl ?_
  exact ⟨_, fs', rfl, HP.out, CX5.out.loose O5.out (by omega) _⟩

set_option maxHeartbeats 8000000 in
set_option maxRecDepth 100000 in
theorem afterFsRename_ok (v c0 c1 : Value) (fs : List Fl) (P : List Fl → Prop) (a0 a1 a2 : Addr) (w : World) (hv : RdF w.heap.size w v fs) (hd : Fss fs) (hval : validF fs = true) (he : Errs w a0 a1 a2)
    (HCL : ∀ (B h : Nat) (u : Value) (W : World), w.grownBy W none → w.heap.size ≤ B → HL B h W u fs → Calls Tryz.prog 34 #[.iface 59 (.pointer (some ⟨h, 0, none⟩)), c0, c1] W fun e W' => e = .returned (.nilIface) ∧ ∃ fs', P fs' ∧ Lft B h W fs' W') :
    Calls Tryz.prog 26 #[.agg #[v], .func (.func 34) #[] #[c0, c1]] w fun e w' => ∃ v' fs', e = .returned (.tuple #[.agg #[v'], .int .i64 0]) ∧ P fs' ∧ LoF w.heap.size w' v' fs' ∧ w.grownBy w' none := by
  obtain ⟨a, cap, hv0, _⟩ := id hv
  have HVa := hide (fun (w' : World) (g : w.grownBy w' none) => implValid_any v fs w' (hv.now g) hd)
  rw [hval] at HVa
  have HCp := hide (fun (w' : World) (g : w.grownBy w' none) => copyFiles_any v fs w' (hv.now g) hd)
  have HC := hide HCL
  have HE := hide he
  subst hv0
  clear hv hval hd HCL he
  go_enter Tryz.func26, Tryz.ntmps26
  go_wp2_with fail
  have CX0 := hide (FsCtx.start w (.slice a fs.length cap))
  refine (HVa.out _ CX0.out.g).mono ?_
  rintro e w1 ⟨rfl, g1⟩
  have CX := hide (CX0.out.later g1)
  have cp := CX.out.p
  clear g1 CX0
  go_wp2_with fail
  refine (HCp.out _ CX.out.g).mono ?_
  rintro e w2 ⟨wr, u, rfl, o2, g2, rfl⟩
  have gA := World.grownBy_alloc wr (Obj.cells #[u] 81) none
  have G2 : Hid (w1.grownBy (wr.alloc (Obj.cells #[u] 81)) none) := grown_trans g2 gA
  have hs1 := CX.out.s
  have hB := g2.size
  have HH : HL w1.heap.size wr.heap.size (wr.alloc (Obj.cells #[u] 81)) u fs := ⟨heap_alloc_new wr _, (o2.later gA).lo.base (by omega), hB⟩
  have HCl := hide (HC.out w1.heap.size wr.heap.size u _ (grown_trans CX.out.g G2.out) (by omega) HH)
  clear o2 g2 gA HH
  go_wp2_with fail
  refine HCl.out.mono ?_
  rintro e w3 ⟨rfl, fs', hP, ⟨u', H3⟩, b3⟩
  have HP := hide hP
  clear hP
  have g13 : w1.grownBy w3 none := grown_of_below ((below_of_grown G2.out).trans (b3.mono (by omega)))
  have CX3 := hide (CX.out.later g13)
  have c3 := H3.cell
  obtain ⟨ua, uc, hu0⟩ := H3.lo.sl
  have O3 := hide H3.lo
  have HCo := hide (codeOf_nil w3)
  subst hu0
  clear H3 b3 g13
  go_wp2_with fail
  refine HCo.out.mono ?_; rintro e w4 ⟨rfl, rfl⟩
  have rr := CX3.out.r
  have rf := CX3.out.f
  have HSt := hide (state_any wr.heap.size ua fs'.length uc w3 c3)
  go_wp2_with fail
  refine HSt.out.mono ?_; rintro e w5 ⟨rfl, g5⟩
  have CX5 := hide (CX3.out.later g5)
  have O5 := hide (O3.out.later g5)
  have rr := CX5.out.r
  have rf := CX5.out.f
  clear g5
  go_wp2
  refine bodyPost_ret (v := .tuple #[.agg #[(.slice ua fs'.length uc)], .int .i64 0]) (by simp [results, Tryz.results26, go_sem, rr]) rfl ?_
  exact ⟨_, fs', rfl, HP.out, CX5.out.loose O5.out (by omega) _⟩

set_option maxHeartbeats 8000000 in
set_option maxRecDepth 100000 in
theorem afterFsRemove_ok (v c0 : Value) (fs : List Fl) (P : List Fl → Prop) (a0 a1 a2 : Addr) (w : World) (hv : RdF w.heap.size w v fs) (hd : Fss fs) (hval : validF fs = true) (he : Errs w a0 a1 a2)
    (HCL : ∀ (B h : Nat) (u : Value) (W : World), w.grownBy W none → w.heap.size ≤ B → HL B h W u fs → Calls Tryz.prog 35 #[.iface 59 (.pointer (some ⟨h, 0, none⟩)), c0] W fun e W' => e = .returned (.nilIface) ∧ ∃ fs', P fs' ∧ Lft B h W fs' W') :
    Calls Tryz.prog 26 #[.agg #[v], .func (.func 35) #[] #[c0]] w fun e w' => ∃ v' fs', e = .returned (.tuple #[.agg #[v'], .int .i64 0]) ∧ P fs' ∧ LoF w.heap.size w' v' fs' ∧ w.grownBy w' none := by
  obtain ⟨a, cap, hv0, _⟩ := id hv
  have HVa := hide (fun (w' : World) (g : w.grownBy w' none) => implValid_any v fs w' (hv.now g) hd)
  rw [hval] at HVa
  have HCp := hide (fun (w' : World) (g : w.grownBy w' none) => copyFiles_any v fs w' (hv.now g) hd)
  have HC := hide HCL
  have HE := hide he
  subst hv0
  clear hv hval hd HCL he
  go_enter Tryz.func26, Tryz.ntmps26
  go_wp2_with fail
  have CX0 := hide (FsCtx.start w (.slice a fs.length cap))
  refine (HVa.out _ CX0.out.g).mono ?_
  rintro e w1 ⟨rfl, g1⟩
  have CX := hide (CX0.out.later g1)
  have cp := CX.out.p
  clear g1 CX0
  go_wp2_with fail
  refine (HCp.out _ CX.out.g).mono ?_
  rintro e w2 ⟨wr, u, rfl, o2, g2, rfl⟩
  have gA := World.grownBy_alloc wr (Obj.cells #[u] 81) none
  have G2 : Hid (w1.grownBy (wr.alloc (Obj.cells #[u] 81)) none) := grown_trans g2 gA
  have hs1 := CX.out.s
  have hB := g2.size
  have HH : HL w1.heap.size wr.heap.size (wr.alloc (Obj.cells #[u] 81)) u fs := ⟨heap_alloc_new wr _, (o2.later gA).lo.base (by omega), hB⟩
  have HCl := hide (HC.out w1.heap.size wr.heap.size u _ (grown_trans CX.out.g G2.out) (by omega) HH)
  clear o2 g2 gA HH
  go_wp2_with fail
  refine HCl.out.mono ?_
  rintro e w3 ⟨rfl, fs', hP, ⟨u', H3⟩, b3⟩
  have HP := hide hP
  clear hP
  have g13 : w1.grownBy w3 none := grown_of_below ((below_of_grown G2.out).trans (b3.mono (by omega)))
  have CX3 := hide (CX.out.later g13)
  have c3 := H3.cell
  obtain ⟨ua, uc, hu0⟩ := H3.lo.sl
  have O3 := hide H3.lo
  have HCo := hide (codeOf_nil w3)
  subst hu0
  clear H3 b3 g13
  go_wp2_with fail
  refine HCo.out.mono ?_; rintro e w4 ⟨rfl, rfl⟩
  have rr := CX3.out.r
  have rf := CX3.out.f
  have HSt := hide (state_any wr.heap.size ua fs'.length uc w3 c3)
  go_wp2_with fail
  refine HSt.out.mono ?_; rintro e w5 ⟨rfl, g5⟩
  have CX5 := hide (CX3.out.later g5)
  have O5 := hide (O3.out.later g5)
  have rr := CX5.out.r
  have rf := CX5.out.f
  clear g5
  go_wp2
  refine bodyPost_ret (v := .tuple #[.agg #[(.slice ua fs'.length uc)], .int .i64 0]) (by simp [results, Tryz.results26, go_sem, rr]) rfl ?_
  exact ⟨_, fs', rfl, HP.out, CX5.out.loose O5.out (by omega) _⟩

set_option maxHeartbeats 8000000 in
set_option maxRecDepth 100000 in
theorem afterFsRemove_none (v c0 : Value) (fs : List Fl) (P : List Fl → Prop) (a0 a1 a2 : Addr) (w : World) (hv : RdF w.heap.size w v fs) (hd : Fss fs) (hval : validF fs = true) (he : Errs w a0 a1 a2)
    (HCL : ∀ (B h : Nat) (u : Value) (W : World), w.grownBy W none → w.heap.size ≤ B → HL B h W u fs → Calls Tryz.prog 35 #[.iface 59 (.pointer (some ⟨h, 0, none⟩)), c0] W fun e W' => e = .returned (Er a1) ∧ ∃ fs', P fs' ∧ Lft B h W fs' W') :
    Calls Tryz.prog 26 #[.agg #[v], .func (.func 35) #[] #[c0]] w fun e w' => ∃ v' fs', e = .returned (.tuple #[.agg #[v'], .int .i64 5]) ∧ P fs' ∧ LoF w.heap.size w' v' fs' ∧ w.grownBy w' none := by
  obtain ⟨a, cap, hv0, _⟩ := id hv
  have HVa := hide (fun (w' : World) (g : w.grownBy w' none) => implValid_any v fs w' (hv.now g) hd)
  rw [hval] at HVa
  have HCp := hide (fun (w' : World) (g : w.grownBy w' none) => copyFiles_any v fs w' (hv.now g) hd)
  have HC := hide HCL
  have HE := hide he
  subst hv0
  clear hv hval hd HCL he
  go_enter Tryz.func26, Tryz.ntmps26
  go_wp2_with fail
  have CX0 := hide (FsCtx.start w (.slice a fs.length cap))
  refine (HVa.out _ CX0.out.g).mono ?_
  rintro e w1 ⟨rfl, g1⟩
  have CX := hide (CX0.out.later g1)
  have cp := CX.out.p
  clear g1 CX0
  go_wp2_with fail
  refine (HCp.out _ CX.out.g).mono ?_
  rintro e w2 ⟨wr, u, rfl, o2, g2, rfl⟩
  have gA := World.grownBy_alloc wr (Obj.cells #[u] 81) none
  have G2 : Hid (w1.grownBy (wr.alloc (Obj.cells #[u] 81)) none) := grown_trans g2 gA
  have hs1 := CX.out.s
  have hB := g2.size
  have HH : HL w1.heap.size wr.heap.size (wr.alloc (Obj.cells #[u] 81)) u fs := ⟨heap_alloc_new wr _, (o2.later gA).lo.base (by omega), hB⟩
  have HCl := hide (HC.out w1.heap.size wr.heap.size u _ (grown_trans CX.out.g G2.out) (by omega) HH)
  clear o2 g2 gA HH
  go_wp2_with fail
  refine HCl.out.mono ?_
  rintro e w3 ⟨rfl, fs', hP, ⟨u', H3⟩, b3⟩
  have HP := hide hP
  clear hP
  have g13 : w1.grownBy w3 none := grown_of_below ((below_of_grown G2.out).trans (b3.mono (by omega)))
  have CX3 := hide (CX.out.later g13)
  have c3 := H3.cell
  obtain ⟨ua, uc, hu0⟩ := H3.lo.sl
  have O3 := hide H3.lo
  have HCo := hide (codeOf_none w3 a0 a1 a2 (HE.out.keep (grown_trans CX.out.g g13)))
  subst hu0
  clear H3 b3 g13
  go_wp2_with fail
  refine HCo.out.mono ?_; rintro e w4 ⟨rfl, rfl⟩
  have rr := CX3.out.r
  have rf := CX3.out.f
  have HSt := hide (state_any wr.heap.size ua fs'.length uc w3 c3)
  go_wp2_with fail
  refine HSt.out.mono ?_; rintro e w5 ⟨rfl, g5⟩
  have CX5 := hide (CX3.out.later g5)
  have O5 := hide (O3.out.later g5)
  have rr := CX5.out.r
  have rf := CX5.out.f
  clear g5
  go_wp2
  refine bodyPost_ret (v := .tuple #[.agg #[(.slice ua fs'.length uc)], .int .i64 5]) (by simp [results, Tryz.results26, go_sem, rr]) rfl ?_
  exact ⟨_, fs', rfl, HP.out, CX5.out.loose O5.out (by omega) _⟩
end Go.Proofs.YtakkdniikhgpdaaGreatDoor

