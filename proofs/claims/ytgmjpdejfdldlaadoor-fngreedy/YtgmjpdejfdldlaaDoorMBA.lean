import Derived.Test.YtgmjpdejfdldlaaDoorMAZ
namespace Go.Proofs.YtgmjpdejfdldlaaDoor
open Go.RowKit

set_option maxHeartbeats 40000000 in
set_option maxRecDepth 100000 in
theorem lay_cat (B pb : Nat) (wm w : World) (hpb : pb = wm.heap.size) (l : List Value) (fb lb nb : Nat) (f0 f1 f2 : Value → Option Value) (hC : Ctx B wm l fb lb nb f0 f1 f2) (a3 wv tv hv : Value) (ts : List Tk) (tx : List Int) (col : Int) (ch : List Int) (h : Pr pb wm w (.map (some fb)) (.map (some lb)) (.map (some nb)) a3 wv tv hv ts tx col ch)
    (v : Value) (p : Pc) (x y : Tr) (n : Nat) (ind : Int) (fl : Bool) (bw : Int) (be : Bool) (hn : NodeAt B wm l v (.bin p x y) n) (hk : p.k = 6) (hl : ts.length ≤ 999999) (hby : -1000000 ≤ (leadT y).1 ∧ (leadT y).1 ≤ 1000000) (hbw : -1000000 ≤ bw ∧ bw ≤ 1000000) :
    Calls Tryd.prog 50 #[.pointer (some ⟨pb, 0, none⟩), agg5 v ind fl bw be] w fun e w' => e = .returned (.tuple #[]) ∧ ∃ u u' wv', NodeAt B wm l u x n ∧ NodeAt B wm l u' y (n + cntG x) ∧
      Pr pb wm w' (.map (some fb)) (.map (some lb)) (.map (some nb)) a3 wv' tv hv (ts ++ [⟨u', y, n + cntG x, ind, fl, bw, be⟩] ++ [⟨u, x, n, ind, fl, if (leadT y).2 = true then (leadT y).1 else (leadT y).1 + bw, if (leadT y).2 = true then (leadT y).2 else be⟩]) tx col ch := by
  subst hpb
  obtain ⟨b, u, u', c0, c1, hu, hu', hvv⟩ := hn.bin
  rcases hvv with ⟨_, hv0⟩ | ⟨h1, _⟩
  rotate_left
  · omega
  have hgm := grown_of_below h.bel
  have c0r := cell_any (hgm.cell c0 (by simp))
  have c1r := cell_any (hgm.cell c1 (by simp))
  have HGD : Hid (∀ o, w.grownBy (w.alloc o).drew none) := fun o => grown_drew (World.grownBy_alloc _ _ _)
  obtain ⟨tu, yu, hform⟩ := hu.rep.form
  obtain ⟨tu', yu', hform'⟩ := hu'.rep.form
  subst hform hform'
  subst hv0
  obtain ⟨e1, e2, e3, e4, e5, e6, e7, e8, e9, e10⟩ := tas_cat (.pointer (some ⟨b, 0, none⟩))
  have hlt := h.lt
  have HP := hidN h
  have HU := hidN hu
  have HU' := hidN hu'
  have hblt : b < wm.heap.size := World.block_lt_of_cell? wm _ c0
  have HO := hidN (fun bw be => of_any 138 tu (.pointer (some ⟨b, 0, none⟩)) yu ind fl bw be)
  have HO' := hidN (of_any 138 tu' (.pointer (some ⟨b, 0, none⟩)) yu' ind fl bw be)
  have hwl := World.ownsRow.lt h.wrow
  have htl := World.ownsRow.lt h.trow
  have hhl := World.ownsRow.lt h.hrow
  have HBf := hidN (fun W => before_any (leadT y).1 bw (leadT y).2 be W hby hbw)
  unfold agg5 at *
  generalize (if (leadT y).2 = true then (leadT y).1 else (leadT y).1 + bw) = fs at *
  generalize (if (leadT y).2 = true then (leadT y).2 else be) = es at *
  clear hn hu hu' h
  go_enter Tryd.func50, Tryd.ntmps50
  go_wp2_with fail
  go_region_with (first | (go_at_call 66; refine (HO'.out _).mono ?_; rintro e w2 ⟨rfl, g2⟩) | (go_at_call 46; refine (pushT_any _ wm w2 _ _ _ _ _ _ _ _ _ _ _ (HP.out.keep (grown_trans (HGD.out _) g2)) ⟨.iface tu' yu', y, n + cntG x, ind, fl, bw, be⟩ ⟨_, _, rfl⟩ (by omega)).mono ?_; rintro e w3 ⟨rfl, ⟨wv3, hP3, hat3⟩, hs3, hk3⟩))
  all_goals
    have hs2 := g2.size
    simp only [World.size_drew, World.size_alloc] at hs2
    have hkb := hk3 w.heap.size (by omega) (by omega) (fun e => by have := hwl _ e; omega)
    have hkb2 := hkb.trans (g2.block w.heap.size (by simp) (by simp))
    have t0 := (World.cell?_of_block (a := ⟨w.heap.size, 0, none⟩) hkb2).trans (show _ = some (Value.iface 138 (.pointer (some ⟨b, 0, none⟩))) by simp [go_sem])
    have t1 := (World.cell?_of_block (a := ⟨w.heap.size, 1, none⟩) hkb2).trans (show _ = some (Value.int .i64 ind) by simp [go_sem])
    have t2 := (World.cell?_of_block (a := ⟨w.heap.size, 2, none⟩) hkb2).trans (show _ = some (Value.bool fl) by simp [go_sem])
    have t3 := (World.cell?_of_block (a := ⟨w.heap.size, 3, none⟩) hkb2).trans (show _ = some (Value.int .i64 bw) by simp [go_sem])
    have t4 := (World.cell?_of_block (a := ⟨w.heap.size, 4, none⟩) hkb2).trans (show _ = some (Value.bool be) by simp [go_sem])
    have z3 : w3.frozen? ⟨w.heap.size, 3, none⟩ = false := (World.frozen?_of_block hkb2).trans (by simp [go_sem])
    have z4 : w3.frozen? ⟨w.heap.size, 4, none⟩ = false := (World.frozen?_of_block hkb2).trans (by simp [go_sem])
    have c1p := hP3.c1
    have n0 := (hP3.bel.cell (p := ⟨b, 0, none⟩) hblt).trans c0
    have n1 := (hP3.bel.cell (p := ⟨b, 1, none⟩) hblt).trans c1
    have hgm3 := grown_of_below hP3.bel
    have hLd := hC.lead HU'.out (grown_drew hgm3)
    have hB4 := HBf.out w3.drew
    have hnw : wv3.ownBlock ≠ some w.heap.size := by
      intro e
      rcases hat3 with e1 | ⟨g, e1, hg⟩
      · rw [e] at e1; have := hwl _ e1.symm; omega
      · rw [e] at e1; cases e1; omega
    have HP3 := hidN hP3
    have HS3 := hidN hs3
    have HGm3 := hidN hgm3
    have HNw := hidN hnw
    clear hP3 hk3 hkb hkb2 hgm3 hat3 g2 hnw
    go_wp2_with fail
    go_region_with (go_at_call 65; refine hB4.mono ?_; rintro e w4 ⟨rfl, g4⟩; have t0' := g4.cell t0 (by simp); have t1' := g4.cell t1 (by simp); have t2' := g4.cell t2 (by simp); have t3' := g4.cell t3 (by simp); have t4' := g4.cell t4 (by simp); have z3' : w4.frozen? ⟨w.heap.size, 3, none⟩ = false := (World.frozen?_of_block (g4.block w.heap.size (by simp; omega) (by simp))).trans z3; have z4' : w4.frozen? ⟨w.heap.size, 4, none⟩ = false := (World.frozen?_of_block (g4.block w.heap.size (by simp; omega) (by simp))).trans z4; have n0' := g4.cell n0 (by simp); have n1' := g4.cell n1 (by simp))
    all_goals
      have hP4 := HP3.out.keep (grown_trans (grown_drew (World.grownBy.refl _ _)) g4)
      have hP5 := (hP4.aside w.heap.size 3 (.int .i64 fs) (by omega) HNw.out (fun e => by have := htl _ e; omega) (fun e => by have := hhl _ e; omega)).aside w.heap.size 4 (.bool es) (by omega) HNw.out (fun e => by have := htl _ e; omega) (fun e => by have := hhl _ e; omega)
      have HP5 := hidN hP5
      have hbw0 : ¬ b = w.heap.size := by omega
      clear hP4 hP5 hLd hB4 t0 t1 t2 t3 t4 z3 z4 n0 n1 c1p g4
      go_wp2_with fail
      go_region_with (first | (go_at_call 66; refine (HO.out fs es _).mono ?_; rintro e w6 ⟨rfl, g6⟩) | (go_at_call 46; refine (pushT_any _ wm w6 _ _ _ _ _ _ _ _ _ _ _ (HP5.out.keep (grown_trans (grown_drew (World.grownBy.refl _ _)) g6)) ⟨.iface tu yu, x, n, ind, fl, fs, es⟩ ⟨_, _, rfl⟩ (by simp; omega)).mono ?_; rintro e w7 ⟨rfl, ⟨wv7, hP7, _⟩, _, _⟩))
      all_goals
        go_wp2
        go_returns
        exact ⟨rfl, _, _, wv7, HU.out, HU'.out, hP7⟩

end Go.Proofs.YtgmjpdejfdldlaaDoor

