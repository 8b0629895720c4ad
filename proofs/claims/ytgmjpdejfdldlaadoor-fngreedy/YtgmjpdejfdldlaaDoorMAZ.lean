import Derived.Deep.RegionWith
import Derived.Test.YtgmjpdejfdldlaaDoorMAT
namespace Go.Proofs.YtgmjpdejfdldlaaDoor
open Go.RowKit

theorem grown_drew {a b : World} {r : Option Nat} (h : a.grownBy b r) : a.grownBy b.drew r := ⟨h.os, h.tape, h.output, h.size, h.block⟩
theorem cell_any {w : World} {a : Addr} {u : Value} (h : w.cell? a = some u) : ∀ o, (w.alloc o).cell? a = some u := fun o => cell_alloc1 o h

set_option maxHeartbeats 2000000 in
set_option maxRecDepth 100000 in
theorem lay_nest (B pb : Nat) (wm w : World) (hpb : pb = wm.heap.size) (l : List Value) (a0 a1 a2 a3 wv tv hv : Value) (ts : List Tk) (tx : List Int) (col : Int) (ch : List Int) (h : Pr pb wm w a0 a1 a2 a3 wv tv hv ts tx col ch)
    (v : Value) (p : Pc) (x : Tr) (n : Nat) (ind : Int) (fl : Bool) (bw : Int) (be : Bool) (hn : NodeAt B wm l v (.un p x) n) (hk : p.k = 7) (hi : 0 ≤ ind ∧ ind ≤ 4000) (hp : 0 ≤ p.n ∧ p.n ≤ 4000) (hl : ts.length ≤ 1000000) :
    Calls Tryd.prog 50 #[.pointer (some ⟨pb, 0, none⟩), agg5 v ind fl bw be] w fun e w' => e = .returned (.tuple #[]) ∧ ∃ u wv', NodeAt B wm l u x n ∧ Pr pb wm w' a0 a1 a2 a3 wv' tv hv (ts ++ [⟨u, x, n, ind + p.n, fl, bw, be⟩]) tx col ch := by
  subst hpb
  obtain ⟨b, u, c0, hu, hvv⟩ := hn.un
  rcases hvv with ⟨h1, _⟩ | ⟨_, hv0, c1⟩
  · omega
  have hgm := grown_of_below h.bel
  have c0r := cell_any (hgm.cell c0 (by simp))
  have c1r := cell_any (hgm.cell c1 (by simp))
  have HGD : Hid (∀ o, w.grownBy (w.alloc o).drew.drew none) := fun o => grown_drew (grown_drew (World.grownBy_alloc _ _ _))
  obtain ⟨tu, yu, hform⟩ := hu.rep.form
  subst hform
  subst hv0
  obtain ⟨e1, e2, e3, e4, e5, e6, e7, e8, e9, e10⟩ := tas_nest (.pointer (some ⟨b, 0, none⟩))
  have hlt := h.lt
  have HP := hidN h
  have HU := hidN hu
  have hO := of_any 130 tu (.pointer (some ⟨b, 0, none⟩)) yu (ind + p.n) fl bw be
  have HO := hidN hO
  unfold agg5 at *
  clear h hn hu c0 c1 hgm hO
  go_enter Tryd.func50, Tryd.ntmps50
  go_wp2_with fail
  go_region
  go_wp2_with fail
  go_region_with (first | (go_at_call 66; refine (HO.out _).mono ?_; rintro e w2 ⟨rfl, g2⟩) | (go_at_call 46; refine (pushT_any _ wm w2 _ _ _ _ _ _ _ _ _ _ _ (HP.out.keep (grown_trans (HGD.out _) g2)) ⟨.iface tu yu, x, n, ind + p.n, fl, bw, be⟩ ⟨_, _, rfl⟩ hl).mono ?_; rintro e w3 ⟨rfl, ⟨wv', hP3, _⟩, _, _⟩))
  all_goals
    go_wp2
    go_returns
    exact ⟨rfl, .iface tu yu, wv', HU.out, hP3⟩

set_option maxHeartbeats 2000000 in
set_option maxRecDepth 100000 in
theorem lay_alt (B pb : Nat) (wm w : World) (hpb : pb = wm.heap.size) (l : List Value) (a0 a1 a2 a3 wv tv hv : Value) (ts : List Tk) (tx : List Int) (col : Int) (ch : List Int) (h : Pr pb wm w a0 a1 a2 a3 wv tv hv ts tx col ch)
    (v : Value) (p : Pc) (x y : Tr) (n : Nat) (ind : Int) (fl : Bool) (bw : Int) (be : Bool) (hn : NodeAt B wm l v (.bin p x y) n) (hk : p.k = 9) (hl : ts.length ≤ 1000000) :
    Calls Tryd.prog 50 #[.pointer (some ⟨pb, 0, none⟩), agg5 v ind fl bw be] w fun e w' => e = .returned (.tuple #[]) ∧ ∃ u wv', NodeAt B wm l u (if fl then y else x) (if fl then n + cntG x else n) ∧ Pr pb wm w' a0 a1 a2 a3 wv' tv hv (ts ++ [⟨u, if fl then y else x, if fl then n + cntG x else n, ind, fl, bw, be⟩]) tx col ch := by
  subst hpb
  obtain ⟨b, u, u', c0, c1, hu, hu', hvv⟩ := hn.bin
  rcases hvv with ⟨h1, _⟩ | ⟨_, hv0⟩
  · omega
  have hgm := grown_of_below h.bel
  have c0r := cell_any (hgm.cell c0 (by simp))
  have c1r := cell_any (hgm.cell c1 (by simp))
  have HGD : Hid (∀ o, w.grownBy (w.alloc o).drew none) := fun o => grown_drew (World.grownBy_alloc _ _ _)
  obtain ⟨tu, yu, hform⟩ := hu.rep.form
  obtain ⟨tu', yu', hform'⟩ := hu'.rep.form
  subst hform hform'
  subst hv0
  obtain ⟨e1, e2, e3, e4, e5, e6, e7, e8, e9, e10⟩ := tas_alt (.pointer (some ⟨b, 0, none⟩))
  have hlt := h.lt
  have HP := hidN h
  have HU := hidN hu
  have HU' := hidN hu'
  have HO := hidN (of_any 142 tu (.pointer (some ⟨b, 0, none⟩)) yu ind fl bw be)
  have HO' := hidN (of_any 142 tu' (.pointer (some ⟨b, 0, none⟩)) yu' ind fl bw be)
  unfold agg5 at *
  clear h hn hu hu' c0 c1 hgm
  cases fl
  · go_enter Tryd.func50, Tryd.ntmps50
    go_wp2_with fail
    go_region_with (first | (go_at_call 66; refine (HO.out _).mono ?_; rintro e w2 ⟨rfl, g2⟩) | (go_at_call 46; refine (pushT_any _ wm w2 _ _ _ _ _ _ _ _ _ _ _ (HP.out.keep (grown_trans (HGD.out _) g2)) ⟨.iface tu yu, x, n, ind, false, bw, be⟩ ⟨_, _, rfl⟩ hl).mono ?_; rintro e w3 ⟨rfl, ⟨wv', hP3, _⟩, _, _⟩))
    all_goals
      go_wp2
      go_returns
      exact ⟨rfl, .iface tu yu, HU.out, wv', hP3⟩
  · go_enter Tryd.func50, Tryd.ntmps50
    go_wp2_with fail
    go_region_with (first | (go_at_call 66; refine (HO'.out _).mono ?_; rintro e w2 ⟨rfl, g2⟩) | (go_at_call 46; refine (pushT_any _ wm w2 _ _ _ _ _ _ _ _ _ _ _ (HP.out.keep (grown_trans (HGD.out _) g2)) ⟨.iface tu' yu', y, n + cntG x, ind, true, bw, be⟩ ⟨_, _, rfl⟩ hl).mono ?_; rintro e w3 ⟨rfl, ⟨wv', hP3, _⟩, _, _⟩))
    all_goals
      go_wp2
      go_returns
      exact ⟨rfl, .iface tu' yu', HU'.out, wv', hP3⟩

end Go.Proofs.YtgmjpdejfdldlaaDoor

