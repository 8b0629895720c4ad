import Derived.Deep.LoopGhost
import Derived.Test.YtgmjpdejfdldlaaDoorMAT
import Derived.Test.YtgmjpdejfdldlaaDoorMAZ
import Derived.Test.YtgmjpdejfdldlaaDoorMBA
import Derived.Test.YtgmjpdejfdldlaaDoorMBK
namespace Go.Proofs.YtgmjpdejfdldlaaDoor
open Go.RowKit

set_option maxHeartbeats 4000000 in
set_option maxRecDepth 100000 in
theorem lay_group (B pb : Nat) (wm w : World) (hpb : pb = wm.heap.size) (l : List Value) (fb lb nb : Nat) (f0 f1 f2 : Value → Option Value) (hC : Ctx B wm l fb lb nb f0 f1 f2) (cf : Nat) (cap : Value) (wv tv : Value) (g gcap lc : Nat) (ts : List Tk) (tx : List Int) (col : Int) (ch : List Int)
    (h : Pr pb wm w (.map (some fb)) (.map (some lb)) (.map (some nb)) (.func (.func cf) #[] #[cap]) wv tv (.slice (some ⟨g, 0, none⟩) lc gcap) ts tx col ch) (hE : ∀ (args : Array Value) (W : World), (callFunc cf args).run Tryd.prog W = .ok (.enter cf args) W)
    (v : Value) (p : Pc) (x : Tr) (n : Nat) (ind : Int) (fl : Bool) (bw : Int) (be : Bool) (hn : NodeAt B wm l v (.un p x) n) (hk : p.k = 8) (hl : ts.length ≤ 1000000) (hlc : lc = ch.length) (hj : n + cntG x < ch.length) (hcl : ch.length ≤ 1000000) (d : Int → Bool)
    (hCl : ∀ W, wm.grownBy W none → Calls Tryd.prog cf #[.int .i64 ((n + cntG x : Nat) : Int), .int .i64 (col + flatW x + bw), cap] W fun e w' => e = .returned (.bool (d (col + flatW x + bw))) ∧ W = w')
    (hfb : -1 ≤ flatW x ∧ flatW x ≤ 1000000) (hcb : -1000000 ≤ col ∧ col ≤ 1000000) (hbb : -1000000 ≤ bw ∧ bw ≤ 1000000) :
    Calls Tryd.prog 50 #[.pointer (some ⟨pb, 0, none⟩), agg5 v ind fl bw be] w fun e w' => e = .returned (.tuple #[]) ∧ ∃ u wv', NodeAt B wm l u x n ∧
      Pr pb wm w' (.map (some fb)) (.map (some lb)) (.map (some nb)) (.func (.func cf) #[] #[cap]) wv' tv (.slice (some ⟨g, 0, none⟩) lc gcap) (ts ++ [⟨u, x, n, ind, fl || canR (flatW x) col bw d, bw, be⟩]) tx col (ch.set (n + cntG x) (if (fl || canR (flatW x) col bw d) = true then 1 else 2)) := by
  subst hpb
  subst hlc
  obtain ⟨b, u, c0, hu, hvv⟩ := hn.un
  rcases hvv with ⟨_, hv0, hf2⟩ | ⟨h1, _⟩
  rotate_left
  · omega
  have hf2' := hf2 f2 hC.t2
  have hgl : gVal b ∈ l := by rw [← hv0]; exact hn.mem
  have hgm := grown_of_below h.bel
  have hnum : ∀ W, wm.grownBy W none → _ := fun W hW => hC.num (W := W) hgl hf2' hW
  have hflat : ∀ W, wm.grownBy W none → _ := fun W hW => hC.flat (W := W) hn hW
  have c0r := cell_any (hgm.cell c0 (by simp))
  have hblt : b < wm.heap.size := World.block_lt_of_cell? wm _ c0
  obtain ⟨tu, yu, hform⟩ := hu.rep.form
  subst hform
  subst hv0
  obtain ⟨e1, e2, e3, e4, e5, e6, e7, e8, e9, e10⟩ := tas_group (.pointer (some ⟨b, 0, none⟩))
  have hlt := h.lt
  have hwl := World.ownsRow.lt h.wrow
  have htl := World.ownsRow.lt h.trow
  have hhl := World.ownsRow.lt h.hrow
  have hgb := hhl g rfl
  have HP := hidN h
  have HU := hidN hu
  have hg1 : ∀ o, w.grownBy (w.alloc o) none := fun o => World.grownBy_alloc _ _ _
  have HO := hidN (fun fl' => of_any 135 tu (.pointer (some ⟨b, 0, none⟩)) yu ind fl' bw be)
  unfold agg5 gVal at *
  cases fl
  · have HCan : Hid (∀ W, w.grownBy W none → _) := fun W hW => canStay_any wm.heap.size wm W fb nb cf (.map (some lb)) cap wv tv _ ts tx col ch (h.keep hW) b bw be (flatW x) (fun W' hW' => hflat W' (grown_trans hgm (grown_trans hW hW'))) (n + cntG x) (fun W' hW' => hnum W' (grown_trans hgm (grown_trans hW hW'))) d (fun W' hW' => hCl W' (grown_trans hgm (grown_trans hW hW'))) hE hfb hcb hbb
    generalize canR (flatW x) col bw d = cr at *
    have HNum := hidN hnum
    clear h hn hu hflat hCl hnum hg1
    go_enter Tryd.func50, Tryd.ntmps50
    go_wp2_with fail
    refine (HCan.out _ (World.grownBy_alloc _ _ _)).mono ?_
    rintro e w2 ⟨rfl, g2⟩
    have t0 := g2.cell (a := ⟨w.heap.size, 0, none⟩) (v := .iface 135 (.pointer (some ⟨b, 0, none⟩))) (by simp [go_sem]) (by simp)
    have t1 := g2.cell (a := ⟨w.heap.size, 1, none⟩) (v := .int .i64 ind) (by simp [go_sem]) (by simp)
    have t2 := g2.cell (a := ⟨w.heap.size, 2, none⟩) (v := .bool false) (by simp [go_sem]) (by simp)
    have t3 := g2.cell (a := ⟨w.heap.size, 3, none⟩) (v := .int .i64 bw) (by simp [go_sem]) (by simp)
    have t4 := g2.cell (a := ⟨w.heap.size, 4, none⟩) (v := .bool be) (by simp [go_sem]) (by simp)
    have z2 : w2.frozen? ⟨w.heap.size, 2, none⟩ = false := (World.frozen?_of_block (g2.block w.heap.size (by simp) (by simp))).trans (by simp [go_sem])
    have gw2 : w.grownBy w2 none := grown_trans (World.grownBy_alloc _ _ _) g2
    have hs2 := g2.size
    simp only [World.size_alloc] at hs2
    have hP3 := (HP.out.keep gw2).aside w.heap.size 2 (.bool cr) (by omega) (fun e => by have := hwl _ e; omega) (fun e => by have := htl _ e; omega) (fun e => by have := hhl _ e; omega)
    have hN := note_any wm.heap.size wm _ _ _ nb _ _ _ g gcap ch.length ts tx col ch hP3 b cr (n + cntG x) (fun W hW => HNum.out W (grown_trans (grown_of_below hP3.bel) hW)) rfl hj hcl
    clear g2 gw2 hP3
    go_wp2_with fail
    refine hN.mono ?_
    rintro e w4 ⟨rfl, hP4, hs4, hk4⟩
    have hkb := hk4 w.heap.size (by omega)
    simp only [World.size_setCell] at hs4
    have s0 := (World.cell?_of_block (a := ⟨w.heap.size, 0, none⟩) hkb).trans (show _ = some (Value.iface 135 (.pointer (some ⟨b, 0, none⟩))) by simp [go_sem, t0])
    have s1 := (World.cell?_of_block (a := ⟨w.heap.size, 1, none⟩) hkb).trans (show _ = some (Value.int .i64 ind) by simp [go_sem, t1])
    have s2 := (World.cell?_of_block (a := ⟨w.heap.size, 2, none⟩) hkb).trans (show _ = some (Value.bool cr) by simp [go_sem, t2])
    have s3 := (World.cell?_of_block (a := ⟨w.heap.size, 3, none⟩) hkb).trans (show _ = some (Value.int .i64 bw) by simp [go_sem, t3])
    have s4 := (World.cell?_of_block (a := ⟨w.heap.size, 4, none⟩) hkb).trans (show _ = some (Value.bool be) by simp [go_sem, t4])
    have n0 := (hP4.bel.cell (p := ⟨b, 0, none⟩) hblt).trans c0
    have HP4 := hidN hP4
    clear hP4 hk4 hkb hN t0 t1 t2 t3 t4 z2
    go_wp2_with fail
    go_region_with (first | (go_at_call 66; refine (HO.out cr _).mono ?_; rintro e w6 ⟨rfl, g6⟩) | (go_at_call 46; refine (pushT_any _ wm w6 _ _ _ _ _ _ _ _ _ _ _ (HP4.out.keep (grown_trans (grown_drew (World.grownBy.refl _ _)) g6)) ⟨.iface tu yu, x, n, ind, cr, bw, be⟩ ⟨_, _, rfl⟩ hl).mono ?_; rintro e w7 ⟨rfl, ⟨wv7, hP7, _⟩, _, _⟩))
    all_goals
      go_wp2
      all_goals
        go_returns
        refine ⟨rfl, .iface tu yu, HU.out, wv7, ?_⟩
        first
          | (have e : cr = true := by assumption
             rw [e] at hP7
             exact hP7)
          | (have e : cr = false := by assumption
             rw [e] at hP7
             exact hP7)
          | (have e : ¬ cr = true := by assumption
             rw [Bool.not_eq_true] at e
             rw [e] at hP7
             exact hP7)
  · have HNum := hidN hnum
    clear h hn hu hflat hCl hnum hg1
    generalize canR (flatW x) col bw d = cr at *
    have gw2 : w.grownBy (w.alloc (.cells #[.iface 135 (.pointer (some ⟨b, 0, none⟩)), .int .i64 ind, .bool true, .int .i64 bw, .bool be] 109)) none := World.grownBy_alloc _ _ _
    have hP3 := HP.out.keep gw2
    have hN := note_any wm.heap.size wm _ _ _ nb _ _ _ g gcap ch.length ts tx col ch hP3 b true (n + cntG x) (fun W hW => HNum.out W (grown_trans (grown_of_below hP3.bel) hW)) rfl hj hcl
    clear gw2 hP3
    go_enter Tryd.func50, Tryd.ntmps50
    go_wp2_with fail
    refine hN.mono ?_
    rintro e w4 ⟨rfl, hP4, hs4, hk4⟩
    have hkb := hk4 w.heap.size (by omega)
    simp only [World.size_alloc] at hs4
    have s0 := (World.cell?_of_block (a := ⟨w.heap.size, 0, none⟩) hkb).trans (show _ = some (Value.iface 135 (.pointer (some ⟨b, 0, none⟩))) by simp [go_sem])
    have s1 := (World.cell?_of_block (a := ⟨w.heap.size, 1, none⟩) hkb).trans (show _ = some (Value.int .i64 ind) by simp [go_sem])
    have s2 := (World.cell?_of_block (a := ⟨w.heap.size, 2, none⟩) hkb).trans (show _ = some (Value.bool true) by simp [go_sem])
    have s3 := (World.cell?_of_block (a := ⟨w.heap.size, 3, none⟩) hkb).trans (show _ = some (Value.int .i64 bw) by simp [go_sem])
    have s4 := (World.cell?_of_block (a := ⟨w.heap.size, 4, none⟩) hkb).trans (show _ = some (Value.bool be) by simp [go_sem])
    have n0 := (hP4.bel.cell (p := ⟨b, 0, none⟩) hblt).trans c0
    have HP4 := hidN hP4
    clear hP4 hk4 hkb hN
    go_wp2_with fail
    go_region_with (first | (go_at_call 66; refine (HO.out true _).mono ?_; rintro e w6 ⟨rfl, g6⟩) | (go_at_call 46; refine (pushT_any _ wm w6 _ _ _ _ _ _ _ _ _ _ _ (HP4.out.keep (grown_trans (grown_drew (World.grownBy.refl _ _)) g6)) ⟨.iface tu yu, x, n, ind, true, bw, be⟩ ⟨_, _, rfl⟩ hl).mono ?_; rintro e w7 ⟨rfl, ⟨wv7, hP7, _⟩, _, _⟩))
    all_goals
      go_wp2
      go_returns
      exact ⟨rfl, .iface tu yu, HU.out, wv7, hP7⟩

end Go.Proofs.YtgmjpdejfdldlaaDoor

namespace Go.Proofs.YtgmjpdejfdldlaaDoor
open Go.RowKit

theorem NodeAt.iface {B : Nat} {wm : World} {l : List Value} {v : Value} {T : Tr} {n : Nat} (h : NodeAt B wm l v T n) : ∃ tt u, v = .iface tt u := by
  have hr := h.rep
  cases T with
  | leaf p =>
    simp only [Rep] at hr
    rcases hr with h | h | h | h | h | ⟨_, b, tv, h, _⟩
    · exact ⟨_, _, h.2⟩
    · exact ⟨_, _, h.2⟩
    · exact ⟨_, _, h.2⟩
    · exact ⟨_, _, h.2⟩
    · exact ⟨_, _, h.2⟩
    · exact ⟨_, _, h⟩
  | un p x =>
    obtain ⟨b, u, _, _, h⟩ := h.un
    rcases h with ⟨_, h, _⟩ | ⟨_, h, _⟩
    · exact ⟨_, _, h⟩
    · exact ⟨_, _, h⟩
  | bin p x y =>
    obtain ⟨b, u, u', _, _, _, _, h⟩ := h.bin
    rcases h with ⟨_, h⟩ | ⟨_, h⟩
    · exact ⟨_, _, h⟩
    · exact ⟨_, _, h⟩
theorem NodeAt.leafK {B : Nat} {wm : World} {l : List Value} {v : Value} {p : Pc} {n : Nat} (h : NodeAt B wm l v (.leaf p) n) : 0 ≤ p.k ∧ p.k ≤ 5 := by
  have hr := h.rep
  simp only [Rep] at hr
  rcases hr with h | h | h | h | h | ⟨h, _⟩
  all_goals first | omega | (have := h.1; omega)

theorem lay_any (B pb : Nat) (wm w : World) (hpb : pb = wm.heap.size) (hB : B ≤ pb) (l : List Value) (fb lb nb : Nat) (f0 f1 f2 : Value → Option Value) (hC : Ctx B wm l fb lb nb f0 f1 f2) (cf : Nat) (cap wv tv hv : Value) (G : Nat) (hG : G ≤ 1000000) (hE : ∀ (args : Array Value) (W : World), (callFunc cf args).run Tryd.prog W = .ok (.enter cf args) W) (d : Nat → Int → Bool) (hCl : ∀ (j : Nat) (line : Int) (W : World), j < G → wm.grownBy W none → Calls Tryd.prog cf #[.int .i64 (j : Int), .int .i64 line, cap] W fun e w' => e = .returned (.bool (d j line)) ∧ W = w') (t : Tk) (r : List Tk) (tx : List Int) (col : Int) (ch : List Int) (h : Pr pb wm w (.map (some fb)) (.map (some lb)) (.map (some nb)) (.func (.func cf) #[] #[cap]) wv tv hv r.reverse tx col ch)
    (hi : PInv B wm l G (t :: r) tx col ch) (hb : (brk t.T t.ind t.fl).2 = false) :
    Calls Tryd.prog 50 #[.pointer (some ⟨pb, 0, none⟩), t.val] w fun e w' => e = .returned (.tuple #[]) ∧ ∃ its tx' col' ch' wv' tv',
      Pr pb wm w' (.map (some fb)) (.map (some lb)) (.map (some nb)) (.func (.func cf) #[] #[cap]) wv' tv' hv its.reverse tx' col' ch' ∧ PInv B wm l G its tx' col' ch' ∧ szS its < szS (t :: r) ∧
      ∀ f, pm d (f + 1) ((t :: r).map Tk.pt) tx col ch = pm d f (its.map Tk.pt) tx' col' ch' := by
  have htok := hi.tok t (by simp)
  have hlen := szS_len r
  have htot := hi.tot
  rw [szS_cons] at htot
  have hlr : r.reverse.length ≤ 999999 := by rw [List.length_reverse]; omega
  have hlo := hi.lo
  have hhi := hi.hi
  have hcb : -1000000 ≤ col ∧ col ≤ 1000000 := by rw [szS_cons] at hlo hhi; omega
  have hbw := hi.bw.1
  have hbb : -1000000 ≤ t.bw ∧ t.bw ≤ 1000000 := by omega
  have htl := hi.tl
  rw [szS_cons] at htl
  obtain ⟨v, T, n, ind, fl, bw, be⟩ := t
  simp only at hb hbb hbw
  have hv5 : (Tk.mk v T n ind fl bw be).val = agg5 v ind fl bw be := rfl
  rw [hv5]
  cases T with
  | leaf p =>
    have hk := htok.node.leafK
    simp only [sz] at htl htot
    by_cases h1 : p.k = 1
    · have hw := width_bd p.t
      refine (lay_text B pb wm w hpb l _ _ _ _ wv tv hv _ tx col ch h v p n ind fl bw be htok.node h1 hB hcb (by omega)).mono ?_
      rintro e w' ⟨rfl, tv', h'⟩
      refine ⟨rfl, r, _, _, _, wv, tv', h', hi.put p.t (widthR p.t) (by simp [sz]) (by simp only [sz]; omega) (by simp only [sz]; omega), by rw [szS_cons]; have := sz_pos (.leaf p); simp only [sz] at this ⊢; omega, fun f => ?_⟩
      simp only [List.map_cons, Tk.pt, pm, hb, h1]
      simp
    · by_cases h2 : p.k = 2
      · refine (lay_line B pb wm w hpb l _ _ _ _ wv tv hv _ tx col ch h v p n ind fl bw be htok.node h2 hcb (by omega)).mono ?_
        rintro e w' ⟨rfl, tv', h'⟩
        refine ⟨rfl, r, _, _, _, wv, tv', h', hi.put [32] 1 (by simp [sz]) (by simp only [sz]; omega) (by simp only [sz]; omega), by rw [szS_cons]; have := sz_pos (.leaf p); simp only [sz] at this ⊢; omega, fun f => ?_⟩
        simp only [List.map_cons, Tk.pt, pm, hb, h2]
        simp
      · have h03 : p.k = 0 ∨ p.k = 3 := by
          simp only [brk] at hb
          by_cases h3 : p.k = 3
          · exact .inr h3
          · by_cases h4 : p.k = 4
            · simp [h4] at hb
            · by_cases h5 : p.k = 5
              · simp [h5] at hb
              · omega
        refine (lay_skip B pb wm w l _ _ _ _ wv tv hv _ tx col ch h v p n ind fl bw be htok.node h03).mono ?_
        rintro e w' ⟨rfl, h'⟩
        have hp := hi.put [] 0 (by simp) (by omega) (by omega)
        rw [List.append_nil, Int.add_zero] at hp
        refine ⟨rfl, r, _, _, _, wv, tv, h', hp, by rw [szS_cons]; have := sz_pos (.leaf p); simp only [sz] at this ⊢; omega, fun f => ?_⟩
        simp only [List.map_cons, Tk.pt, pm, hb, h1, h2]
        simp
  | un p x =>
    have hkk : p.k = 8 ∨ p.k = 7 := by
      obtain ⟨b, u, _, _, h⟩ := htok.node.un
      rcases h with ⟨h, _⟩ | ⟨h, _⟩
      · exact .inl h
      · exact .inr h
    have hok := htok.ok
    simp only [okN] at hok
    have hhi2 := htok.hi
    simp only [nestT] at hhi2
    have hgb := htok.gb
    simp only [cntG] at hgb
    have hnp := nestT_pos x hok.2
    have hlo2 := htok.lo
    simp only at hhi2 hlo2 hgb
    rcases hkk with h8 | h7
    · rw [if_pos h8] at hgb
      have hpos : 0 < ch.length := by rw [hi.clen]; omega
      have hform : ∃ g lc gcap, hv = .slice (some ⟨g, 0, none⟩) lc gcap ∧ lc = ch.length := by
        rcases h.hrow.2 with ⟨_, hn⟩ | ⟨g, gcap, cur, hv', _⟩
        · omega
        · exact ⟨g, _, gcap, hv', rfl⟩
      obtain ⟨g, lc, gcap, rfl, hlc⟩ := hform
      have hfw := flatW_bd width_bd x
      have hsx : sz x ≤ 140000 := by simp only [sz] at htot; omega
      refine (lay_group B pb wm w hpb l fb lb nb f0 f1 f2 hC cf cap wv tv g gcap lc _ tx col ch h hE v p x n ind fl bw be htok.node h8 (by omega) hlc (by rw [hi.clen]; omega) (by rw [hi.clen]; omega) (d (n + cntG x))
        (fun W hW => hCl _ _ W (by omega) hW) (by omega) hcb hbb).mono ?_
      rintro e w' ⟨rfl, u, wv', hu, h'⟩
      have hno := hok.1
      refine ⟨rfl, (⟨u, x, n, ind, fl || canR (flatW x) col bw (d (n + cntG x)), bw, be⟩ : Tk) :: r, _, _, _, wv', tv, by rw [List.reverse_cons]; exact h', hi.one ⟨hu, hok.2, hlo2, by simp only; omega, by simp only; omega⟩ rfl (by simp only [sz]; omega) (by simp), by rw [szS_cons, szS_cons]; simp only [sz]; omega, fun f => ?_⟩
      simp only [List.map_cons, Tk.pt, pm]
      rw [if_neg (by omega)]
    · rw [if_neg (by omega)] at hgb
      refine (lay_nest B pb wm w hpb l _ _ _ _ wv tv hv _ tx col ch h v p x n ind fl bw be htok.node h7 ⟨hlo2, by omega⟩ ⟨hok.1, by omega⟩ (by omega)).mono ?_
      rintro e w' ⟨rfl, u, wv', hu, h'⟩
      refine ⟨rfl, (⟨u, x, n, ind + p.n, fl, bw, be⟩ : Tk) :: r, _, _, _, wv', tv, by rw [List.reverse_cons]; exact h', hi.one ⟨hu, hok.2, by simp only; omega, by simp only; omega, by simp only; omega⟩ rfl (by simp only [sz]; omega) rfl, by rw [szS_cons, szS_cons]; simp only [sz]; omega, fun f => ?_⟩
      simp only [List.map_cons, Tk.pt, pm]
      rw [if_pos h7]
  | bin p x y =>
    have hkk : p.k = 6 ∨ p.k = 9 := by
      obtain ⟨b, u, u', _, _, _, _, h⟩ := htok.node.bin
      rcases h with ⟨h, _⟩ | ⟨h, _⟩
      · exact .inl h
      · exact .inr h
    have hok := htok.ok
    simp only [okN] at hok
    have hhi2 := htok.hi
    simp only [nestT] at hhi2
    have hgb := htok.gb
    simp only [cntG] at hgb
    have hlo2 := htok.lo
    simp only at hhi2 hlo2 hgb
    rcases hkk with h6 | h9
    · have hly := leadT_le width_bd y
      have hsy : sz y ≤ 140000 := by simp only [sz] at htot; omega
      refine (lay_cat B pb wm w hpb l fb lb nb f0 f1 f2 hC _ wv tv hv _ tx col ch h v p x y n ind fl bw be htok.node h6 (by omega) (by omega) hbb).mono ?_
      rintro e w' ⟨rfl, u, u', wv', hu, hu', h'⟩
      refine ⟨rfl, (⟨u, x, n, ind, fl, if (leadT y).2 = true then (leadT y).1 else (leadT y).1 + bw, if (leadT y).2 = true then (leadT y).2 else be⟩ : Tk) :: (⟨u', y, n + cntG x, ind, fl, bw, be⟩ : Tk) :: r, _, _, _, wv', tv, by rw [List.reverse_cons, List.reverse_cons]; exact h', hi.two ⟨hu, hok.1, hlo2, by simp only; omega, by simp only; omega⟩ ⟨hu', hok.2, hlo2, by simp only; omega, by simp only; omega⟩ rfl rfl (by simp only [sz]; omega), by rw [szS_cons, szS_cons, szS_cons]; simp only [sz]; omega, fun f => ?_⟩
      simp only [List.map_cons, Tk.pt, pm]
      rw [if_pos h6]
    · refine (lay_alt B pb wm w hpb l _ _ _ _ wv tv hv _ tx col ch h v p x y n ind fl bw be htok.node h9 (by omega)).mono ?_
      rintro e w' ⟨rfl, u, wv', hu, h'⟩
      have htk : TOk B wm l G ⟨u, if fl then y else x, if fl then n + cntG x else n, ind, fl, bw, be⟩ := by
        cases fl
        · exact ⟨hu, hok.1, hlo2, by simp only [Bool.false_eq_true, if_false]; omega, by simp only [Bool.false_eq_true, if_false]; omega⟩
        · exact ⟨hu, hok.2, hlo2, by simp only [if_true]; omega, by simp only [if_true]; omega⟩
      have hss : sz (if fl then y else x) < sz (.bin p x y) := by
        cases fl <;> simp [sz] <;> omega
      refine ⟨rfl, (⟨u, if fl then y else x, if fl then n + cntG x else n, ind, fl, bw, be⟩ : Tk) :: r, _, _, _, wv', tv, by rw [List.reverse_cons]; exact h', hi.one htk rfl hss rfl, by rw [szS_cons, szS_cons]; simp only; omega, fun f => ?_⟩
      simp only [List.map_cons, Tk.pt, pm]
      rw [if_neg (by omega)]

end Go.Proofs.YtgmjpdejfdldlaaDoor

namespace Go.Proofs.YtgmjpdejfdldlaaDoor
open Go.RowKit

set_option maxHeartbeats 4000000 in
set_option maxRecDepth 100000 in
theorem print_any (B pb : Nat) (wm w : World) (hpb : pb = wm.heap.size) (hB : B ≤ pb) (l : List Value) (fb lb nb : Nat) (f0 f1 f2 : Value → Option Value) (hC : Ctx B wm l fb lb nb f0 f1 f2) (cf : Nat) (cap wv tv hv : Value) (G : Nat) (hG : G ≤ 1000000) (hE : ∀ (args : Array Value) (W : World), (callFunc cf args).run Tryd.prog W = .ok (.enter cf args) W) (d : Nat → Int → Bool) (hCl : ∀ (j : Nat) (line : Int) (W : World), j < G → wm.grownBy W none → Calls Tryd.prog cf #[.int .i64 (j : Int), .int .i64 line, cap] W fun e w' => e = .returned (.bool (d j line)) ∧ W = w') (its : List Tk) (tx : List Int) (col : Int) (ch : List Int) (h : Pr pb wm w (.map (some fb)) (.map (some lb)) (.map (some nb)) (.func (.func cf) #[] #[cap]) wv tv hv its.reverse tx col ch)
    (hi : PInv B wm l G its tx 0 ch) :
    Calls Tryd.prog 23 #[.pointer (some ⟨pb, 0, none⟩)] w fun e w' => e = .returned (.tuple #[]) ∧ ∃ wv' tv' col',
      Pr pb wm w' (.map (some fb)) (.map (some lb)) (.map (some nb)) (.func (.func cf) #[] #[cap]) wv' tv' hv [] (pm d (szS its + 1) (its.map Tk.pt) tx 0 ch).1 col' (pm d (szS its + 1) (its.map Tk.pt) tx 0 ch).2 := by
  obtain ⟨i0, hi5, hz0, hz1, hz2⟩ := info_parts info5
  have hnot : ∀ (x : Bool) (w : World), (Op.unary .not (.bool x)).run Tryd.prog w = .ok (.bool (!x)) w := fun _ _ => rfl
  have HL := hide (fun (t : Tk) (r : List Tk) (tx : List Int) (col : Int) (ch : List Int) (W : World) (wv tv : Value) => lay_any B pb wm W hpb hB l fb lb nb f0 f1 f2 hC cf cap wv tv hv G hG hE d hCl t r tx col ch)
  obtain ⟨R, hR⟩ : ∃ R, R = pm d (szS its + 1) (its.map Tk.pt) tx 0 ch := ⟨_, rfl⟩
  rw [← hR]
  have H0 := hide h
  have HI0 := hide hi
  have HR := hide hR
  clear hpb hB hC hG hE hCl h hi hR
  go_enter Tryd.func23, Tryd.ntmps23
  go_wp2
  go_step3
  go_wp2
  go_step3
  go_wp2
  go_loopg [2] (szS its) (fun k v wr => ∃ (its : List Tk) (tx : List Int) (col : Int) (ch : List Int) (wv tv : Value) (i : Int) (f : Nat), v = .int .i64 i ∧ 0 ≤ i ∧ i ≤ 4000 ∧
    Pr pb wm wr (.map (some fb)) (.map (some lb)) (.map (some nb)) (.func (.func cf) #[] #[cap]) wv tv hv its.reverse tx col ch ∧ PInv B wm l G its (tx ++ List.replicate i.toNat 32) i ch ∧
    szS its < f ∧ R = pm d f (its.map Tk.pt) (tx ++ List.replicate i.toNat 32) i ch ∧ k = szS its)
  case atStart => exact ⟨its, tx, col, ch, wv, tv, 0, szS its + 1, rfl, by omega, by omega, H0.out, by simpa using HI0.out, by omega, by simpa using HR.out, rfl⟩
  case round =>
    clear H0 HI0 HR
    obtain ⟨its, tx, col, ch, wv, tv, i, f, rfl, hi0, hi1, hP, hI, hf, hR, rfl⟩ := hrel
    have htl := hI.tl
    have HB := hide (beginLine_any pb wm wr _ _ _ _ wv tv hv its.reverse tx col ch hP i hi0 hi1 (by rw [List.length_append] at htl; omega))
    have HI := hide hI
    have HR := hide hR
    have Hf := hide hf
    clear hP hI hR hf htl
    go_wp2_with fail
    refine HB.out.mono ?_
    rintro e w1 ⟨rfl, tv1, hP1⟩
    have HP1 := hide hP1
    clear hP1 HB
    go_wp2
    go_loopg [] (szS its) (fun k wr => ∃ (its' : List Tk) (tx : List Int) (col : Int) (ch : List Int) (wv tv : Value) (f : Nat),
      Pr pb wm wr (.map (some fb)) (.map (some lb)) (.map (some nb)) (.func (.func cf) #[] #[cap]) wv tv hv its'.reverse tx col ch ∧ PInv B wm l G its' tx col ch ∧
      szS its' < f ∧ R = pm d f (its'.map Tk.pt) tx col ch ∧ k = szS its' ∧ szS its' ≤ szS its)
    case atStart => exact ⟨its, _, _, _, _, _, f, HP1.out, HI.out, Hf.out, HR.out, rfl, Nat.le_refl _⟩
    case round =>
      clear HP1 HI HR Hf
      obtain ⟨its', tx, col, ch, wv, tv, f, hP, hI, hf, hR, rfl, hle⟩ := hrel
      cases its' with
      | nil =>
        have HPn := hide (popT_none pb wm wr _ _ _ _ wv tv hv tx col ch hP)
        have hlt := hP.lt
        have HR : Hid (R = (tx, ch)) := by
          obtain ⟨f', rfl⟩ : ∃ f', f = f' + 1 := ⟨f - 1, by omega⟩
          exact hR
        clear hP hI hR hf hle
        go_wp2_with fail
        refine HPn.out.mono ?_
        rintro e w2 ⟨rfl, hP2⟩
        have HP2 := hide (hP2.keep (World.grownBy_alloc w2 (.cells #[.nilIface, .int .i64 0, .bool false, .int .i64 0, .bool false] 109) none))
        clear hP2
        go_wp2
        try rw [Exit.noGoto_ret]
        go_returns
        exact ⟨rfl, wv, tv, col, by rw [HR.out]; exact HP2.out⟩
      | cons t r =>
        have htok := hI.tok t (by simp)
        have hlenr := szS_len r
        have htot := hI.tot
        have htl := hI.tl
        rw [szS_cons] at htot htl
        have hspos := sz_pos t.T
        rw [List.reverse_cons] at hP
        have HPp := hide (popT_any pb wm wr _ _ _ _ wv tv hv r.reverse t tx col ch hP htok.node.iface (by rw [List.length_reverse]; omega))
        have HBr := hide (fun W => breaks_any B t.v t.T t.ind t.fl t.bw t.be W wm htok.node.rep)
        have hnb := nestT_pos t.T htok.ok
        have hbd := brk_bd (T := t.T) (fl := t.fl) htok.lo (by have := htok.hi; omega)
        have HLy := hide (fun W wv tv hp hb => HL.out t r tx col ch W wv tv hp hI hb)
        have HLn := hide (hI.line (brk t.T t.ind t.fl).1 hbd.1 hbd.2)
        have Hle := hide hle
        obtain ⟨f', rfl⟩ : ∃ f', f = f' + 1 := ⟨f - 1, by omega⟩
        have Hf : Hid (szS r < f') := by rw [szS_cons] at hf; unfold Hid; omega
        have HR := hide hR
        have Hsz : Hid (szS r < szS (t :: r)) := by rw [Hid, szS_cons]; omega
        have htxl : tx.length ≤ 600000000 := by omega
        obtain ⟨tt, u, htv⟩ := htok.node.iface
        have HF := hide hf
        clear hP hI hR hf hle htok htot htl hnb hlenr hspos
        obtain ⟨tv0, T, tn, ind, fl, bw, be⟩ := t
        simp only at htv HBr
        subst htv
        obtain ⟨bi, hbi⟩ : ∃ bi, bi = (brk T ind fl).1 := ⟨_, rfl⟩
        cases hb : (brk T ind fl).2
        · have HN : Hid ((brk T ind fl).2 = false) := hb
          rw [hb] at HBr
          simp only at hbd
          rw [← hbi] at HBr hbd
          clear hb HLn hbi
          unfold agg5 at HBr
          unfold Tk.val at HPp
          go_wp2_with fail
          refine HPp.out.mono ?_
          rintro e w2 ⟨rfl, wv2, hP2⟩
          have gA := World.grownBy_alloc w2 (.cells #[.iface tt u, .int .i64 ind, .bool fl, .int .i64 bw, .bool be] 109) none
          have HP2 := hide (hP2.keep gA)
          clear hP2 HPp gA
          go_wp2_with fail
          refine (HBr.out _).mono ?_
          rintro e w3 ⟨rfl, g3⟩
          have HP3 := hide (HP2.out.keep g3)
          have z0 := g3.cell (a := ⟨w2.heap.size, 0, none⟩) (v := .iface tt u) (by simp [go_sem]) (by simp)
          have z1 := g3.cell (a := ⟨w2.heap.size, 1, none⟩) (v := .int .i64 ind) (by simp [go_sem]) (by simp)
          have z2 := g3.cell (a := ⟨w2.heap.size, 2, none⟩) (v := .bool fl) (by simp [go_sem]) (by simp)
          have z3 := g3.cell (a := ⟨w2.heap.size, 3, none⟩) (v := .int .i64 bw) (by simp [go_sem]) (by simp)
          have z4 := g3.cell (a := ⟨w2.heap.size, 4, none⟩) (v := .bool be) (by simp [go_sem]) (by simp)
          have HLw := hide (HLy.out w3 wv2 tv HP3.out HN.out)
          clear HLy HP3 HP2 HBr g3
          go_wp2_with fail
          refine HLw.out.mono ?_
          rintro e w4 ⟨rfl, its2, tx2, col2, ch2, wv3, tv3, hP4, hI4, hlt4, hpm⟩
          have HP4 := hide hP4
          have HI4 := hide hI4
          have Hlt4 := hide hlt4
          have Hpm := hide (hpm f')
          clear hP4 hI4 hlt4 hpm HLw
          go_wp2
          go_roundg (szS its2)
          case measure => exact Hlt4.out
          case rel =>
            have h1 := Hlt4.out
            have h2 := HF.out
            have h3 := Hle.out
            exact ⟨its2, tx2, col2, ch2, wv3, tv3, f', HP4.out, HI4.out, by omega, HR.out.trans Hpm.out, rfl, by omega⟩
        · have HN : Hid ((brk T ind fl).2 = true) := hb
          rw [hb] at HBr
          simp only at hbd HLn
          rw [← hbi] at HBr hbd HLn
          have HRn : Hid (R = pm d f' (r.map Tk.pt) (tx ++ [10] ++ List.replicate bi.toNat 32) bi ch) := by
            rw [Hid, HR.out, List.map_cons]
            cases T with
            | leaf p => simp only [Tk.pt, pm, HN.out, ← hbi, if_true]
            | un p x => simp [brk] at hb
            | bin p x y => simp [brk] at hb
          clear hb hbi HLy HR
          unfold agg5 at HBr
          unfold Tk.val at HPp
          obtain ⟨hbi0, hbi1⟩ := hbd
          go_wp2_with fail
          refine HPp.out.mono ?_
          rintro e w2 ⟨rfl, wv2, hP2⟩
          have gA := World.grownBy_alloc w2 (.cells #[.iface tt u, .int .i64 ind, .bool fl, .int .i64 bw, .bool be] 109) none
          have HP2 := hide (hP2.keep gA)
          clear hP2 HPp gA
          go_wp2_with fail
          refine (HBr.out _).mono ?_
          rintro e w3 ⟨rfl, g3⟩
          have hP := HP2.out.keep g3
          have HQ := hide hP
          have c5 := hP.c5
          have f5 := hP.fz 5
          have hlt := hP.lt
          have htl := World.ownsRow.lt hP.trow
          obtain ⟨ta, tcap, htf, _, _⟩ := row_form hP.trow
          have hgI2 : w3.grownBy (w3.alloc (.cells #[.int .u8 10] 5)) none := World.grownBy_alloc _ _ _
          have hne : tv.ownBlock ≠ some pb := fun e => by have := htl pb e; omega
          have HNe := hide hne
          have hrow : w3.ownsRow (pb + 1) 5 1 tv tx.length (tx.map (Value.int .u8)) := hP.trow
          have HRow := hide hrow
          have c5a := hgI2.cell c5 (by simp)
          have f5a : (w3.alloc (.cells #[.int .u8 10] 5)).frozen? ⟨pb, 5, none⟩ = false := (World.frozen?_of_block (hgI2.block pb hlt (by simp))).trans f5
          have HG2 := hide hgI2
          subst htf
          clear hne hP hrow hgI2 g3 HP2 HBr
          go_wp2_with (at_builtin; refine wpList_append_own_at _ rfl _ _ 22 rfl (pb + 1) 5 i0 (.int .u8 0) 1 1 Tryd.underlying22 hi5 hz0 hz1 hz2 rfl (by decide) _ _ _ rfl (World.ownsRow.alloc HRow.out _) ⟨w3.heap.size, 0, none⟩ 1 1 [.int .u8 10] rfl rfl (cells_sole _ _ _) (by intro u hu; simp at hu; subst hu; rfl) (by unfold maxLen; omega) (by omega) (by simp; omega) ?_; intro v1 w4 hown1 hgrow1 _ hat1; have x5 := hgrow1.cell c5a (fun e => HNe.out e.symm); have y5 : w4.frozen? ⟨pb, 5, none⟩ = false := (World.frozen?_of_block (hgrow1.block pb (by simp; omega) (fun e => HNe.out e.symm))).trans f5a; obtain ⟨va, vcap, hv1, _, _⟩ := row_form hown1; subst hv1)
          go_roundg (szS r)
          case measure =>
            have h1 := Hsz.out
            have h3 := Hle.out
            omega
          case rel =>
            refine ⟨r, tx ++ [10], col, ch, wv2, .slice va (tx.length + 1) vcap, bi, f', rfl, hbi0, hbi1, ?_, HLn.out, Hf.out, HRn.out, rfl⟩
            refine Pr.text (HQ.out.keep HG2.out) (tv' := .slice va (tx.length + 1) vcap) hgrow1 ?_ ?_
            · unfold OwB Ow
              rw [List.map_append, List.length_append]
              exact hown1
            · rcases hat1 with e | e
              · exact .inl e
              · exact .inr ⟨_, e, by simp⟩

end Go.Proofs.YtgmjpdejfdldlaaDoor

