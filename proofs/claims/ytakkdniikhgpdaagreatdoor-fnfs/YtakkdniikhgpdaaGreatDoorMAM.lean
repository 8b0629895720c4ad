import Derived.Test.YtakkdniikhgpdaaGreatDoorMAI
import Derived.Test.YtakkdniikhgpdaaGreatDoorMAL
namespace Go.Proofs.YtakkdniikhgpdaaGreatDoor
open Go.RowKit
attribute [-go_sem] Builtin.append_

/-- The block of a tree. -/
structure Tv (w : World) (b : Nat) (u0 u1 : Value) : Prop where
  c0 : w.cell? ⟨b, 0, none⟩ = some u0
  c1 : w.cell? ⟨b, 1, none⟩ = some u1
  f0 : w.frozen? ⟨b, 0, none⟩ = false
  f1 : w.frozen? ⟨b, 1, none⟩ = false
theorem Tv.new (w : World) (u0 u1 : Value) (t : TypeId) : Tv (w.alloc (.cells #[u0, u1] t)) w.heap.size u0 u1 := by
  refine ⟨?_, ?_, ?_, ?_⟩
  · rw [cell_of_row _ w.heap.size 0 _ _ _ (heap_alloc_new w _)]; rfl
  · rw [cell_of_row _ w.heap.size 1 _ _ _ (heap_alloc_new w _)]; rfl
  · exact frozen_of_row _ w.heap.size 0 _ _ (heap_alloc_new w _)
  · exact frozen_of_row _ w.heap.size 1 _ _ (heap_alloc_new w _)
theorem Tv.lt {w : World} {b : Nat} {u0 u1 : Value} (h : Tv w b u0 u1) : b < w.heap.size := World.block_lt_of_cell? w _ h.c0
theorem Tv.block {w w' : World} {b : Nat} {u0 u1 : Value} (h : Tv w b u0 u1) (hb : w'.heap[b]? = w.heap[b]?) : Tv w' b u0 u1 :=
  ⟨(World.cell?_of_block (a := ⟨b, 0, none⟩) hb).trans h.c0, (World.cell?_of_block (a := ⟨b, 1, none⟩) hb).trans h.c1, (World.frozen?_of_block (a := ⟨b, 0, none⟩) hb).trans h.f0, (World.frozen?_of_block (a := ⟨b, 1, none⟩) hb).trans h.f1⟩
theorem Tv.keep {w w' : World} {b : Nat} {u0 u1 : Value} {r : Option Nat} (h : Tv w b u0 u1) (g : w.grownBy w' r) (hr : some b ≠ r) : Tv w' b u0 u1 := h.block (g.block b h.lt hr)
/-- What a drawn tree leaves. -/
def Trk (F : Nat) (v : Value) (zs : List Int) (Γ : Gk) (w : World) (r : (List Nod × List Cm) × Nat) (e : Ending) (w' : World) : Prop := ∃ na nn nc ta tn tc, e = .returned (.agg #[.slice na nn nc, .slice ta tn tc]) ∧ ∃ Γ', JN (Ful Γ') (na, nn, nc) r.1.1 ∧ JC (Ful Γ') (ta, tn, tc) r.1.2 ∧ KD F v zs Γ w r.2 Γ' w'
theorem JN.blk {Γ Γ' : Gk} {v : Sv} {ns : List Nod} (h : JN (Ful Γ) v ns) (hr : Rle (Ful Γ) (Ful Γ')) (hg : ∀ b y, v.1 = some ⟨b, 0, none⟩ → Γ b = some y → Γ' b = some y) : JN (Ful Γ') v ns := by
  obtain ⟨els, h1, h2⟩ := h
  exact ⟨els, h1.blk hg, h2.mono (fun e c => JD.mono hr)⟩
theorem JN.gex {Γ Γ' : Gk} {v : Sv} {ns : List Nod} (h : JN (Ful Γ) v ns) (hx : Gex Γ Γ') : JN (Ful Γ') v ns := h.blk hx.rle (fun b y _ e => hx b y e)

set_option maxHeartbeats 8000000 in
set_option maxRecDepth 100000 in
theorem drawGood_k {F : Nat} {v : Value} {zs : List Int} (hz : Zk zs) (i : Nat) (Γ : Gk) (w : World) (hs : KS F v zs i Γ w) :
    Calls Tryz.prog 61 #[.pointer (some ⟨F, 0, none⟩)] w fun e w' => Trk F v zs Γ w (dGood zs i) e w' := by
  have HZ := hide hz
  have D0 := (KD.refl hs).keep (World.grownBy_alloc w (Obj.cells #[.slice none 0 0, .slice none 0 0] 100) none)
  have tR := Tv.new w (.slice none 0 0) (.slice none 0 0) 100
  have hRn : Γ w.heap.size = none := hs.mt.gone (Nat.le_refl _)
  have hFR : w.heap.size ≠ F := by have := hs.lt; omega
  have HN := hide (D0.next hz)
  have HP : Hid (dGood zs i = (((dMore zs (rareV (nx zs i).1 (nx zs (nx zs i).2).1) 4 (dNodes zs (rareV (nx zs i).1 (nx zs (nx zs i).2).1) 4 (nx zs (nx zs i).2).2)).1, (dComs zs (rareV (nx zs i).1 (nx zs (nx zs i).2).1) (dMore zs (rareV (nx zs i).1 (nx zs (nx zs i).2).1) 4 (dNodes zs (rareV (nx zs i).1 (nx zs (nx zs i).2).1) 4 (nx zs (nx zs i).2).2)).2).1), (dComs zs (rareV (nx zs i).1 (nx zs (nx zs i).2).1) (dMore zs (rareV (nx zs i).1 (nx zs (nx zs i).2).1) 4 (dNodes zs (rareV (nx zs i).1 (nx zs (nx zs i).2).1) 4 (nx zs (nx zs i).2).2)).2).2)) := rfl
  have hkb := nx_bd hz.by' i
  have hkb2 := nx_bd hz.by' (nx zs i).2
  generalize hk1 : (nx zs i).1 = k1 at *
  generalize hj1 : (nx zs i).2 = j1 at *
  generalize hk2 : (nx zs j1).1 = k2 at *
  generalize hj2 : (nx zs j1).2 = j2 at *
  have HK2 := hide (And.intro hk2 hj2)
  clear hs hz D0 hk1 hj1 hk2 hj2
  go_enter Tryz.func61, Tryz.ntmps61
  go_wp2_with fail
  refine HN.out.mono ?_
  rintro e w1 ⟨rfl, hD1, g1⟩
  replace tR := tR.keep g1 (by simpa using hFR)
  have HN2 := hide (hD1.next HZ.out)
  rw [HK2.out.1, HK2.out.2] at HN2
  clear HN hD1 g1 HK2
  obtain ⟨qa, hqa⟩ : ∃ qa, (k1 % 3 == 0) = qa := ⟨_, rfl⟩
  obtain ⟨qb, hqb⟩ : ∃ qb, (k2 % 3 == 1) = qb := ⟨_, rfl⟩
  have HR : Hid (rareV k1 k2 = if qb = true then 100000 else if qa = true then 3 else 30) := by
    unfold Hid rareV
    rw [← hqa, ← hqb]
    simp
  obtain ⟨rv, hrv⟩ : ∃ rv : Int, rareV k1 k2 = rv := ⟨_, rfl⟩
  rw [hrv] at HP HR
  clear hrv
  have hb : 1 ≤ rv ∧ rv ≤ 1000000 := by
    have := HR.out
    cases qa <;> cases qb <;> simp at this <;> omega
  obtain ⟨hb1, hb2⟩ := hb
  have Hb1 := hide hb1
  have Hb2 := hide hb2
  clear hb1 hb2
  cases qa <;> cases qb
  all_goals
    simp only [if_true, Bool.false_eq_true, if_false] at HR
    go_wp2_with fail
    refine HN2.out.mono ?_
    rintro e w2 ⟨rfl, hD2, g2⟩
    replace tR := tR.keep g2 (by simpa using hFR)
    have HD2 := hide hD2
    clear HN2 hD2 g2
    have HDr := hide (drawNodes_any HZ.out rv Hb1.out Hb2.out 4 (by omega) j2 Γ w2 HD2.out.st)
    have hX0 := dNodes_len (zs := zs) (rare := rv) 4 j2
    generalize dNodes zs rv 4 j2 = X0 at *
    rw [HR.out] at HDr
    go_wp2_with fail
    refine HDr.out.mono ?_
    rintro e w3 ⟨xa, xn, xc, rfl, Γ3, hJ3, _, D3'⟩
    have hRl2 := tR.lt
    replace tR := tR.keep D3'.gr (by simpa using hFR)
    have D3 := HD2.out.trans D3'
    have hTn : Γ3 w3.heap.size = none := D3.st.mt.gone (Nat.le_refl _)
    have hRn3 : Γ3 w.heap.size = none := by rw [D3'.nw _ hRl2]; exact hRn
    have gT := World.grownBy_alloc w3 (Obj.cells #[.slice xa xn xc, .slice none 0 0] 100) none
    have tT := Tv.new w3 (.slice xa xn xc) (.slice none 0 0) 100
    have hxl : xn ≤ 341 := by
      obtain ⟨els, h1, h2⟩ := hJ3
      have := h1.n
      have := h2.len
      have h5 : nBk 4 = 341 := by decide
      omega
    obtain ⟨W4, hW4⟩ : ∃ W4, W4 = w3.alloc (Obj.cells #[.slice xa xn xc, .slice none 0 0] 100) := ⟨_, rfl⟩
    rw [← hW4] at tT gT
    have HD4 := hide (D3.keep gT)
    have HTR := hide (tR.keep gT (by simp))
    have HTT := hide tT
    have HJ3 := hide hJ3
    have hRT : w.heap.size ≠ w3.heap.size := by have := tR.lt; omega
    have hFT : w3.heap.size ≠ F := by have := D3.lt; have := D3.gr.size; omega
    have hloT : w.heap.size ≤ w3.heap.size := D3.gr.size
    have HRn := hide hRn3
    have HTn := hide hTn
    clear HDr HD2 D3 D3' tR tT gT hJ3 hRn hTn hRn3 hX0
    go_wp2
    rw [← hW4]
    clear hW4
    generalize w3.heap.size = Tb at *
    generalize hRr : w.heap.size = R at *
    have HRr := hide hRr
    clear hRr
    go_loopw [5] (fun i W => ∃ (j : Nat) (Γ5 : Gk) (s : List Nod × Nat) (a : Option Addr) (n c : Nat), j ≤ 4 ∧ i = .int .i64 j ∧ dMore zs rv (4 - j) s = dMore zs rv 4 X0 ∧ n ≤ 3000 ∧ JN (Ful Γ5) (a, n, c) s.1 ∧ Tv W Tb (.slice a n c) (.slice none 0 0) ∧ Tv W R (.slice none 0 0) (.slice none 0 0) ∧ Γ5 Tb = none ∧ Γ5 R = none ∧ KD F v zs Γ w s.2 Γ5 W) (fun i _ => 4 - (intOf i).toNat)
    case atStart => exact ⟨0, Γ3, X0, xa, xn, xc, by omega, rfl, rfl, by omega, HJ3.out, HTT.out, HTR.out, HTn.out, HRn.out, HD4.out⟩
    case round =>
      obtain ⟨j, Γ5, s, a, n, c, hj, rfl, hM, hn, hJ, hT, hR, hTn, hRn, hD⟩ := hrel
      have HM := hide hM
      have HJ := hide hJ
      have HD := hide hD
      have HT := hide hT
      have HRv := hide hR
      have HTn5 := hide hTn
      have HRn5 := hide hRn
      obtain ⟨t0, t1, tf0, tf1⟩ := id hT
      have hnl : n = s.1.length := by
        obtain ⟨els, h1, h2⟩ := hJ
        rw [h1.n, h2.len]
      have HNl := hide hnl
      have hTlt := hT.lt
      clear HD4 HTT HTR HJ3 HTn HRn hM hJ hT hR hTn hRn hnl
      rcases (show (j < 4 ∧ n < 6) ∨ (¬ j < 4 ∨ (j < 4 ∧ ¬ n < 6)) by omega) with hgo | hgo
      case' inl =>
        obtain ⟨hg4, hg6⟩ := hgo
        have hg4' : (j : Int) < 4 := by omega
        have hg6' : (n : Int) < 6 := by omega
        have HLf := hide (hD.st.left HZ.out)
        have hsl := hD.st.le
        have hzl := HZ.out.ln
        clear hD
        go_wp2_with fail
        refine HLf.out.mono ?_
        rintro e wc ⟨rfl, gL⟩
        have HDc := hide (HD.out.keep gL)
        have HTc := hide (HT.out.keep gL (by simp))
        have HRc := hide (HRv.out.keep gL (by simp))
        clear HLf HD HT HRv gL t0 t1 tf0 tf1
        by_cases hpos : s.2 + 4 < zs.length
        case pos =>
          have hpos' : (4 : Int) < ((zs.length - s.2 : Nat) : Int) := by omega
          have hMs : dMore zs rv (4 - j) s = dMore zs rv (4 - (j + 1)) ({ nod0 with k := 5, cnt := 2 } :: (s.1 ++ (dNodes zs rv 3 s.2).1), (dNodes zs rv 3 s.2).2) := by
            rw [show 4 - j = (4 - (j + 1)) + 1 by omega, dMore, if_pos ⟨by have := HNl.out; omega, hpos⟩]
          have HMs := hide (hMs.symm.trans HM.out)
          have HMo := hide (drawNodes_any HZ.out rv Hb1.out Hb2.out 3 (by omega) s.2 Γ5 wc HDc.out.st)
          have hXl := dNodes_len (zs := zs) (rare := rv) 3 s.2
          generalize dNodes zs rv 3 s.2 = X at *
          rw [HR.out] at HMo
          clear hMs HM
          go_wp2_with fail
          refine HMo.out.mono ?_
          rintro e w6 ⟨ma, mn, mc, rfl, Γ6, hJm, hLm, D6'⟩
          have hml : mn ≤ 85 := by
            obtain ⟨els, h1, h2⟩ := hJm
            have := h1.n
            have := h2.len
            have h5 : nBk 3 = 85 := by decide
            omega
          have hT6 := HTc.out.keep D6'.gr (by simpa using hFT)
          have hR6 := HRc.out.keep D6'.gr (by simpa using hFR)
          have hTl6 := hT6.lt
          have hTlc := HTc.out.lt
          have hRlc := HRc.out.lt
          have D6 := HDc.out.trans D6'
          have hTn6 : Γ6 Tb = none := by rw [D6'.nw Tb hTlc]; exact HTn5.out
          have hRn6 : Γ6 R = none := by rw [D6'.nw R hRlc]; exact HRn5.out
          have hp : JD (Ful Γ6) (.d 5 nilS false nilS nilS nilS 2 nilS) { nod0 with k := 5, cnt := 2 } := ⟨⟨rfl, rfl, rfl⟩, ⟨[], .inl ⟨rfl, rfl⟩, trivial⟩, .inl ⟨rfl, rfl⟩, .inl ⟨rfl, rfl⟩, .inl ⟨rfl, rfl⟩, ⟨[], .inl ⟨rfl, rfl⟩, trivial⟩⟩
          obtain ⟨Γ7, D7, _, _, r7, _, o7⟩ := D6.lit hp #[.int .i64 5, .slice none 0 0, .bool false, .slice none 0 0, .slice none 0 0, .slice none 0 0, .int .i64 2, .slice none 0 0] rfl
          obtain ⟨Γ8, D8, _, hF8, r8, _, o8⟩ := D7.lit (JD.mono r7 hp) #[.int .i64 5, .slice none 0 0, .bool false, .slice none 0 0, .slice none 0 0, .slice none 0 0, .int .i64 2, .slice none 0 0] rfl
          simp only [World.size_alloc] at hF8 o8
          obtain ⟨te, hFt, hJt⟩ := HJ.out
          obtain ⟨me, hFm, hJm'⟩ := hJm
          have hlt6 : ∀ b y, Γ6 b = some y → b < w6.heap.size := fun b y h => (D6.st.mt.lt (b := b) (k := y.1) (m := y.2.1) (ys := y.2.2) h).2
          have hb8 : ∀ b, b < w6.heap.size → Γ8 b = Γ6 b := fun b hb => by rw [o8 b (by omega), o7 b (by omega)]
          have hFt8 : Ful Γ8 .nd (a, n, c) te := (D6'.ex.ful hFt).blk (fun b y e h => by rw [hb8 b (hlt6 b y h)]; exact h)
          obtain ⟨oa, oc, w9, Γ9, hrun9, D9, hF9, hL9, r9, o9, x9⟩ := D8.appM hF8 (w6.heap.size + 1) (by have := D6.gr.size; have := HRr.out; omega) (by simp) (fun ad e => by cases e; simp) hFt8 (by omega)
          have hFm9 : Ful Γ9 .nd (ma, mn, mc) me := hFm.blk (fun b y e h => by
            have := hlt6 b y h
            rw [o9 b (by omega), hb8 b this]; exact h)
          have hs9 := D9.gr.size
          have hsz9 : w6.heap.size + 1 ≤ w9.heap.size := by
            rcases hF9 with ⟨h0, _⟩ | ⟨b, m, h0, h1, _⟩
            · have := congrArg (fun x : Sv => x.2.1) h0
              simp [nilS] at this
            · have h3 := (D9.st.mt.lt h1).2
              have h4 := hL9 ⟨b, 0, none⟩ (by rw [h0])
              simp at h4
              omega
          obtain ⟨pa, pc, w10, Γ10, hrun10, D10, hF10, hL10, r10, o10, x10⟩ := D9.appM hF9 (w6.heap.size + 1) (by have := D6.gr.size; have := HRr.out; omega) hsz9 hL9 hFm9 (by omega)
          have hTn10 : Γ10 Tb = none := by rw [o10 Tb (by omega), o9 Tb (by omega), hb8 Tb hTl6]; exact hTn6
          have hRn10 : Γ10 R = none := by rw [o10 R (by omega), o9 R (by omega), hb8 R hR6.lt]; exact hRn6
          have r810 := ((r7.trans r8).trans r9).trans r10
          have hJn : JN (Ful Γ10) (pa, 1 + n + mn, pc) ({ nod0 with k := 5, cnt := 2 } :: (s.1 ++ X.1)) := ⟨_, hF10, by
            have h1 : Js (JD (Ful Γ10)) [.d 5 nilS false nilS nilS nilS 2 nilS] [{ nod0 with k := 5, cnt := 2 }] := ⟨JD.mono r810 hp, trivial⟩
            have h2 := (h1.app (hJt.mono (fun e c => JD.mono (D6'.ex.rle.trans r810)))).app (hJm'.mono (fun e c => JD.mono r810))
            simpa using h2⟩
          have hT10 := ((hT6.keep (World.grownBy_alloc w6 (Obj.cells #[.int .i64 5, .slice none 0 0, .bool false, .slice none 0 0, .slice none 0 0, .slice none 0 0, .int .i64 2, .slice none 0 0] 119) none) (by simp)).keep (World.grownBy_alloc _ (Obj.cells #[.int .i64 5, .slice none 0 0, .bool false, .slice none 0 0, .slice none 0 0, .slice none 0 0, .int .i64 2, .slice none 0 0] 119) none) (by simp)).block (x9 Tb (by omega)) |>.block (x10 Tb (by omega))
          have hR10 := ((hR6.keep (World.grownBy_alloc w6 (Obj.cells #[.int .i64 5, .slice none 0 0, .bool false, .slice none 0 0, .slice none 0 0, .slice none 0 0, .int .i64 2, .slice none 0 0] 119) none) (by simp)).keep (World.grownBy_alloc _ (Obj.cells #[.int .i64 5, .slice none 0 0, .bool false, .slice none 0 0, .slice none 0 0, .slice none 0 0, .int .i64 2, .slice none 0 0] 119) none) (by simp)).block (x9 R (by have := hR6.lt; omega)) |>.block (x10 R (by have := hR6.lt; omega))
          have D11 := D10.off hTn10 (by have := HRr.out; omega) 0 (.slice pa (1 + n + mn) pc)
          have hq : 1 + n + mn ≤ 3000 := by omega
          have HD11 := hide D11
          have HJn := hide hJn
          have HTn10 := hide hTn10
          have HRn10 := hide hRn10
          have HR10 := hide (hR10.block (heap_setCell_other w10 ⟨Tb, 0, none⟩ R (.slice pa (1 + n + mn) pc) (by simpa using hRT)))
          obtain ⟨u0, u1, uf0, uf1⟩ := hT10
          obtain ⟨v0, v1, vf0, vf1⟩ := hT6
          generalize 1 + n + mn = q2 at *
          generalize 1 + n = q1 at *
          clear HMo D6 D6' D7 D8 D9 D10 D11 hJn hF8 hF9 hF10 hFt hFm hFt8 hFm9 hJt hJm' hL9 hL10 hLm r7 r8 r9 r10 r810 o7 o8 o9 o10 x9 x10 hb8 hlt6 hp hTn6 hRn6 hTn10 hRn10 hR10 hR6 HDc HTc HRc HJ HTn5 HRn5 HNl hs9 hsz9
          go_wp2
          go_roundw
          case rel => exact ⟨j + 1, Γ10, _, pa, q2, pc, by omega, by go_num, HMs.out, hq, HJn.out, ⟨by simp [go_sem, u0], by simp [go_sem, u1], by simp [go_sem, uf0], by simp [go_sem, uf1]⟩, HR10.out, HTn10.out, HRn10.out, HD11.out⟩
          case measure => simp [intOf]; omega
        have hpos' : ¬ (4 : Int) < ((zs.length - s.2 : Nat) : Int) := by omega
        have HFin : Hid (dMore zs rv 4 X0 = s) := by
          unfold Hid
          rw [← HM.out, show 4 - j = (4 - (j + 1)) + 1 by omega, dMore, if_neg (fun h => hpos h.2)]
      case' inr =>
        have HFin : Hid (dMore zs rv 4 X0 = s) := by
          unfold Hid
          rw [← HM.out]
          by_cases h4 : j < 4
          · rw [show 4 - j = (4 - (j + 1)) + 1 by omega, dMore, if_neg (fun h => by have := HNl.out; omega)]
          · rw [show 4 - j = 0 by omega]; rfl
        have HDc := HD
        have HTc := HT
        have HRc := HRv
        clear hD HD HT HRv t0 t1 tf0 tf1
        generalize hwc : wr = wc at *
        rcases hgo with hgo | ⟨hgo, hgo2⟩
        case' inl => have hg4' : ¬ (j : Int) < 4 := by omega
        case' inr =>
          have hg4' : (j : Int) < 4 := by omega
          have hg6' : ¬ (n : Int) < 6 := by omega
      all_goals
        obtain ⟨t0, t1, tf0, tf1⟩ := HTc.out
        have HCm := hide (drawComments_k HDc.out.st HZ.out rv Hb1.out Hb2.out)
        rw [HFin.out] at HP
        generalize dComs zs rv s.2 = TT at *
        rw [HR.out] at HCm
        go_wp2_with fail
        refine HCm.out.mono ?_
        rintro e w6 ⟨ta, tn, tc, rfl, Γ6, hJt, D6'⟩
        have hT6 := HTc.out.keep D6'.gr (by simpa using hFT)
        have hR6 := HRc.out.keep D6'.gr (by simpa using hFR)
        have hTn6 : Γ6 Tb = none := by rw [D6'.nw Tb HTc.out.lt]; exact HTn5.out
        have hRn6 : Γ6 R = none := by rw [D6'.nw R HRc.out.lt]; exact HRn5.out
        have D7 := (((HDc.out.trans D6').off hTn6 (by have := HRr.out; omega) 1 (.slice ta tn tc)).off hRn6 (by have := HRr.out; omega) 0 (.slice a n c)).off hRn6 (by have := HRr.out; omega) 1 (.slice ta tn tc)
        have HD7 := hide D7
        have HJt := hide hJt
        have HJn := hide (JN.gex HJ.out D6'.ex)
        obtain ⟨u0, u1, uf0, uf1⟩ := hT6
        obtain ⟨r0, r1, rf0, rf1⟩ := hR6
        clear HCm D6' D7 hJt hTn6 hRn6 HDc HTc HRc HJ HTn5 HRn5 HNl t0 t1 tf0 tf1
        go_wp2
        refine bodyPost_ret (v := .agg #[.slice a n c, .slice ta tn tc]) (by simp [results, Tryz.results61, go_sem, r0, r1]) rfl ?_
        rw [HP.out]
        exact ⟨_, _, _, _, _, _, rfl, Γ6, HJn.out, HJt.out, HD7.out⟩
end Go.Proofs.YtakkdniikhgpdaaGreatDoor

namespace Go.Proofs.YtakkdniikhgpdaaGreatDoor
open Go.RowKit

def okArg (fs : List Fl) (n : List Int) : Bool := validF fs && nameOK n
theorem valid_len {fs : List Fl} (h : validF fs = true) : fs.length ≤ 50 := by unfold validF at h; simp at h; exact h.1
theorem OwB.nil (B : Nat) (w : World) : OwB B w (.slice none 0 0) [] := ⟨by simp, .inl ⟨rfl, rfl⟩⟩
structure FsCtx (w W : World) (pv : Value) : Prop where
  p : W.cell? ⟨w.heap.size, 0, none⟩ = some pv
  r : W.cell? ⟨w.heap.size + 1, 0, none⟩ = some (.slice none 0 0)
  f : W.frozen? ⟨w.heap.size + 1, 0, none⟩ = false
  g : w.grownBy W none
  s : w.heap.size + 2 ≤ W.heap.size
theorem FsCtx.start (w : World) (pv : Value) : FsCtx w ((w.alloc (Obj.cells #[pv] 25)).alloc (Obj.cells #[.slice none 0 0] 25)) pv :=
  ⟨by simp [go_sem], by simp [go_sem], by simp [go_sem], grown_trans (World.grownBy_alloc _ _ _) (World.grownBy_alloc _ _ _), by simp⟩
theorem FsCtx.later {w W W' : World} {pv : Value} (h : FsCtx w W pv) (g : W.grownBy W' none) : FsCtx w W' pv :=
  ⟨g.cell h.p (by simp), g.cell h.r (by simp), (grown_bothF g h.r h.f).2, grown_trans h.g g, Nat.le_trans h.s g.size⟩
theorem FsCtx.ends {w W : World} {pv v : Value} {X : List Fl} {B : Nat} (h : FsCtx w W pv) (o : OwF B W v X) (hB : w.heap.size + 2 ≤ B) (u : Value) : OwF w.heap.size (W.setCell ⟨w.heap.size + 1, 0, none⟩ u) v X ∧ w.grownBy (W.setCell ⟨w.heap.size + 1, 0, none⟩ u) none :=
  ⟨(o.setLow _ _ (by simp; omega)).base (by omega), grown_of_below ((below_of_grown h.g).setCell (by simp) _)⟩
theorem FsCtx.high {w W : World} {pv : Value} (h : FsCtx w W pv) (a : Addr) (u : Value) (ha : w.heap.size + 2 ≤ a.block) : FsCtx w (W.setCell a u) pv := by
  have hb := (Below.refl (w.heap.size + 2) W).setCell (p := a) ha u
  refine ⟨(hb.cell (by simp)).trans h.p, (hb.cell (by simp)).trans h.r, (hb.frozen (by simp)).trans h.f, grown_of_below ((below_of_grown h.g).setCell (by omega) _), by have := h.s; simp; omega⟩
theorem Fss.fl {fs : List Fl} (h : Fss fs) {f : Fl} (hf : f ∈ fs) : (f.n.length ≤ 1048576 ∧ f.d.length ≤ 1048576) ∧ Byt f.n ∧ Byt f.d := ⟨h.tlen f hf, h.byt f hf⟩
def remC (fs : List Fl) (n : List Int) : Int := if okArg fs n then (match findF fs n with | some _ => 0 | none => 5) else 1
theorem find_none_without {fs : List Fl} {n : List Int} (h : findF fs n = none) : withoutF fs n = fs := by
  unfold findF at h
  rw [List.find?_eq_none] at h
  unfold withoutF
  rw [List.filter_eq_self]
  intro x hx
  have := h x hx
  simpa using this

end Go.Proofs.YtakkdniikhgpdaaGreatDoor

