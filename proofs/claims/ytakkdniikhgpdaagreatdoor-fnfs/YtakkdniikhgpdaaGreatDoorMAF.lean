import Derived.Test.YtakkdniikhgpdaaGreatDoorMAA
import Derived.Test.YtakkdniikhgpdaaGreatDoorMAD
import Derived.Test.YtakkdniikhgpdaaGreatDoorMAE
namespace Go.Proofs.YtakkdniikhgpdaaGreatDoor
open Go.RowKit

theorem eqByteS_false_of {za zb : List Int} (k : Nat) (h : za[k]?.getD 0 ≠ zb[k]?.getD 0) : decide (za = zb) = false := by
  simp only [decide_eq_false_iff_not]; intro e; exact h (by rw [e])

end Go.Proofs.YtakkdniikhgpdaaGreatDoor

namespace Go.Proofs.YtakkdniikhgpdaaGreatDoor
open Go.RowKit

theorem fsize_of {s : List Int} {m : Nat} (h1 : 1 ≤ m) (h4 : m ≤ 4) (hlo : ∀ j, 1 ≤ j → j < m → hit s j = false) (h : hit s m = true) : fsize s = m := by
  unfold fsize
  by_cases e1 : m = 1
  · subst e1; simp [h]
  · have g1 := hlo 1 (by omega) (by omega)
    by_cases e2 : m = 2
    · subst e2; simp [h, g1]
    · have g2 := hlo 2 (by omega) (by omega)
      by_cases e3 : m = 3
      · subst e3; simp [h, g1, g2]
      · have g3 := hlo 3 (by omega) (by omega)
        have e4 : m = 4 := by omega
        subst e4; simp [h, g1, g2, g3]
theorem fsize_none {s : List Int} {m : Nat} (h4 : 4 < m) (hlo : ∀ j, 1 ≤ j → j < m → hit s j = false) : fsize s = 0 := by
  unfold fsize
  simp [hlo 1 (by omega) (by omega), hlo 2 (by omega) (by omega), hlo 3 (by omega) (by omega), hlo 4 (by omega) (by omega)]
theorem hlo_step {s : List Int} {m : Nat} (hlo : ∀ j, 1 ≤ j → j < m → hit s j = false) (h : hit s m = false) : ∀ j, 1 ≤ j → j < m + 1 → hit s j = false := by
  intro j h1 h2
  by_cases e : j = m
  · rw [e]; exact h
  · exact hlo j h1 (by omega)

set_option maxHeartbeats 2000000 in
set_option maxRecDepth 100000 in
theorem specDecodeText_any (v : Value) (zs : List Int) (w : World) (hv : RdB w.heap.size w v zs) (hby : Bys zs) (hn : zs.length ≤ 1048576) :
    Calls Tryz.prog 82 #[v] w fun e w' => ∃ v', e = .returned (.tuple #[v', .int .i64 (decR zs).2.1, .int .i64 (decR zs).2.2]) ∧ OwI w.heap.size w' v' (decR zs).1 ∧ w.grownBy w' none := by
  obtain ⟨i0, hi, hz0, hz1, hz2⟩ := info_parts info3
  obtain ⟨a, cap, rfl, hr⟩ := hv
  have HV : Hid (RdB w.heap.size w (.slice a zs.length cap) zs) := ⟨a, cap, rfl, hr⟩
  clear hr
  go_enter Tryz.func82, Tryz.ntmps82
  go_wp2
  go_loopw [5, 6] (fun v i wr => ∃ (k : Nat) (acc : List Int), i = .int .i64 k ∧ OwI w.heap.size wr v acc ∧ Mid zs acc k ∧ Below w.heap.size w wr)
    (fun _ i _ => zs.length - (intOf i).toNat)
  case atStart => exact ⟨0, [], rfl, World.ownsRow_nil _ _ _ _, Mid.start zs, Below.refl _ _⟩
  case round =>
    obtain ⟨k, acc, rfl, hown, hmid, hnx⟩ := hrel
    have hkl := hmid.1
    have hal := hmid.2.1
    have HM : Hid (Mid zs acc k) := hmid
    clear hmid
    by_cases hlt : k < zs.length
    · obtain ⟨s, hs⟩ : ∃ s, s = zs.drop k := ⟨_, rfl⟩
      have HS : Hid (s = zs.drop k) := hs
      clear hs
      have HR : Hid (RdB wr.heap.size wr (.slice a zs.length cap) zs) := HV.out.later (grown_of_below hnx)
      go_wp2
      go_loop [5, 7, 8] (fun o st i => o = u5 ∧ st = .int .i64 0 ∧ ∃ m : Nat, 1 ≤ m ∧ m ≤ 5 ∧ i = .int .i64 m ∧ Hid (∀ j, 1 ≤ j → j < m → hit s j = false))
        (fun _ _ i => 5 - (intOf i).toNat)
      case atStart => exact ⟨rfl, rfl, 1, by omega, by omega, rfl, fun j h1 h2 => by omega⟩
      case round =>
        obtain ⟨rfl, rfl, m, hm1, hm5, rfl, HLO⟩ := hrel
        by_cases hm4 : m ≤ 4
        · have hval := l1value_any _ zs k m wr HR.out hby (by omega) hlt hm1 hm4
          rw [← HS.out] at hval
          have HVAL := hval
          clear hval
          by_cases hx0 : 0 ≤ lv s m
          · cases hh : (need (lv s m) == (m : Int))
            · have HLO' : Hid (∀ j, 1 ≤ j → j < m + 1 → hit s j = false) := hlo_step HLO.out (by simp [hit, hh])
              generalize lv s m = x at HVAL hx0 hh
              go_wp2_with (first
                | (go_at_call 92; refine HVAL.mono ?_; rintro e w' ⟨rfl, rfl⟩)
                | (go_at_call 52; refine (l1need_any _ _).mono ?_; rintro e w' ⟨rfl, rfl⟩))
              go_round
              case rel => exact ⟨rfl, rfl, m + 1, by omega, by omega, by go_num, HLO'⟩
              case measure => simp [intOf]; omega
            · have HSZ : Hid (fsize s = m) := fsize_of hm1 hm4 HLO.out (by simp [hit, hh, hx0])
              have hne : ((m : Int) == 0) = false := by simp; omega
              have HMID : Hid (Mid zs (acc ++ [lv s m]) (k + m)) := by
                have h := HM.out.step hlt (by rw [← HS.out, HSZ.out]; omega)
                rw [← HS.out, HSZ.out] at h
                exact h
              have hkm : k + m ≤ zs.length := HMID.out.1
              generalize lv s m = x at HVAL hx0 hh HMID
              go_wp2_with (first
                | (go_at_call 92; refine HVAL.mono ?_; rintro e w' ⟨rfl, rfl⟩)
                | (go_at_call 52; refine (l1need_any _ _).mono ?_; rintro e w' ⟨rfl, rfl⟩)
                | (at_builtin; refine wpList_append_own _ rfl _ _ 71 rfl w.heap.size 3 i0 (.int .i64 0) 1 8 Tryz.underlying71 hi hz0 hz1 hz2 rfl (by decide) _ _ _ rfl (World.ownsRow.alloc hown _) ⟨wr.heap.size, 0, none⟩ 1 1 [.int .i64 x] rfl rfl (cell_one_new _ _ _) (by intro u hu; simp at hu; subst hu; rfl) (by unfold maxLen; omega) (by omega) (by have := hnx.size; simp; omega) ?_; intro v' w1 hown' hgrow _))
              have R := own_app (xs := [x]) _ hnx.size hown hown' (by simp) hgrow
              clear hown' hgrow hown HVAL
              go_wp2
              go_roundw
              case rel => exact ⟨k + m, acc ++ [x], by go_num, R.1, HMID.out, hnx.trans R.2⟩
              case measure => simp [intOf]; omega
          · have HLO' : Hid (∀ j, 1 ≤ j → j < m + 1 → hit s j = false) := hlo_step HLO.out (by simp [hit]; omega)
            generalize lv s m = x at HVAL hx0
            have hx1 : x < 0 := by omega
            go_wp2_with (go_at_call 92; refine HVAL.mono ?_; rintro e w' ⟨rfl, rfl⟩)
            go_round
            case rel => exact ⟨rfl, rfl, m + 1, by omega, by omega, by go_num, HLO'⟩
            case measure => simp [intOf]; omega
        · have HSZ : Hid (fsize s = 0) := fsize_none (by omega) HLO.out
          have HD : Hid (decR zs = ([], 2, (k : Int))) := by
            refine HM.out.bad hlt ?_
            rw [← HS.out]; exact HSZ.out
          go_wp2
          go_ret3
          exact ⟨_, by rw [HD.out]; rfl, by rw [HD.out]; exact World.ownsRow_nil _ _ _ _, grown_of_below hnx⟩
    · have HD : Hid (decR zs = (acc, 0, 0)) := HM.out.done hlt
      go_wp2
      go_ret3
      exact ⟨_, by rw [HD.out]; rfl, by rw [HD.out]; exact hown, grown_of_below hnx⟩

end Go.Proofs.YtakkdniikhgpdaaGreatDoor

namespace Go.Proofs.YtakkdniikhgpdaaGreatDoor
open Go.RowKit

def keyB0 : List (List Int) := [[97], [98], [107, 101, 121], [36, 120], [95], [97, 49], [110, 117, 108, 108], [97, 32, 98], [], [49, 97], [195, 169], [108, 111, 110, 103, 95, 110, 97, 109, 101, 95, 111, 102, 95, 97, 95, 107, 101, 121], [73, 110, 102, 105, 110, 105, 116, 121]]
theorem keyB0_dec : ∀ n : Nat, n < 13 → (decR (keyB0.getD n [])).1 = keyW.getD n [] := by decide

section
variable {F : Nat} {v : Value} {zs : List Int} {i : Nat} {Γ Γ1 : Gk} {w w1 w2 : World}
/-- A row of numbers of one's own. -/
theorem KD.own {o : Value} {ys : List Int} (h : KD F v zs Γ w i Γ1 w1) (g : w1.grownBy w2 none) (ho : OwI w1.heap.size w2 o ys) : ∃ a n c Γ', o = .slice a n c ∧ JI (Ful Γ') (a, n, c) ys ∧ Lo w.heap.size (a, n, c) ∧ KD F v zs Γ w i Γ' w2 := by
  rcases ho.2 with ⟨hv, hn⟩ | ⟨c, cap, cur, hv, hbc, hcur, hnc, hcm, hcs, htake⟩
  · have : ys = [] := by simpa using hn
    subst this
    exact ⟨none, 0, 0, Γ1, hv, .inl ⟨rfl, rfl⟩, Lo.nil _, h.keep g⟩
  · have hlo : w.heap.size ≤ c := Nat.le_trans h.gr.size hbc
    have hen : ens (ys.map El.i) = ys.map (Value.int .i64) := by
      clear htake hnc hv ho
      induction ys with
      | nil => rfl
      | cons z wl ih => simp only [ens, List.map_cons, List.flatMap_cons, El.en] at ih ⊢; rw [ih]; rfl
    have hM : MT (F + 1) (updK Γ1 c (.is, cap, ys.map .i)) w2 := h.st.mt.put (by have := h.lt; omega) (fun b _ hb => g.block b hb (by simp)) ⟨cur, (0, 0), hcur, hcs, by simpa using hnc, .inl rfl, fun y hy => by
      obtain ⟨z, _, rfl⟩ := List.mem_map.1 hy
      rfl, fun j u hj => by
      rw [hen] at hj
      have hjl : j < ys.length := by simpa using (List.getElem?_eq_some_iff.1 hj).1
      have := congrArg (fun l => l[j]?) htake
      simp only [Nat.mul_one] at this
      rw [List.getElem?_take, if_pos hjl, Array.getElem?_toList] at this
      rw [this]
      exact hj⟩
    exact ⟨some ⟨c, 0, none⟩, ys.length, cap, _, hv, .inr ⟨c, cap, by simp, updK_at _ _ _, hcm⟩, fun a e => by cases e; exact hlo, h.turn hM g (fun b e => by cases e) (h.nw.upd hlo)⟩
end

set_option maxHeartbeats 1000000 in
set_option maxRecDepth 100000 in
theorem drawNumber_k {F : Nat} {v : Value} {zs : List Int} {i : Nat} {Γ : Gk} {w : World} (hs : KS F v zs i Γ w) (hz : Zk zs) :
    Calls Tryz.prog 72 #[.pointer (some ⟨F, 0, none⟩)] w fun e w' => e = .returned (.string (strOfNums (dNum zs i).1)) ∧ KD F v zs Γ w (dNum zs i).2 Γ w' := by
  have gA := World.grownBy_alloc w (Obj.cells #[.string { data := #[48] }, .string { data := #[49] }, .string { data := #[45, 49] }, .string { data := #[43, 49] }, .string { data := #[49, 50, 46, 53] }, .string { data := #[46, 53] }, .string { data := #[53, 46] }, .string { data := #[49, 101, 51] }, .string { data := #[49, 69, 43, 51] }, .string { data := #[50, 101, 45, 49, 48] }, .string { data := #[48, 120, 49, 70] }, .string { data := #[45, 48, 88, 97, 98] }, .string { data := #[73, 110, 102, 105, 110, 105, 116, 121] }, .string { data := #[45, 73, 110, 102, 105, 110, 105, 116, 121] }, .string { data := #[43, 78, 97, 78] }, .string { data := #[78, 97, 78] }, .string { data := #[48, 46, 48] }, .string { data := #[49, 48] }, .string { data := #[45, 46, 53, 101, 49] }, .string { data := #[53, 46, 101, 50] }, .string { data := #[48, 101, 48] }, .string { data := #[43, 48, 120, 48] }] 9) none
  have HN := hide (((KD.refl hs).keep gA).next hz)
  have hcell := fun n hn => lit_cellK w numW 9 n hn #[.string { data := #[48] }, .string { data := #[49] }, .string { data := #[45, 49] }, .string { data := #[43, 49] }, .string { data := #[49, 50, 46, 53] }, .string { data := #[46, 53] }, .string { data := #[53, 46] }, .string { data := #[49, 101, 51] }, .string { data := #[49, 69, 43, 51] }, .string { data := #[50, 101, 45, 49, 48] }, .string { data := #[48, 120, 49, 70] }, .string { data := #[45, 48, 88, 97, 98] }, .string { data := #[73, 110, 102, 105, 110, 105, 116, 121] }, .string { data := #[45, 73, 110, 102, 105, 110, 105, 116, 121] }, .string { data := #[43, 78, 97, 78] }, .string { data := #[78, 97, 78] }, .string { data := #[48, 46, 48] }, .string { data := #[49, 48] }, .string { data := #[45, 46, 53, 101, 49] }, .string { data := #[53, 46, 101, 50] }, .string { data := #[48, 101, 48] }, .string { data := #[43, 48, 120, 48] }] rfl
  have hFw : F < w.heap.size := hs.lt
  have hkb := nx_bd hz.by' i
  have HP : Hid (dNum zs i = (numW.getD ((nx zs i).1 % 22).toNat [], (nx zs i).2)) := rfl
  generalize (nx zs i).1 = k at *
  generalize (nx zs i).2 = j at *
  obtain ⟨hk0, hk1⟩ := hkb
  clear hs hz
  go_enter Tryz.func72, Tryz.ntmps72
  go_wp2_with fail
  refine HN.out.mono ?_
  rintro e w1 ⟨rfl, hD1, g1⟩
  have HD1 := hide hD1
  have hc := g1.cell (hcell (k % 22).toNat (by simp [numW]; omega)) (by simp; omega)
  generalize numW.getD (k % 22).toNat [] = t at *
  clear HN hD1 g1 hcell gA
  go_wp2
  go_ret
  rw [HP.out]
  exact ⟨rfl, HD1.out⟩

attribute [-go_sem] Builtin.append_
set_option maxHeartbeats 1000000 in
set_option maxRecDepth 100000 in
theorem drawComments_k {F : Nat} {v : Value} {zs : List Int} {i : Nat} {Γ : Gk} {w : World} (hs : KS F v zs i Γ w) (hz : Zk zs) (rare : Int) (h1 : 1 ≤ rare) (h2 : rare ≤ 1000000) :
    Calls Tryz.prog 68 #[.pointer (some ⟨F, 0, none⟩), .int .i64 rare] w fun e w' => ∃ a n c, e = .returned (.slice a n c) ∧ ∃ Γ', JC (Ful Γ') (a, n, c) (dComs zs rare i).1 ∧ KD F v zs Γ w (dComs zs rare i).2 Γ' w' := by
  have HZ := hide hz
  have HN := hide (hs.next hz)
  have hkb := nx_bd hz.by' i
  have HP : Hid (dComs zs rare i = if (nx zs i).1 % rare ≠ 0 then ([], (nx zs i).2) else dComN zs ((nx zs i).1 / rare % 3 + 1).toNat (nx zs i).2) := rfl
  generalize (nx zs i).1 = k at *
  generalize (nx zs i).2 = j at *
  obtain ⟨hk0, hk1⟩ := hkb
  clear hs hz
  have hr0 : (rare == 0) = false := by simp; omega
  go_enter Tryz.func68, Tryz.ntmps68
  go_wp2_with fail
  refine HN.out.mono ?_
  rintro e w1 ⟨rfl, hD1⟩
  have HD1 := hide hD1
  clear HN hD1
  by_cases hm : k % rare = 0
  · have qm : (k % rare != 0) = false := by simpa using hm
    have HQ := hide (HP.out.trans (if_neg (fun h => h hm)))
    have hq0 : 0 ≤ k / rare := Int.ediv_nonneg hk0 (by omega)
    have hq1 : k / rare ≤ 255 := Int.le_trans (Int.ediv_le_self rare hk0) hk1
    obtain ⟨q, hq⟩ : ∃ q : Nat, k / rare % 3 = (q : Int) := ⟨(k / rare % 3).toNat, by omega⟩
    have hq3 : q < 3 := by omega
    rw [hq] at HQ
    have HQq := hide hq
    clear hm HP hq
    go_wp2
    go_loopw [6, 7] (fun o t W => ∃ (m : Nat) (Γ1 : Gk) (a : Option Addr) (c : Nat) (els : List El), m ≤ q + 1 ∧ t = .int .i64 m ∧ o = .slice a m c ∧ Ful Γ1 .cm (a, m, c) els ∧ Js (J1 (Ful Γ1)) els (dComN zs m j).1 ∧ Lo w.heap.size (a, m, c) ∧ KD F v zs Γ w (dComN zs m j).2 Γ1 W) (fun _ t _ => 3 - (intOf t).toNat)
    case atStart => exact ⟨0, Γ, none, 0, [], Nat.zero_le _, rfl, rfl, .inl ⟨rfl, rfl⟩, trivial, Lo.nil _, HD1.out⟩
    case round =>
      obtain ⟨m, Γ1, a, c, els, hm3, rfl, rfl, hF, hJ, hLo, hD⟩ := hrel
      clear HD1
      by_cases hle : m ≤ q
      · have hle' : (m : Int) ≤ k / rare % 3 := by rw [HQq.out]; omega
        have HS : Hid (dComN zs (m + 1) j = ((dComN zs m j).1 ++ [(dCom zs (dComN zs m j).2).1], (dCom zs (dComN zs m j).2).2)) := rfl
        have HCm := hide (drawComment_k hD.st HZ.out)
        generalize dCom zs (dComN zs m j).2 = x at *
        generalize (dComN zs m j).1 = cs at *
        generalize (dComN zs m j).2 = j1 at *
        have HF := hide hF
        have HJ := hide hJ
        have HL := hide hLo
        have HD := hide hD
        clear hF hJ hLo hD
        go_wp2_with fail
        refine HCm.out.mono ?_
        rintro e w2 ⟨bb, ta, tn, tc, rfl, Γ2, hj2, D2⟩
        obtain ⟨g, mc, w3, hrun, hD3, hF3, hg3, hgo, _⟩ := (HD.out.trans D2).app1 (k := .cm) (D2.ex.ful HF.out) HL.out (.c bb (ta, tn, tc)) #[.bool bb, .slice ta tn tc] rfl rfl (by omega)
        have hbs : ∀ v ys, Ful Γ2 .bs v ys → Ful (updK Γ2 g (.cm, mc, els ++ [.c bb (ta, tn, tc)])) .bs v ys := fun v ys hf => hf.beside (fun y e => by
          rcases hgo with hgo | hgo <;> rw [hgo] at e <;> cases e)
        have HJ3 := hide (((HJ.out.mono (fun e c => J1.mono D2.ex.rle.b)).mono (fun e c => J1.mono hbs)).app (cs' := [x.1]) (els' := [.c bb (ta, tn, tc)]) ⟨⟨hj2.1, hbs _ _ hj2.2⟩, trivial⟩)
        replace hrun : (Builtin.append_ #[98, 98] 98 #[.slice a m c, .slice (some ⟨w2.heap.size, 0, none⟩) 1 1]).run Tryz.prog (w2.alloc (.cells #[.bool bb, .slice ta tn tc] 127)) = .ok (.slice (some ⟨g, 0, none⟩) (m + 1) mc) w3 := hrun
        have HF3 := hide hF3
        have HD3 := hide hD3
        clear hF3 hD3 D2 HCm hj2 hbs hgo
        go_wp2
        go_roundw
        case rel => exact ⟨m + 1, _, _, _, _, by omega, by go_num, rfl, HF3.out, by rw [HS.out]; exact HJ3.out, fun b e => by cases e; exact hg3, by rw [HS.out]; exact HD3.out⟩
        case measure => simp [intOf]; omega
      · have hle' : ¬ (m : Int) ≤ k / rare % 3 := by rw [HQq.out]; omega
        have hmq : m = q + 1 := by omega
        subst hmq
        have HF := hide hF
        have HJ := hide hJ
        have HD := hide hD
        clear hF hJ hLo hD
        go_wp2
        go_ret
        rw [HQ.out, show ((q : Int) + 1).toNat = q + 1 by omega]
        exact ⟨_, _, _, rfl, Γ1, ⟨els, HF.out, HJ.out⟩, HD.out⟩
  · have qm : (k % rare != 0) = true := by simpa using hm
    have HQ := hide (HP.out.trans (if_pos hm))
    clear hm HP
    go_wp2
    go_ret
    rw [HQ.out]
    exact ⟨none, 0, 0, rfl, Γ, ⟨[], .inl ⟨rfl, rfl⟩, trivial⟩, HD1.out⟩

set_option maxHeartbeats 1000000 in
set_option maxRecDepth 100000 in
theorem drawKey_k {F : Nat} {v : Value} {zs : List Int} {i : Nat} {Γ : Gk} {w : World} (hs : KS F v zs i Γ w) (hz : Zk zs) :
    Calls Tryz.prog 74 #[.pointer (some ⟨F, 0, none⟩)] w fun e w' => ∃ a n c, e = .returned (.slice a n c) ∧ ∃ Γ', JI (Ful Γ') (a, n, c) (dKey zs i).1 ∧ KD F v zs Γ w (dKey zs i).2 Γ' w' := by
  have HZ := hide hz
  have HN := hide (hs.next hz)
  have hkb := nx_bd hz.by' i
  have HP : Hid (dKey zs i = if 240 < (nx zs i).1 then dus zs 5 (nx zs i).2 else (keyW.getD ((nx zs i).1 % 13).toNat [], (nx zs i).2)) := rfl
  generalize (nx zs i).1 = k at *
  generalize (nx zs i).2 = j at *
  obtain ⟨hk0, hk1⟩ := hkb
  clear hs hz
  go_enter Tryz.func74, Tryz.ntmps74
  go_wp2_with fail
  refine HN.out.mono ?_
  rintro e w1 ⟨rfl, hD0⟩
  have gA := World.grownBy_alloc w1 (Obj.cells #[.string { data := #[97] }, .string { data := #[98] }, .string { data := #[107, 101, 121] }, .string { data := #[36, 120] }, .string { data := #[95] }, .string { data := #[97, 49] }, .string { data := #[110, 117, 108, 108] }, .string { data := #[97, 32, 98] }, .string { data := #[] }, .string { data := #[49, 97] }, .string { data := #[195, 169] }, .string { data := #[108, 111, 110, 103, 95, 110, 97, 109, 101, 95, 111, 102, 95, 97, 95, 107, 101, 121] }, .string { data := #[73, 110, 102, 105, 110, 105, 116, 121] }] 9) none
  have D1 := hD0.keep gA
  by_cases h240 : 240 < k
  · have HQ := hide (HP.out.trans (if_pos h240))
    have HU := hide (drawUnits_k D1.st HZ.out 5 (by omega) (by omega))
    have HD := hide D1
    clear HN hD0 gA D1 HP
    go_wp2_with fail
    refine HU.out.mono ?_
    rintro e w2 ⟨a, n, c, rfl, Γ2, hJ, _, D2⟩
    have HJ := hide hJ
    have HD2 := hide (HD.out.trans D2)
    clear HU hJ D2
    go_wp2
    go_ret
    rw [HQ.out]
    exact ⟨_, _, _, rfl, Γ2, HJ.out, HD2.out⟩
  · have HQ := hide (HP.out.trans (if_neg h240))
    have hcell := lit_cellK w1 keyB0 9 (k % 13).toNat (by simp [keyB0]; omega) #[.string { data := #[97] }, .string { data := #[98] }, .string { data := #[107, 101, 121] }, .string { data := #[36, 120] }, .string { data := #[95] }, .string { data := #[97, 49] }, .string { data := #[110, 117, 108, 108] }, .string { data := #[97, 32, 98] }, .string { data := #[] }, .string { data := #[49, 97] }, .string { data := #[195, 169] }, .string { data := #[108, 111, 110, 103, 95, 110, 97, 109, 101, 95, 111, 102, 95, 97, 95, 107, 101, 121] }, .string { data := #[73, 110, 102, 105, 110, 105, 116, 121] }] rfl
    have hwd := WdK.at (L := keyB0) (by decide) (k % 13).toNat
    have HDe := hide (keyB0_dec (k % 13).toNat (by omega))
    generalize keyB0.getD (k % 13).toNat [] = t at *
    generalize keyW.getD (k % 13).toNat [] = kw at *
    obtain ⟨cap, w3, hrun, hD3, hcp, _, sz3⟩ := D1.conv t hwd.2 (by omega)
    simp only [World.size_alloc] at hrun hD3
    have hrd : RdB w3.heap.size w3 (.slice (some ⟨w1.heap.size + 1, 0, none⟩) t.length cap) t := (JB.rd (v := (some ⟨w1.heap.size + 1, 0, none⟩, t.length, cap)) (Ful.pre (.inr ⟨_, cap, by simp, updK_at _ _ _, hcp⟩)) hD3.st.mt).1
    have HDc := hide (specDecodeText_any _ t w3 hrd hwd.2 (by have := hwd.1; omega))
    have HD3 := hide hD3
    clear HN hD0 gA D1 hD3 hrd HP
    go_wp2_with fail
    refine HDc.out.mono ?_
    rintro e w4 ⟨o, rfl, o4, g4⟩
    obtain ⟨a, n, c, Γ4, rfl, hJ4, _, D4⟩ := HD3.out.own g4 o4
    have HJ4 := hide hJ4
    have HD4 := hide D4
    clear HDc o4 g4 hJ4 D4
    go_wp2
    go_ret
    rw [HQ.out, ← HDe.out]
    exact ⟨_, _, _, rfl, Γ4, HJ4.out, HD4.out⟩
end Go.Proofs.YtakkdniikhgpdaaGreatDoor

