import Derived.Test.YtgmjpdejfdldlaaDoorMAI
import Derived.Test.YtgmjpdejfdldlaaDoorMAO
namespace Go.Proofs.YtgmjpdejfdldlaaDoor
open Go.RowKit

theorem hidN {p : Prop} (h : p) : Hid p := h

/-- What a map of nodes holds: F of each node's tree. -/
def NTab (B : Nat) (w : World) (l : List Value) (f : Value → Option Value) (F : Tr → Value) : Prop := ∀ v ∈ l, ∀ T, Rep (fun _ => False) B w v T → f v = some (F T)

theorem tab_step {B : Nat} {w : World} {l : List Value} {f : Value → Option Value} {F : Tr → Value} (hF : ∀ T T', Sim T T' → F T = F T') (ho : Once (fun _ => False) w l) {k : Nat} {v : Value} {T' : Tr} (hv : l[k]? = some v)
    (hr : Rep (fun _ => False) B w v T') (h : NTab B w (l.take k) f F) : NTab B w (l.take (k + 1)) (fun k' => if kEq v k' then some (F T') else f k') F := by
  intro v' hm T hT
  have hvl : v ∈ l := List.mem_of_getElem? hv
  have hm' : v' ∈ l := List.mem_of_mem_take hm
  dsimp only
  by_cases e : v = v'
  · subst e
    rw [if_pos (kEq_self (rep_key ho hvl hr)), hF _ _ (rep_sim hr hT)]
  · have e2 : kEq v v' = false := by rw [Bool.eq_false_iff]; exact fun h => e ((kEq_iff (rep_key ho hvl hr) (rep_key ho hm' hT)).1 h)
    rw [if_neg (by rw [e2]; simp)]
    refine h v' ?_ T hT
    rw [List.take_add_one, hv] at hm
    rcases List.mem_append.1 hm with h1 | h1
    · exact h1
    · simp at h1; exact absurd h1.symm e

def fwV (T : Tr) : Value := .int .i64 (flatW T)
theorem fwV_sim (T T' : Tr) (h : Sim T T') : fwV T = fwV T' := by unfold fwV; rw [h.flatW]

set_option maxHeartbeats 400000 in
theorem sumWidth_any (a b : Int) (w : World) (ha : -1 ≤ a ∧ a ≤ 1000000) (hb : -1 ≤ b ∧ b ≤ 1000000) :
    Calls Tryd.prog 64 #[.int .i64 a, .int .i64 b] w fun e w' => e = .returned (.int .i64 (if a = -1 ∨ b = -1 then -1 else a + b)) ∧ w = w' := by
  obtain ⟨R, hR⟩ : ∃ R, R = if a = -1 ∨ b = -1 then -1 else a + b := ⟨_, rfl⟩
  rw [← hR]
  by_cases h1 : a = -1
  · have HF : Hid (R = -1) := by unfold Hid; rw [hR, if_pos (.inl h1)]
    clear hR
    subst h1
    go_enter Tryd.func64, Tryd.ntmps64
    go_wp2
    go_ret
    exact ⟨by rw [HF.out]; rfl, rfl⟩
  · have e1 : (a == -1) = false := by simpa using h1
    by_cases h2 : b = -1
    · have HF : Hid (R = -1) := by unfold Hid; rw [hR, if_pos (.inr h2)]
      clear hR h1
      subst h2
      go_enter Tryd.func64, Tryd.ntmps64
      go_wp2
      go_ret
      exact ⟨by rw [HF.out]; rfl, rfl⟩
    · have e2 : (b == -1) = false := by simpa using h2
      have HF : Hid (R = a + b) := by unfold Hid; rw [hR, if_neg (by omega)]
      clear h1 h2 hR
      go_enter Tryd.func64, Tryd.ntmps64
      go_wp2
      go_ret
      exact ⟨by rw [HF.out]; go_num, rfl⟩

set_option maxHeartbeats 8000000 in
set_option maxRecDepth 100000 in
theorem flatWidths_any (B : Nat) (nv u0 : Value) (T0 : Tr) (l : List Value) (w : World) (hrow : w.ownsRow B 70 1 nv l.length l) (hr : Rep (fun _ => False) B w u0 T0) (hp : Post w u0 T0 l) (ho : Once (fun _ => False) w l) (hsz : sz T0 ≤ 140000) :
    Calls Tryd.prog 43 #[nv] w fun e w' => ∃ f n, e = .returned (.map (some w.heap.size)) ∧ MapIs w' w.heap.size f n ∧ NTab B w l f fwV ∧ w.grownBy w' none := by
  obtain ⟨a, cap, hnv, hnc, hnm⟩ := row_form hrow
  subst hnv
  unfold maxLen at hnm
  have HR : Hid (w.ownsRow B 70 1 (.slice a l.length cap) l.length l) := hrow
  have HRp : Hid (Rep (fun _ => False) B w u0 T0) := hr
  have HPo : Hid (Post w u0 T0 l) := hp
  have HOn : Hid (Once (fun _ => False) w l) := ho
  clear hrow hr hp ho
  have hmk : (Instr.makeMap 59 (some (.int .i64 (l.length : Int)))).run Tryd.prog w = .ok (.map (some w.heap.size)) (w.alloc (.map #[] 0)) := by
    simp [Instr.makeMap, run_underlying Tryd.underlying59, asInt, asIntOf]
  go_enter Tryd.func43, Tryd.ntmps43
  go_wp2
  go_loopw [19] (fun i wr => ∃ (k : Nat) (f : Value → Option Value) (n : Nat), k ≤ l.length ∧ i = .int .i64 k ∧ MapIs wr w.heap.size f n ∧ Hid (NTab B w (l.take k) f fwV) ∧ w.grownBy wr none) (fun i _ => l.length - (intOf i).toNat)
  case atStart => exact ⟨0, _, 0, Nat.zero_le _, rfl, mapIs_made w, (by intro v hv; simp at hv), World.grownBy_alloc _ _ _⟩
  case round =>
    obtain ⟨k, f, n, hk, rfl, hM, HN, hg⟩ := hrel
    by_cases hlt : k < l.length
    · obtain ⟨v, hv⟩ : ∃ v, l[k]? = some v := ⟨_, List.getElem?_eq_getElem hlt⟩
      obtain ⟨T, he, hrT, hsT⟩ := post_elem HRp.out HPo.out k v hv
      have hvl : v ∈ l := List.mem_of_getElem? hv
      have hkey := (rep_key HOn.out hvl hrT).keep hg
      have HStep := hidN (tab_step fwV_sim HOn.out hv hrT HN.out)
      have hbd := flatW_bd width_bd T
      rcases HR.out.2 with ⟨_, h0⟩ | ⟨g, cp, cur, hrg, hbg, hgg, hnc', hcm, hcs, htk⟩
      · omega
      cases hrg
      have m00 := World.ownsRow.cellAt HR.out k (by omega)
      rw [hv] at m00
      have m0 := hg.cell m00 (by simp)
      clear m00
      have hgs := hg.size
      have hmlt := hM.lt
      have HM := hidN hM
      have HK := hidN hkey
      have HG := hidN hg
      have hrest : ∀ w1, w.grownBy w1 none → ∀ w2, w1.grownBy w2 (some w.heap.size) → w.grownBy w2 none := fun w1 h1 w2 h2 => grown_new h1 h2 (fun j e => by cases e; exact Nat.le_refl _)
      have HRest := hidN hrest
      clear hgg hcs htk hM hkey hrest
      cases T with
      | leaf p =>
        have he' := hrT
        simp only [Rep] at he'
        rcases he' with ⟨h1, h2⟩ | ⟨h1, h2⟩ | ⟨h1, h2⟩ | ⟨h1, h2⟩ | ⟨h1, h2⟩ | ⟨h1, b, tv, h2, _, h4, h5, _⟩
        · have hF : Hid (fwV (.leaf p) = .int .i64 (0)) := by unfold Hid fwV; simp [flatW, h1]
          obtain ⟨f1, f2, f3, f4, f5, f6, f7, f8, f9, f10⟩ := tas_empty
          subst h2
          clear hrT he HN hv hg
          go_wp2_with (at_mapUpdate; refine wpList_mapUpdate_node _ rfl _ _ _ 59 rfl 3 Tryd.underlying59 _ n f rfl HM.out _ _ rfl rfl HK.out ?_; intro w1 hM1 hg1)
          go_roundw
          case rel => exact ⟨k + 1, _, _, by omega, by go_num, hM1, by rw [← hF.out]; exact HStep.out, HRest.out _ HG.out _ hg1⟩
          case measure => simp [intOf]; omega
        · have hF : Hid (fwV (.leaf p) = .int .i64 (1)) := by unfold Hid fwV; simp [flatW, h1]
          obtain ⟨f1, f2, f3, f4, f5, f6, f7, f8, f9, f10⟩ := tas_line
          subst h2
          clear hrT he HN hv hg
          have gA : wr.grownBy (wr.alloc (.cells #[] 81)) none := World.grownBy_alloc _ _ _
          have hM2 := HM.out.keep gA
          have HM2 := hidN hM2
          have HK2 := hidN (HK.out.keep gA)
          have HG2 := hidN (grown_trans HG.out gA)
          clear hM2 gA
          go_wp2_with (at_mapUpdate; refine wpList_mapUpdate_node _ rfl _ _ _ 59 rfl 3 Tryd.underlying59 _ n f rfl HM2.out _ _ rfl rfl HK2.out ?_; intro w1 hM1 hg1)
          go_roundw
          case rel => exact ⟨k + 1, _, _, by omega, by go_num, hM1, by rw [← hF.out]; exact HStep.out, HRest.out _ HG2.out _ hg1⟩
          case measure => simp [intOf]; omega
        · have hF : Hid (fwV (.leaf p) = .int .i64 (0)) := by unfold Hid fwV; simp [flatW, h1]
          obtain ⟨f1, f2, f3, f4, f5, f6, f7, f8, f9, f10⟩ := tas_soft
          subst h2
          clear hrT he HN hv hg
          go_wp2_with (at_mapUpdate; refine wpList_mapUpdate_node _ rfl _ _ _ 59 rfl 3 Tryd.underlying59 _ n f rfl HM.out _ _ rfl rfl HK.out ?_; intro w1 hM1 hg1)
          go_roundw
          case rel => exact ⟨k + 1, _, _, by omega, by go_num, hM1, by rw [← hF.out]; exact HStep.out, HRest.out _ HG.out _ hg1⟩
          case measure => simp [intOf]; omega
        · have hF : Hid (fwV (.leaf p) = .int .i64 (-1)) := by unfold Hid fwV; simp [flatW, h1]
          obtain ⟨f1, f2, f3, f4, f5, f6, f7, f8, f9, f10⟩ := tas_hard
          subst h2
          clear hrT he HN hv hg
          go_wp2_with (at_mapUpdate; refine wpList_mapUpdate_node _ rfl _ _ _ 59 rfl 3 Tryd.underlying59 _ n f rfl HM.out _ _ rfl rfl HK.out ?_; intro w1 hM1 hg1)
          go_roundw
          case rel => exact ⟨k + 1, _, _, by omega, by go_num, hM1, by rw [← hF.out]; exact HStep.out, HRest.out _ HG.out _ hg1⟩
          case measure => simp [intOf]; omega
        · have hF : Hid (fwV (.leaf p) = .int .i64 (-1)) := by unfold Hid fwV; simp [flatW, h1]
          obtain ⟨f1, f2, f3, f4, f5, f6, f7, f8, f9, f10⟩ := tas_raw
          subst h2
          clear hrT he HN hv hg
          go_wp2_with (at_mapUpdate; refine wpList_mapUpdate_node _ rfl _ _ _ 59 rfl 3 Tryd.underlying59 _ n f rfl HM.out _ _ rfl rfl HK.out ?_; intro w1 hM1 hg1)
          go_roundw
          case rel => exact ⟨k + 1, _, _, by omega, by go_num, hM1, by rw [← hF.out]; exact HStep.out, HRest.out _ HG.out _ hg1⟩
          case measure => simp [intOf]; omega
        · have hF : Hid (fwV (.leaf p) = .int .i64 (widthR p.t)) := by unfold Hid fwV; simp [flatW, h1]
          obtain ⟨f1, f2, f3, f4, f5, f6, f7, f8, f9, f10⟩ := tas_text (.pointer (some ⟨b, 0, none⟩))
          have c1 : wr.cell? ⟨b, 1, none⟩ = some (.int .i64 (widthR p.t)) := hg.cell (by simp [World.cell?, h5]) (by simp)
          subst h2
          clear hrT he HN hv hg h5
          go_wp2_with (at_mapUpdate; refine wpList_mapUpdate_node _ rfl _ _ _ 59 rfl 3 Tryd.underlying59 _ n f rfl HM.out _ _ rfl rfl HK.out ?_; intro w1 hM1 hg1)
          go_roundw
          case rel => exact ⟨k + 1, _, _, by omega, by go_num, hM1, by rw [← hF.out]; exact HStep.out, HRest.out _ HG.out _ hg1⟩
          case measure => simp [intOf]; omega
      | un p x =>
        obtain ⟨b, u, hbl, c0, hru, hup, hvv⟩ := he
        have c0r := hg.cell c0 (by simp)
        have hul : u ∈ l := List.mem_of_mem_take hup
        have hLu : (Instr.lookup 59 (.map (some w.heap.size)) u false).run Tryd.prog wr = .ok (.int .i64 (flatW x)) wr := by
          have := HM.out.run_lookup (z := .int .i64 0) Tryd.underlying59 rfl ((rep_key HOn.out hul hru).keep hg)
          rw [HN.out u hup x hru] at this
          exact this
        have hbx := flatW_bd width_bd x
        have hF : Hid (fwV (.un p x) = .int .i64 (flatW x)) := rfl
        obtain ⟨tu, yu, hform⟩ := hru.form
        subst hform
        simp only [sz] at hsT
        generalize flatW x = fx at *
        rcases hvv with ⟨h1, h2⟩ | ⟨h1, h2, h3⟩
        · obtain ⟨f1, f2, f3, f4, f5, f6, f7, f8, f9, f10⟩ := tas_group (.pointer (some ⟨b, 0, none⟩))
          subst h2
          clear hrT HN hv hg hru c0 hul hup
          go_wp2_with (at_mapUpdate; refine wpList_mapUpdate_node _ rfl _ _ _ 59 rfl 3 Tryd.underlying59 _ n f rfl HM.out _ _ rfl rfl HK.out ?_; intro w1 hM1 hg1)
          go_roundw
          case rel => exact ⟨k + 1, _, _, by omega, by go_num, hM1, by rw [← hF.out]; exact HStep.out, HRest.out _ HG.out _ hg1⟩
          case measure => simp [intOf]; omega
        · obtain ⟨f1, f2, f3, f4, f5, f6, f7, f8, f9, f10⟩ := tas_nest (.pointer (some ⟨b, 0, none⟩))
          subst h2
          clear hrT HN hv hg hru c0 hul hup h3
          go_wp2_with (at_mapUpdate; refine wpList_mapUpdate_node _ rfl _ _ _ 59 rfl 3 Tryd.underlying59 _ n f rfl HM.out _ _ rfl rfl HK.out ?_; intro w1 hM1 hg1)
          go_roundw
          case rel => exact ⟨k + 1, _, _, by omega, by go_num, hM1, by rw [← hF.out]; exact HStep.out, HRest.out _ HG.out _ hg1⟩
          case measure => simp [intOf]; omega
      | bin p x y =>
        obtain ⟨b, u, u', hbl, c0, c1, hru, hru', hup, hup', hvv⟩ := he
        have c0r := hg.cell c0 (by simp)
        have c1r := hg.cell c1 (by simp)
        have hul : u ∈ l := List.mem_of_mem_take hup
        have hul' : u' ∈ l := List.mem_of_mem_take hup'
        have hLu : ∀ W, w.grownBy W none → MapIs W w.heap.size f n → (Instr.lookup 59 (.map (some w.heap.size)) u false).run Tryd.prog W = .ok (.int .i64 (flatW x)) W := by
          intro W hW hMW
          have := hMW.run_lookup (z := .int .i64 0) Tryd.underlying59 rfl ((rep_key HOn.out hul hru).keep hW)
          rw [HN.out u hup x hru] at this
          exact this
        have hLu' : ∀ W, w.grownBy W none → MapIs W w.heap.size f n → (Instr.lookup 59 (.map (some w.heap.size)) u' false).run Tryd.prog W = .ok (.int .i64 (flatW y)) W := by
          intro W hW hMW
          have := hMW.run_lookup (z := .int .i64 0) Tryd.underlying59 rfl ((rep_key HOn.out hul' hru').keep hW)
          rw [HN.out u' hup' y hru'] at this
          exact this
        have hA := hLu wr hg HM.out
        have hA' := hLu' wr hg HM.out
        have hgq : ∀ q, wr.grownBy (wr.drewN q) none := fun q => grown_drewN (World.grownBy.refl _ _) q
        have HGq := hidN hgq
        have hD : ∀ q, _ := fun q => hLu (wr.drewN q) (grown_trans hg (hgq q)) (HM.out.keep (hgq q))
        have hD' : ∀ q, _ := fun q => hLu' (wr.drewN q) (grown_trans hg (hgq q)) (HM.out.keep (hgq q))
        clear hgq
        have hbx := flatW_bd width_bd x
        have hby := flatW_bd width_bd y
        obtain ⟨tu, yu, hform⟩ := hru.form
        obtain ⟨tu', yu', hform'⟩ := hru'.form
        subst hform hform'
        simp only [sz] at hsT
        rcases hvv with ⟨h1, h2⟩ | ⟨h1, h2⟩
        · have hF : Hid (fwV (.bin p x y) = .int .i64 (if flatW x = -1 ∨ flatW y = -1 then -1 else flatW x + flatW y)) := by unfold Hid fwV; simp only [flatW]; rw [if_pos h1]
          obtain ⟨f1, f2, f3, f4, f5, f6, f7, f8, f9, f10⟩ := tas_cat (.pointer (some ⟨b, 0, none⟩))
          have hS : ∀ q, Calls Tryd.prog 64 #[.int .i64 (flatW x), .int .i64 (flatW y)] (wr.drewN q) fun e w' => e = .returned (.int .i64 (if flatW x = -1 ∨ flatW y = -1 then -1 else flatW x + flatW y)) ∧ w' = wr.drewN q :=
            fun q => (sumWidth_any (flatW x) (flatW y) _ (by omega) (by omega)).mono fun e w' h => ⟨h.1, h.2.symm⟩
          generalize (if flatW x = -1 ∨ flatW y = -1 then -1 else flatW x + flatW y) = fs at *
          generalize flatW x = fx at *
          generalize flatW y = fy at *
          subst h2
          clear hrT HN hv hg hru hru' c0 c1 hul hup hul' hup' hLu hLu'
          go_wp2_with fail
          go_quiet ((go_at_call 64; refine Calls.quiet_of_same (hS _)))
          have HMq := hidN (HM.out.keep (HGq.out nq))
          have HKq := hidN (HK.out.keep (HGq.out nq))
          clear hD hD' hA hA' hS
          go_wp2_with (at_mapUpdate; refine wpList_mapUpdate_node _ rfl _ _ _ 59 rfl 3 Tryd.underlying59 _ n f rfl HMq.out _ _ rfl rfl HKq.out ?_; intro w1 hM1 hg1)
          go_roundw
          case rel => exact ⟨k + 1, _, _, by omega, by go_num, hM1, by rw [← hF.out]; exact HStep.out, HRest.out _ (grown_trans HG.out (HGq.out nq)) _ hg1⟩
          case measure => simp [intOf]; omega
        · have hF : Hid (fwV (.bin p x y) = .int .i64 (flatW y)) := by unfold Hid fwV; simp only [flatW]; rw [if_neg (by omega)]
          obtain ⟨f1, f2, f3, f4, f5, f6, f7, f8, f9, f10⟩ := tas_alt (.pointer (some ⟨b, 0, none⟩))
          generalize flatW x = fx at *
          generalize flatW y = fy at *
          subst h2
          clear hrT HN hv hg hru hru' c0 c1 hul hup hul' hup' hLu hLu' hD hD' hA
          go_wp2_with (at_mapUpdate; refine wpList_mapUpdate_node _ rfl _ _ _ 59 rfl 3 Tryd.underlying59 _ n f rfl HM.out _ _ rfl rfl HK.out ?_; intro w1 hM1 hg1)
          go_roundw
          case rel => exact ⟨k + 1, _, _, by omega, by go_num, hM1, by rw [← hF.out]; exact HStep.out, HRest.out _ HG.out _ hg1⟩
          case measure => simp [intOf]; omega
    · have hkn : k = l.length := by omega
      have HN2 : Hid (NTab B w l f fwV) := by have := HN.out; rw [hkn, List.take_length] at this; exact this
      clear HN
      go_wp2
      go_ret
      exact ⟨f, n, rfl, hM, HN2.out, hg⟩

end Go.Proofs.YtgmjpdejfdldlaaDoor

