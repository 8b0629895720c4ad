import Derived.Deep.RegionWith
import Derived.Test.YtgmjpdejfdldlaaDoorMAN
import Derived.Test.YtgmjpdejfdldlaaDoorMAP
namespace Go.Proofs.YtgmjpdejfdldlaaDoor
open Go.RowKit

def ldV (T : Tr) : Value := .agg #[.int .i64 (leadT T).1, .bool (leadT T).2]
theorem ldV_sim (T T' : Tr) (h : Sim T T') : ldV T = ldV T' := by unfold ldV; rw [h.leadT]

set_option maxHeartbeats 400000 in
theorem before_any (a b : Int) (ea eb : Bool) (w : World) (ha : -1000000 ≤ a ∧ a ≤ 1000000) (hb : -1000000 ≤ b ∧ b ≤ 1000000) :
    Calls Tryd.prog 65 #[.agg #[.int .i64 a, .bool ea], .agg #[.int .i64 b, .bool eb]] w fun e w' => e = .returned (.agg #[.int .i64 (if ea = true then a else a + b), .bool (if ea = true then ea else eb)]) ∧ w.grownBy w' none := by
  have g3 : ∀ (o1 o2 o3 : Obj), w.grownBy (((w.alloc o1).alloc o2).alloc o3) none := fun _ _ _ => grown_trans (grown_trans (World.grownBy_alloc _ _ _) (World.grownBy_alloc _ _ _)) (World.grownBy_alloc _ _ _)
  have G3 := hidN g3
  clear g3
  cases ea with
  | true =>
    go_enter Tryd.func65, Tryd.ntmps65
    go_wp2
    go_returns
    all_goals exact ⟨rfl, G3.out _ _ _⟩
  | false =>
    go_enter Tryd.func65, Tryd.ntmps65
    go_wp2
    go_returns
    all_goals exact ⟨rfl, G3.out _ _ _⟩

set_option maxHeartbeats 8000000 in
set_option maxRecDepth 100000 in
theorem leadsOf_any (B : Nat) (nv u0 : Value) (T0 : Tr) (l : List Value) (w : World) (hrow : w.ownsRow B 70 1 nv l.length l) (hr : Rep (fun _ => False) B w u0 T0) (hp : Post w u0 T0 l) (ho : Once (fun _ => False) w l) (hsz : sz T0 ≤ 140000) :
    Calls Tryd.prog 44 #[nv] w fun e w' => ∃ f n, e = .returned (.map (some w.heap.size)) ∧ MapIs w' w.heap.size f n ∧ NTab B w l f ldV ∧ w.grownBy w' none := by
  obtain ⟨a, cap, hnv, hnc, hnm⟩ := row_form hrow
  subst hnv
  unfold maxLen at hnm
  have HR : Hid (w.ownsRow B 70 1 (.slice a l.length cap) l.length l) := hrow
  have HRp : Hid (Rep (fun _ => False) B w u0 T0) := hr
  have HPo : Hid (Post w u0 T0 l) := hp
  have HOn : Hid (Once (fun _ => False) w l) := ho
  clear hrow hr hp ho
  have hmk : (Instr.makeMap 60 (some (.int .i64 (l.length : Int)))).run Tryd.prog w = .ok (.map (some w.heap.size)) (w.alloc (.map #[] 0)) := by
    simp [Instr.makeMap, run_underlying Tryd.underlying60, asInt, asIntOf]
  go_enter Tryd.func44, Tryd.ntmps44
  go_wp2
  go_loopw [18] (fun i wr => ∃ (k : Nat) (f : Value → Option Value) (n : Nat), k ≤ l.length ∧ i = .int .i64 k ∧ MapIs wr w.heap.size f n ∧ Hid (NTab B w (l.take k) f ldV) ∧ w.grownBy wr none) (fun i _ => l.length - (intOf i).toNat)
  case atStart => exact ⟨0, _, 0, Nat.zero_le _, rfl, mapIs_made w, (by intro v hv; simp at hv), World.grownBy_alloc _ _ _⟩
  case round =>
    obtain ⟨k, f, n, hk, rfl, hM, HN, hg⟩ := hrel
    by_cases hlt : k < l.length
    · obtain ⟨v, hv⟩ : ∃ v, l[k]? = some v := ⟨_, List.getElem?_eq_getElem hlt⟩
      obtain ⟨T, he, hrT, hsT⟩ := post_elem HRp.out HPo.out k v hv
      have hvl : v ∈ l := List.mem_of_getElem? hv
      have hkey := (rep_key HOn.out hvl hrT).keep hg
      have HStep := hidN (tab_step ldV_sim HOn.out hv hrT HN.out)
      have hbd := leadT_le width_bd T
      rcases HR.out.2 with ⟨_, h0⟩ | ⟨g, cp, cur, hrg, hbg, hgg, hnc', hcm, hcs, htk⟩
      · omega
      cases hrg
      have m00 := World.ownsRow.cellAt HR.out k (by omega)
      rw [hv] at m00
      have m0 := hg.cell m00 (by simp)
      clear m00
      have hgs := hg.size
      have hmlt := hM.lt
      have HM := hidN hM
      have HK := hidN hkey
      have HMg := hidN (fun W (hW : wr.grownBy W none) => hM.keep hW)
      have HKg := hidN (fun W (hW : wr.grownBy W none) => hkey.keep hW)
      have HG := hidN hg
      have hrest : ∀ w1, w.grownBy w1 none → ∀ w2, w1.grownBy w2 (some w.heap.size) → w.grownBy w2 none := fun w1 h1 w2 h2 => grown_new h1 h2 (fun j e => by cases e; exact Nat.le_refl _)
      have HRest := hidN hrest
      have gWB : wr.grownBy (wr.alloc (.cells #[.int .i64 0, .bool false] 107)) none := World.grownBy_alloc _ _ _
      clear hgg hcs htk hM hkey hrest
      cases T with
      | leaf p =>
        have he' := hrT
        simp only [Rep] at he'
        rcases he' with ⟨h1, h2⟩ | ⟨h1, h2⟩ | ⟨h1, h2⟩ | ⟨h1, h2⟩ | ⟨h1, h2⟩ | ⟨h1, b, tv, h2, _, h4, h5, _⟩
        · have hF : Hid (ldV (.leaf p) = .agg #[.int .i64 0, .bool false]) := by unfold Hid ldV; simp [leadT, h1]
          obtain ⟨f1, f2, f3, f4, f5, f6, f7, f8, f9, f10⟩ := tas_empty
          subst h2
          clear hrT he HN hv hg
          go_wp2_with (at_mapUpdate; refine wpList_mapUpdate_node _ rfl _ _ _ 60 rfl 107 Tryd.underlying60 _ n f rfl (HMg.out _ (by first | exact World.grownBy_alloc _ _ _ | exact grown_trans (World.grownBy_alloc _ _ _) (World.grownBy_alloc _ _ _))) _ _ rfl rfl (HKg.out _ (by first | exact World.grownBy_alloc _ _ _ | exact grown_trans (World.grownBy_alloc _ _ _) (World.grownBy_alloc _ _ _))) ?_; intro w1 hM1 hg1)
          go_roundw
          case rel => exact ⟨k + 1, _, _, by omega, by go_num, hM1, by rw [← hF.out]; exact HStep.out, HRest.out _ (grown_trans HG.out (by first | exact World.grownBy_alloc _ _ _ | exact grown_trans (World.grownBy_alloc _ _ _) (World.grownBy_alloc _ _ _))) _ hg1⟩
          case measure => simp [intOf]; omega
        · have hF : Hid (ldV (.leaf p) = .agg #[.int .i64 0, .bool true]) := by unfold Hid ldV; simp [leadT, h1]
          obtain ⟨f1, f2, f3, f4, f5, f6, f7, f8, f9, f10⟩ := tas_line
          subst h2
          clear hrT he HN hv hg
          go_wp2_with (at_mapUpdate; refine wpList_mapUpdate_node _ rfl _ _ _ 60 rfl 107 Tryd.underlying60 _ n f rfl (HMg.out _ (by first | exact World.grownBy_alloc _ _ _ | exact grown_trans (World.grownBy_alloc _ _ _) (World.grownBy_alloc _ _ _))) _ _ rfl rfl (HKg.out _ (by first | exact World.grownBy_alloc _ _ _ | exact grown_trans (World.grownBy_alloc _ _ _) (World.grownBy_alloc _ _ _))) ?_; intro w1 hM1 hg1)
          go_roundw
          case rel => exact ⟨k + 1, _, _, by omega, by go_num, hM1, by rw [← hF.out]; exact HStep.out, HRest.out _ (grown_trans HG.out (by first | exact World.grownBy_alloc _ _ _ | exact grown_trans (World.grownBy_alloc _ _ _) (World.grownBy_alloc _ _ _))) _ hg1⟩
          case measure => simp [intOf]; omega
        · have hF : Hid (ldV (.leaf p) = .agg #[.int .i64 0, .bool true]) := by unfold Hid ldV; simp [leadT, h1]
          obtain ⟨f1, f2, f3, f4, f5, f6, f7, f8, f9, f10⟩ := tas_soft
          subst h2
          clear hrT he HN hv hg
          go_wp2_with (at_mapUpdate; refine wpList_mapUpdate_node _ rfl _ _ _ 60 rfl 107 Tryd.underlying60 _ n f rfl (HMg.out _ (by first | exact World.grownBy_alloc _ _ _ | exact grown_trans (World.grownBy_alloc _ _ _) (World.grownBy_alloc _ _ _))) _ _ rfl rfl (HKg.out _ (by first | exact World.grownBy_alloc _ _ _ | exact grown_trans (World.grownBy_alloc _ _ _) (World.grownBy_alloc _ _ _))) ?_; intro w1 hM1 hg1)
          go_roundw
          case rel => exact ⟨k + 1, _, _, by omega, by go_num, hM1, by rw [← hF.out]; exact HStep.out, HRest.out _ (grown_trans HG.out (by first | exact World.grownBy_alloc _ _ _ | exact grown_trans (World.grownBy_alloc _ _ _) (World.grownBy_alloc _ _ _))) _ hg1⟩
          case measure => simp [intOf]; omega
        · have hF : Hid (ldV (.leaf p) = .agg #[.int .i64 0, .bool true]) := by unfold Hid ldV; simp [leadT, h1]
          obtain ⟨f1, f2, f3, f4, f5, f6, f7, f8, f9, f10⟩ := tas_hard
          subst h2
          clear hrT he HN hv hg
          go_wp2_with (at_mapUpdate; refine wpList_mapUpdate_node _ rfl _ _ _ 60 rfl 107 Tryd.underlying60 _ n f rfl (HMg.out _ (by first | exact World.grownBy_alloc _ _ _ | exact grown_trans (World.grownBy_alloc _ _ _) (World.grownBy_alloc _ _ _))) _ _ rfl rfl (HKg.out _ (by first | exact World.grownBy_alloc _ _ _ | exact grown_trans (World.grownBy_alloc _ _ _) (World.grownBy_alloc _ _ _))) ?_; intro w1 hM1 hg1)
          go_roundw
          case rel => exact ⟨k + 1, _, _, by omega, by go_num, hM1, by rw [← hF.out]; exact HStep.out, HRest.out _ (grown_trans HG.out (by first | exact World.grownBy_alloc _ _ _ | exact grown_trans (World.grownBy_alloc _ _ _) (World.grownBy_alloc _ _ _))) _ hg1⟩
          case measure => simp [intOf]; omega
        · have hF : Hid (ldV (.leaf p) = .agg #[.int .i64 0, .bool true]) := by unfold Hid ldV; simp [leadT, h1]
          obtain ⟨f1, f2, f3, f4, f5, f6, f7, f8, f9, f10⟩ := tas_raw
          subst h2
          clear hrT he HN hv hg
          go_wp2_with (at_mapUpdate; refine wpList_mapUpdate_node _ rfl _ _ _ 60 rfl 107 Tryd.underlying60 _ n f rfl (HMg.out _ (by first | exact World.grownBy_alloc _ _ _ | exact grown_trans (World.grownBy_alloc _ _ _) (World.grownBy_alloc _ _ _))) _ _ rfl rfl (HKg.out _ (by first | exact World.grownBy_alloc _ _ _ | exact grown_trans (World.grownBy_alloc _ _ _) (World.grownBy_alloc _ _ _))) ?_; intro w1 hM1 hg1)
          go_roundw
          case rel => exact ⟨k + 1, _, _, by omega, by go_num, hM1, by rw [← hF.out]; exact HStep.out, HRest.out _ (grown_trans HG.out (by first | exact World.grownBy_alloc _ _ _ | exact grown_trans (World.grownBy_alloc _ _ _) (World.grownBy_alloc _ _ _))) _ hg1⟩
          case measure => simp [intOf]; omega
        · have hF : Hid (ldV (.leaf p) = .agg #[.int .i64 (widthR p.t), .bool false]) := by unfold Hid ldV; simp [leadT, h1]
          obtain ⟨f1, f2, f3, f4, f5, f6, f7, f8, f9, f10⟩ := tas_text (.pointer (some ⟨b, 0, none⟩))
          have c1 : wr.cell? ⟨b, 1, none⟩ = some (.int .i64 (widthR p.t)) := hg.cell (by simp [World.cell?, h5]) (by simp)
          have c1b := gWB.cell c1 (by simp)
          clear c1
          subst h2
          clear hrT he HN hv hg h5
          go_wp2_with (at_mapUpdate; refine wpList_mapUpdate_node _ rfl _ _ _ 60 rfl 107 Tryd.underlying60 _ n f rfl (HMg.out _ (by first | exact World.grownBy_alloc _ _ _ | exact grown_trans (World.grownBy_alloc _ _ _) (World.grownBy_alloc _ _ _))) _ _ rfl rfl (HKg.out _ (by first | exact World.grownBy_alloc _ _ _ | exact grown_trans (World.grownBy_alloc _ _ _) (World.grownBy_alloc _ _ _))) ?_; intro w1 hM1 hg1)
          go_roundw
          case rel => exact ⟨k + 1, _, _, by omega, by go_num, hM1, by rw [← hF.out]; exact HStep.out, HRest.out _ (grown_trans HG.out (by first | exact World.grownBy_alloc _ _ _ | exact grown_trans (World.grownBy_alloc _ _ _) (World.grownBy_alloc _ _ _))) _ hg1⟩
          case measure => simp [intOf]; omega
      | un p x =>
        obtain ⟨b, u, hbl, c0, hru, hup, hvv⟩ := he
        have c0r := gWB.cell (hg.cell c0 (by simp)) (by simp)
        have hul : u ∈ l := List.mem_of_mem_take hup
        have hLu : (Instr.lookup 60 (.map (some w.heap.size)) u false).run Tryd.prog (wr.alloc (.cells #[.int .i64 0, .bool false] 107)) = .ok (.agg #[.int .i64 (leadT x).1, .bool (leadT x).2]) (wr.alloc (.cells #[.int .i64 0, .bool false] 107)) := by
          have := (HM.out.keep gWB).run_lookup (z := .agg #[.int .i64 0, .bool false]) Tryd.underlying60 rfl ((rep_key HOn.out hul hru).keep (grown_trans hg gWB))
          rw [HN.out u hup x hru] at this
          exact this
        have hF : Hid (ldV (.un p x) = .agg #[.int .i64 (leadT x).1, .bool (leadT x).2]) := rfl
        obtain ⟨tu, yu, hform⟩ := hru.form
        subst hform
        simp only [sz] at hsT
        generalize (leadT x).1 = fx at *
        generalize (leadT x).2 = ex at *
        rcases hvv with ⟨h1, h2⟩ | ⟨h1, h2, h3⟩
        · obtain ⟨f1, f2, f3, f4, f5, f6, f7, f8, f9, f10⟩ := tas_group (.pointer (some ⟨b, 0, none⟩))
          subst h2
          clear hrT HN hv hg hru c0 hul hup gWB
          go_wp2_with (at_mapUpdate; refine wpList_mapUpdate_node _ rfl _ _ _ 60 rfl 107 Tryd.underlying60 _ n f rfl (HMg.out _ (by first | exact World.grownBy_alloc _ _ _ | exact grown_trans (World.grownBy_alloc _ _ _) (World.grownBy_alloc _ _ _))) _ _ rfl rfl (HKg.out _ (by first | exact World.grownBy_alloc _ _ _ | exact grown_trans (World.grownBy_alloc _ _ _) (World.grownBy_alloc _ _ _))) ?_; intro w1 hM1 hg1)
          go_roundw
          case rel => exact ⟨k + 1, _, _, by omega, by go_num, hM1, by rw [← hF.out]; exact HStep.out, HRest.out _ (grown_trans HG.out (by first | exact World.grownBy_alloc _ _ _ | exact grown_trans (World.grownBy_alloc _ _ _) (World.grownBy_alloc _ _ _))) _ hg1⟩
          case measure => simp [intOf]; omega
        · obtain ⟨f1, f2, f3, f4, f5, f6, f7, f8, f9, f10⟩ := tas_nest (.pointer (some ⟨b, 0, none⟩))
          subst h2
          clear hrT HN hv hg hru c0 hul hup h3 gWB
          go_wp2_with (at_mapUpdate; refine wpList_mapUpdate_node _ rfl _ _ _ 60 rfl 107 Tryd.underlying60 _ n f rfl (HMg.out _ (by first | exact World.grownBy_alloc _ _ _ | exact grown_trans (World.grownBy_alloc _ _ _) (World.grownBy_alloc _ _ _))) _ _ rfl rfl (HKg.out _ (by first | exact World.grownBy_alloc _ _ _ | exact grown_trans (World.grownBy_alloc _ _ _) (World.grownBy_alloc _ _ _))) ?_; intro w1 hM1 hg1)
          go_roundw
          case rel => exact ⟨k + 1, _, _, by omega, by go_num, hM1, by rw [← hF.out]; exact HStep.out, HRest.out _ (grown_trans HG.out (by first | exact World.grownBy_alloc _ _ _ | exact grown_trans (World.grownBy_alloc _ _ _) (World.grownBy_alloc _ _ _))) _ hg1⟩
          case measure => simp [intOf]; omega
      | bin p x y =>
        obtain ⟨b, u, u', hbl, c0, c1, hru, hru', hup, hup', hvv⟩ := he
        have c0r := gWB.cell (hg.cell c0 (by simp)) (by simp)
        have c1r := gWB.cell (hg.cell c1 (by simp)) (by simp)
        have hul : u ∈ l := List.mem_of_mem_take hup
        have hul' : u' ∈ l := List.mem_of_mem_take hup'
        have hLu : ∀ W, wr.grownBy W none → (Instr.lookup 60 (.map (some w.heap.size)) u false).run Tryd.prog W = .ok (.agg #[.int .i64 (leadT x).1, .bool (leadT x).2]) W := by
          intro W hW
          have := (HM.out.keep hW).run_lookup (z := .agg #[.int .i64 0, .bool false]) Tryd.underlying60 rfl ((rep_key HOn.out hul hru).keep (grown_trans hg hW))
          rw [HN.out u hup x hru] at this
          exact this
        have hLu' : ∀ W, wr.grownBy W none → (Instr.lookup 60 (.map (some w.heap.size)) u' false).run Tryd.prog W = .ok (.agg #[.int .i64 (leadT y).1, .bool (leadT y).2]) W := by
          intro W hW
          have := (HM.out.keep hW).run_lookup (z := .agg #[.int .i64 0, .bool false]) Tryd.underlying60 rfl ((rep_key HOn.out hul' hru').keep (grown_trans hg hW))
          rw [HN.out u' hup' y hru'] at this
          exact this
        have hA := hLu _ gWB
        have hA' := hLu' _ gWB
        have gWD : wr.grownBy (wr.alloc (.cells #[.int .i64 0, .bool false] 107)).drew none := ⟨gWB.os, gWB.tape, gWB.output, gWB.size, gWB.block⟩
        have hD := hLu _ gWD
        have hD' := hLu' _ gWD
        have hbx := leadT_le width_bd x
        have hby := leadT_le width_bd y
        obtain ⟨tu, yu, hform⟩ := hru.form
        obtain ⟨tu', yu', hform'⟩ := hru'.form
        subst hform hform'
        simp only [sz] at hsT
        rcases hvv with ⟨h1, h2⟩ | ⟨h1, h2⟩
        · have hF : Hid (ldV (.bin p x y) = .agg #[.int .i64 (if (leadT x).2 = true then (leadT x).1 else (leadT x).1 + (leadT y).1), .bool (if (leadT x).2 = true then (leadT x).2 else (leadT y).2)]) := by
            unfold Hid ldV
            simp only [leadT]
            by_cases h2' : (leadT x).2 = true
            · rw [if_pos (.inr h2'), if_pos h2', if_pos h2']
            · rw [if_neg (by rintro (h | h); omega; exact h2' h), if_neg h2', if_neg h2']
          obtain ⟨f1, f2, f3, f4, f5, f6, f7, f8, f9, f10⟩ := tas_cat (.pointer (some ⟨b, 0, none⟩))
          have hS : ∀ W, _ := fun W => before_any (leadT x).1 (leadT y).1 (leadT x).2 (leadT y).2 W (by omega) (by omega)
          have HS := hidN hS
          clear hS
          generalize (if (leadT x).2 = true then (leadT x).1 else (leadT x).1 + (leadT y).1) = fs at *
          generalize (if (leadT x).2 = true then (leadT x).2 else (leadT y).2) = es at *
          generalize (leadT x).1 = fx at *
          generalize (leadT y).1 = fy at *
          generalize (leadT x).2 = ex at *
          generalize (leadT y).2 = ey at *
          have GWD := hidN gWD
          subst h2
          clear hrT HN hv hg hru hru' c0 c1 hul hup hul' hup' hLu hLu' gWB gWD
          go_wp2_with fail
          go_region_with (go_at_call 65; refine (HS.out _).mono ?_; rintro e w2 ⟨rfl, g2⟩; have z0 := g2.cell (a := ⟨wr.heap.size, 0, none⟩) (v := .int .i64 0) (by simp [go_sem]) (by simp); have z1 := g2.cell (a := ⟨wr.heap.size, 1, none⟩) (v := .bool false) (by simp [go_sem]) (by simp); have y0 : w2.frozen? ⟨wr.heap.size, 0, none⟩ = false := (World.frozen?_of_block (g2.block wr.heap.size (by simp) (by simp))).trans (by simp [go_sem]); have y1 : w2.frozen? ⟨wr.heap.size, 1, none⟩ = false := (World.frozen?_of_block (g2.block wr.heap.size (by simp) (by simp))).trans (by simp [go_sem]))
          all_goals
            have gW9 := hidN (grown_new (grown_new (grown_trans GWD.out g2) (grown_set w2 ⟨wr.heap.size, 0, none⟩ (.int .i64 fs)) (fun j e => by cases e; exact Nat.le_refl _)) (grown_set _ ⟨wr.heap.size, 1, none⟩ (.bool es)) (fun j e => by cases e; exact Nat.le_refl _))
            clear g2 hA hA' hD hD'
            go_wp2_with (at_mapUpdate; refine wpList_mapUpdate_node _ rfl _ _ _ 60 rfl 107 Tryd.underlying60 _ n f rfl (HMg.out _ gW9.out) _ _ rfl rfl (HKg.out _ gW9.out) ?_; intro w1 hM1 hg1)
            go_roundw
            case rel => exact ⟨k + 1, _, _, by omega, by go_num, hM1, by rw [← hF.out]; exact HStep.out, HRest.out _ (grown_trans HG.out gW9.out) _ hg1⟩
            case measure => simp [intOf]; omega
        · have hF : Hid (ldV (.bin p x y) = .agg #[.int .i64 (leadT x).1, .bool (leadT x).2]) := by unfold Hid ldV; simp only [leadT]; rw [if_pos (.inl h1)]
          obtain ⟨f1, f2, f3, f4, f5, f6, f7, f8, f9, f10⟩ := tas_alt (.pointer (some ⟨b, 0, none⟩))
          generalize (leadT x).1 = fx at *
          generalize (leadT x).2 = ex at *
          subst h2
          clear hrT HN hv hg hru hru' c0 c1 hul hup hul' hup' hLu hLu' hD hD' hA' gWB gWD
          go_wp2_with (at_mapUpdate; refine wpList_mapUpdate_node _ rfl _ _ _ 60 rfl 107 Tryd.underlying60 _ n f rfl (HMg.out _ (by first | exact World.grownBy_alloc _ _ _ | exact grown_trans (World.grownBy_alloc _ _ _) (World.grownBy_alloc _ _ _))) _ _ rfl rfl (HKg.out _ (by first | exact World.grownBy_alloc _ _ _ | exact grown_trans (World.grownBy_alloc _ _ _) (World.grownBy_alloc _ _ _))) ?_; intro w1 hM1 hg1)
          go_roundw
          case rel => exact ⟨k + 1, _, _, by omega, by go_num, hM1, by rw [← hF.out]; exact HStep.out, HRest.out _ (grown_trans HG.out (by first | exact World.grownBy_alloc _ _ _ | exact grown_trans (World.grownBy_alloc _ _ _) (World.grownBy_alloc _ _ _))) _ hg1⟩
          case measure => simp [intOf]; omega
    · have hkn : k = l.length := by omega
      have HN2 : Hid (NTab B w l f ldV) := by have := HN.out; rw [hkn, List.take_length] at this; exact this
      clear HN
      go_wp2
      go_ret
      exact ⟨f, n, rfl, hM, HN2.out, hg⟩

end Go.Proofs.YtgmjpdejfdldlaaDoor

namespace Go.Proofs.YtgmjpdejfdldlaaDoor.P
open Go.RowKit Go.Proofs.YtgmjpdejfdldlaaDoor

/-- A pointer to a group as the key of a map. -/
inductive NKey (w : World) : Value → Prop
  | ptr (b : Nat) (cs : Array Value) (t' : TypeId) (hb : w.heap[b]? = some (.cells cs t')) : NKey w (.pointer (some ⟨b, 0, none⟩))

set_option maxRecDepth 100000 in
theorem eq_ptr (a b : Addr) (w : World) : (Op.equal 135 (.pointer (some a)) (.pointer (some b))).run Tryd.prog w = (sameAddr a b).run Tryd.prog w := by kernel_rfl

theorem run_eqk {w : World} {k k' : Value} (h : NKey w k) (h' : NKey w k') : (Op.equal 135 k k').run Tryd.prog w = .ok (kEq k k') w := by
  cases h with
  | ptr b cs t hb =>
    cases h' with
    | ptr b' cs' t' hb' =>
      rw [eq_ptr, run_sameAddr hb hb']
      congr 1
theorem kEq_iff {w : World} {k k' : Value} (h : NKey w k) (h' : NKey w k') : kEq k k' = true ↔ k = k' := by
  cases h with
  | ptr b cs t hb =>
    cases h' with
    | ptr b' cs' t' hb' => simp [kEq, kCode]
theorem kEq_self {w : World} {k : Value} (h : NKey w k) : kEq k k = true := (kEq_iff h h).2 rfl

theorem run_findAsking {w : World} {k : Value} (h : NKey w k) : ∀ (es : List MapEntry) (i : Nat), (∀ e ∈ es, NKey w e.key) → (Instr.findAsking 135 k es i).run Tryd.prog w = .ok (look k es i) w
  | [], i, _ => by simp [Instr.findAsking, look]
  | e :: es, i, he => by
    have h1 := run_eqk h (he e (List.mem_cons_self ..))
    have h2 := run_findAsking h es (i + 1) (fun x hx => he x (List.mem_cons_of_mem _ hx))
    simp only [Instr.findAsking, look, Sem.run_bind, h1, Result.andThen_ok]
    cases kEq k e.key
    · simpa using h2
    · simp

theorem run_findKey {w : World} {k : Value} (h : NKey w k) (es : List MapEntry) (he : ∀ e ∈ es, NKey w e.key) : (Instr.findKey 135 k es).run Tryd.prog w = .ok (look k es 0) w := by
  have h2 := run_findAsking h es 0 he
  unfold Instr.findKey
  rw [Sem.run_bind, run_underlying Tryd.underlying135, Result.andThen_ok]
  cases es with
  | nil => simp [Instr.findNow, look]
  | cons e es =>
    simp only [Instr.findNow, Instr.sameNow]
    exact h2

set_option maxRecDepth 100000 in
theorem run_checkKey {w : World} {k : Value} (h : NKey w k) (e : Bool) : (Instr.checkKey e 10000 135 k).run Tryd.prog w = .ok () w := by
  cases h with
  | ptr b cs t' hb => kernel_rfl

/-- The map at block b, keyed by nodes: what it holds at each key, and how many entries it has. -/
def MapIs (w : World) (b : Nat) (f : Value → Option Value) (n : Nat) : Prop :=
  ∃ es clock, w.heap[b]? = some (.map es clock) ∧ es.size = n ∧ (∀ e ∈ es.toList, NKey w e.key) ∧ ∀ k, (look k es.toList 0).map (·.2) = f k

theorem mapIs_made (w : World) : MapIs (w.alloc (.map #[] 0)) w.heap.size (fun _ => none) 0 :=
  ⟨#[], 0, heap_alloc_new _ _, rfl, by simp, fun k => by simp [look]⟩

theorem MapIs.run_lookup {w : World} {b n : Nat} {f : Value → Option Value} (h : MapIs w b f n) {t e : TypeId} (ht : Tryd.prog.underlying t = some (.map 135 e)) {z : Value} (hz : (zeroValue e).run Tryd.prog w = .ok z w) {k : Value} (hk : NKey w k) :
    (Instr.lookup t (.map (some b)) k false).run Tryd.prog w = .ok ((f k).getD z) w := by
  obtain ⟨es, clock, hb, hn, he, hl⟩ := h
  have h1 := run_findKey hk es.toList he
  have h2 := hl k
  have h3 := run_checkKey hk es.isEmpty
  cases hx : look k es.toList 0 with
  | none =>
    rw [hx] at h2 h1
    simp only [Option.map_none] at h2
    rw [← h2]
    simp [Instr.lookup, run_underlying ht, MapKept.run_getObj_map hb, h3, h1, hz]
  | some x =>
    rw [hx] at h2 h1
    simp only [Option.map_some] at h2
    rw [← h2]
    simp [Instr.lookup, run_underlying ht, MapKept.run_getObj_map hb, h3, h1]

theorem MapIs.lt {w : World} {b n : Nat} {f : Value → Option Value} (h : MapIs w b f n) : b < w.heap.size := by
  obtain ⟨es, clock, hb, _⟩ := h
  exact (Array.getElem?_eq_some_iff.1 hb).1

theorem look_modify {w : World} {k k' x : Value} (hk : NKey w k) : ∀ (l : List MapEntry) (i : Nat) (v : Value), (∀ e ∈ l, NKey w e.key) → look k l 0 = some (i, v) →
    (look k' (l.modify i fun e => { e with key := k, val := x }) 0).map (·.2) = if kEq k k' then some x else (look k' l 0).map (·.2)
  | [], i, v, _, h => by simp [look] at h
  | e :: es, i, v, he, h => by
    have hke := he e (List.mem_cons_self ..)
    simp only [look] at h
    cases hq : kEq k e.key with
    | true =>
      rw [hq] at h
      simp only [if_true, Option.some.injEq, Prod.mk.injEq] at h
      obtain ⟨rfl, _⟩ := h
      have hkk := (kEq_iff hk hke).1 hq
      rw [List.modify_zero_cons]
      simp only [look]
      rw [← hkk, kEq_comm k' k]
      cases kEq k k' <;> simp
    | false =>
      rw [hq] at h
      simp only [Bool.false_eq_true, if_false] at h
      rw [look_shift] at h
      cases hx : look k es 0 with
      | none => rw [hx] at h; cases h
      | some y =>
        obtain ⟨j, u⟩ := y
        rw [hx] at h
        simp only [Option.map_some, Option.some.injEq, Prod.mk.injEq] at h
        obtain ⟨h1, h2⟩ := h
        subst h1
        have IH := look_modify (k' := k') (x := x) hk es j u (fun z hz => he z (List.mem_cons_of_mem _ hz)) hx
        rw [show 0 + 1 = 1 from rfl, List.modify_succ_cons]
        simp only [look]
        cases hq2 : kEq k' e.key with
        | true =>
          have e1 : kEq k k' = false := by
            rw [Bool.eq_false_iff]
            intro h
            rw [kEq_trans h hq2] at hq
            cases hq
          simp [e1]
        | false =>
          simp only [Bool.false_eq_true, if_false]
          rw [look_shift k' _ (0 + 1), look_shift k' es (0 + 1)]
          simpa [Option.map_map, Function.comp_def] using IH

theorem sameBits_key {w : World} {k : Value} (hk : NKey w k) : Instr.sameBits 10000 k k = true := by
  rw [show (10000 : Nat) = 9998 + 1 + 1 from rfl]
  generalize 9998 = d
  cases hk <;> simp [Instr.sameBits]
theorem run_stays {w : World} {k : Value} (hk : NKey w k) : (Instr.keyThatStays k k).run Tryd.prog w = .ok k w := by
  simp [Instr.keyThatStays, sameBits_key hk]

theorem look_at {w : World} {k : Value} (hk : NKey w k) : ∀ (l : List MapEntry) (i : Nat) (v : Value), (∀ e ∈ l, NKey w e.key) → look k l 0 = some (i, v) → ∃ e, l[i]? = some e ∧ e.key = k
  | [], i, v, _, h => by simp [look] at h
  | e :: es, i, v, he, h => by
    simp only [look] at h
    cases hq : kEq k e.key with
    | true =>
      rw [hq] at h
      simp only [if_true, Option.some.injEq, Prod.mk.injEq] at h
      obtain ⟨rfl, _⟩ := h
      exact ⟨e, rfl, ((kEq_iff hk (he e (List.mem_cons_self ..))).1 hq).symm⟩
    | false =>
      rw [hq] at h
      simp only [Bool.false_eq_true, if_false] at h
      rw [look_shift] at h
      cases hx : look k es 0 with
      | none => rw [hx] at h; cases h
      | some y =>
        obtain ⟨j, u⟩ := y
        rw [hx] at h
        simp only [Option.map_some, Option.some.injEq, Prod.mk.injEq] at h
        obtain ⟨h1, h2⟩ := h
        subst h1
        obtain ⟨d, h3, h4⟩ := look_at hk es j u (fun z hz => he z (List.mem_cons_of_mem _ hz)) hx
        exact ⟨d, by simpa using h3, h4⟩

theorem NKey.set {w : World} {b : Nat} {es : Array MapEntry} {c : Nat} (hb : w.heap[b]? = some (.map es c)) (o : Obj) {v : Value} (h : NKey w v) : NKey { w with heap := w.heap.setIfInBounds b o } v := by
  cases h with
  | ptr b' cs t' hb' =>
    refine .ptr b' cs t' (((MapKept.heap_set hb).2 b' fun e2 => ?_).trans hb')
    rw [e2, hb] at hb'
    cases hb'
theorem NKey.keep {w w' : World} {v : Value} (h : NKey w v) (hg : w.grownBy w' none) : NKey w' v := by
  cases h with
  | ptr b cs t' hb => exact .ptr b cs t' ((hg.block b (Array.getElem?_eq_some_iff.1 hb).1 (by simp)).trans hb)
theorem MapIs.keep {w w' : World} {b n : Nat} {f : Value → Option Value} (h : MapIs w b f n) (hg : w.grownBy w' none) : MapIs w' b f n := by
  have hlt := h.lt
  obtain ⟨es, clock, hb, hn, he, hl⟩ := h
  exact ⟨es, clock, (hg.block b hlt (by simp)).trans hb, hn, fun e hm => (he e hm).keep hg, hl⟩
theorem MapIs.run_update {w : World} {b n : Nat} {f : Value → Option Value} (h : MapIs w b f n) {t e : TypeId} (ht : Tryd.prog.underlying t = some (.map 135 e)) {k : Value} (hk : NKey w k) (x : Value) :
    ∃ w', (Instr.mapUpdate t (.map (some b)) k x).run Tryd.prog w = .ok () w' ∧ MapIs w' b (fun k' => if kEq k k' then some x else f k') (if (f k).isSome then n else n + 1) ∧ w.grownBy w' (some b) := by
  obtain ⟨es, clock, hb, hn, he, hl⟩ := h
  have h1 := run_findKey hk es.toList he
  have h2 := hl k
  have h3 := run_checkKey hk false
  have hgr : ∀ o, w.grownBy { w with heap := w.heap.setIfInBounds b o } (some b) := fun o => ⟨rfl, rfl, rfl, by simp, fun i _ hi => (MapKept.heap_set hb).2 i (fun e => hi (by rw [e]))⟩
  cases hx : look k es.toList 0 with
  | none =>
    rw [hx] at h2 h1
    simp only [Option.map_none] at h2
    refine ⟨_, by simp [Instr.mapUpdate, run_underlying ht, MapKept.run_getObj_map hb, h3, h1, MapKept.run_setObj_map _ hb]; rfl, ⟨_, _, (MapKept.heap_set hb).1, ?_, ?_, ?_⟩, hgr _⟩
    · rw [← h2]; simp [hn]
    · intro z hz
      rw [Array.toList_push] at hz
      rcases List.mem_append.1 hz with hz | hz
      · exact (he z hz).set hb _
      · simp only [List.mem_singleton] at hz
        subst hz
        exact hk.set hb _
    · intro k'
      rw [Array.toList_push, look_app (w := w)]
      have h5 := hl k'
      cases hy : look k' es.toList 0 with
      | none =>
        rw [hy] at h5
        simp only [Option.map_none] at h5
        dsimp only
        rw [← h5, kEq_comm k' k]
        cases kEq k k' <;> simp
      | some y =>
        rw [hy] at h5
        simp only [Option.map_some] at h5 ⊢
        have e2 : kEq k k' = false := by
          rw [Bool.eq_false_iff]
          intro h
          have hn : ∀ (l : List MapEntry) (i : Nat), look k l i = none → look k' l i = none := by
            intro l
            induction l with
            | nil => intro i _; rfl
            | cons d l IH =>
              intro i hi
              simp only [look] at hi ⊢
              cases hq : kEq k d.key with
              | true => rw [hq] at hi; simp at hi
              | false =>
                rw [hq] at hi
                simp only [Bool.false_eq_true, if_false] at hi
                have : kEq k' d.key = false := by
                  rw [Bool.eq_false_iff]
                  intro h2
                  rw [kEq_trans h h2] at hq
                  cases hq
                rw [this]
                simp only [Bool.false_eq_true, if_false]
                exact IH (i + 1) hi
          rw [hn _ _ hx] at hy
          cases hy
        rw [e2]
        simpa using h5
  | some y =>
    obtain ⟨i, v⟩ := y
    rw [hx] at h2 h1
    simp only [Option.map_some] at h2
    obtain ⟨d, hd, hdk⟩ := look_at hk es.toList i v he hx
    have hd' : es[i]? = some d := by rw [← Array.getElem?_toList]; exact hd
    refine ⟨_, by simp [Instr.mapUpdate, run_underlying ht, MapKept.run_getObj_map hb, h3, h1, hd', hdk, run_stays hk, MapKept.run_setObj_map _ hb]; rfl, ⟨_, _, (MapKept.heap_set hb).1, ?_, ?_, ?_⟩, hgr _⟩
    · rw [← h2]; simp [hn]
    · intro z hz
      rw [Array.toList_modify] at hz
      obtain ⟨j, hj⟩ := List.mem_iff_getElem?.1 hz
      rw [List.getElem?_modify] at hj
      cases hq : es.toList[j]? with
      | none => rw [hq] at hj; simp at hj
      | some q =>
        rw [hq] at hj
        simp only [Option.map_eq_map, Option.map_some, Option.some.injEq] at hj
        split at hj
        · subst hj; exact hk.set hb _
        · subst hj; exact (he q (List.mem_of_getElem? hq)).set hb _
    · intro k'
      rw [Array.toList_modify, look_modify hk es.toList i v he hx, hl k']


/-- 'm[k] = v' at the operation, for the walk. -/
theorem wpList_mapUpdate_node (w : World) {ops : Array Oper} {rest : List Oper} {o : Oper} {a : Act} {Q : Exit → Act → World → Prop}
    (hg : o.guard = none) (m x v : Operand) (t : TypeId) (hop : o.op = Op.mapUpdate t m x v) (e : TypeId) (ht : Tryd.prog.underlying t = some (.map 135 e)) (b n : Nat) (f : Value → Option Value)
    (hm : a.eval m = .map (some b)) (hown : MapIs w b f n) (key val : Value) (hx : a.eval x = key) (hv : a.eval v = val) (hkey : NKey w key)
    (hK : ∀ w', MapIs w' b (fun k' => if kEq key k' then some val else f k') (if (f key).isSome then n else n + 1) → w.grownBy w' (some b) → wpList Tryd.prog ops Q rest (a.put o.dst undef) w') :
    wpList Tryd.prog ops Q (o :: rest) a w := by
  refine wpList_plain hg fun K' hK' => ?_
  obtain ⟨w', hrun, r1, r2⟩ := hown.run_update ht hkey val
  unfold Oper.wp
  simp [execOp, hop, hm, hx, hv, hrun, Result.andThen]
  exact hK' _ _ (hK w' r1 r2)


theorem MapIs.run_len {w : World} {b n : Nat} {f : Value → Option Value} (h : MapIs w b f n) {t e : TypeId} (ht : Tryd.prog.underlying t = some (.map 135 e)) (ty : TypeId) : (Builtin.len_ #[t] ty #[.map (some b)]).run Tryd.prog w = .ok (.int .i64 (n : Int)) w := by
  obtain ⟨es, clock, hb, hn, he, hl⟩ := h
  simp [Builtin.len_, run_underlying ht, MapKept.run_getObj_map hb, goInt, Result.andThen, hn]

end Go.Proofs.YtgmjpdejfdldlaaDoor.P

