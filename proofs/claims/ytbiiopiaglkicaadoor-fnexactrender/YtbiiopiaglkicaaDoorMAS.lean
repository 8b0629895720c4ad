import Derived.Deep.RegionWith
import Derived.Test.YtbiiopiaglkicaaDoorMAR
namespace Go.Proofs.YtbiiopiaglkicaaDoor
open Go.RowKit

def ldV (T : Tr) : Value := .agg #[.int .i64 (leadT T).1, .bool (leadT T).2]
theorem ldV_sim (T T' : Tr) (h : Sim T T') : ldV T = ldV T' := by unfold ldV; rw [h.leadT]

set_option maxHeartbeats 400000 in
theorem before_any (a b : Int) (ea eb : Bool) (w : World) (ha : -1000000 ≤ a ∧ a ≤ 1000000) (hb : -1000000 ≤ b ∧ b ≤ 1000000) :
    Calls Tryd.prog 87 #[.agg #[.int .i64 a, .bool ea], .agg #[.int .i64 b, .bool eb]] w fun e w' => e = .returned (.agg #[.int .i64 (if ea = true then a else a + b), .bool (if ea = true then ea else eb)]) ∧ w.grownBy w' none := by
  have g3 : ∀ (o1 o2 o3 : Obj), w.grownBy (((w.alloc o1).alloc o2).alloc o3) none := fun _ _ _ => grown_trans (grown_trans (World.grownBy_alloc _ _ _) (World.grownBy_alloc _ _ _)) (World.grownBy_alloc _ _ _)
  have G3 := hidN g3
  clear g3
  cases ea with
  | true =>
    go_enter Tryd.func87, Tryd.ntmps87
    go_wp2
    go_returns
    all_goals exact ⟨rfl, G3.out _ _ _⟩
  | false =>
    go_enter Tryd.func87, Tryd.ntmps87
    go_wp2
    go_returns
    all_goals exact ⟨rfl, G3.out _ _ _⟩

set_option maxHeartbeats 8000000 in
set_option maxRecDepth 100000 in
theorem leadsOf_any (B : Nat) (nv u0 : Value) (T0 : Tr) (l : List Value) (w : World) (hrow : w.ownsRow B 84 1 nv l.length l) (hr : Rep (fun _ => False) B w u0 T0) (hp : Post w u0 T0 l) (ho : Once (fun _ => False) w l) (hsz : sz T0 ≤ 140000) :
    Calls Tryd.prog 68 #[nv] w fun e w' => ∃ f n, e = .returned (.map (some w.heap.size)) ∧ MapIs w' w.heap.size f n ∧ NTab B w l f ldV ∧ w.grownBy w' none := by
  obtain ⟨a, cap, hnv, hnc, hnm⟩ := row_form hrow
  subst hnv
  unfold maxLen at hnm
  have HR : Hid (w.ownsRow B 84 1 (.slice a l.length cap) l.length l) := hrow
  have HRp : Hid (Rep (fun _ => False) B w u0 T0) := hr
  have HPo : Hid (Post w u0 T0 l) := hp
  have HOn : Hid (Once (fun _ => False) w l) := ho
  clear hrow hr hp ho
  have hmk : (Instr.makeMap 69 (some (.int .i64 (l.length : Int)))).run Tryd.prog w = .ok (.map (some w.heap.size)) (w.alloc (.map #[] 0)) := by
    simp [Instr.makeMap, run_underlying Tryd.underlying69, asInt, asIntOf]
  go_enter Tryd.func68, Tryd.ntmps68
  go_wp2
  go_loopw [18] (fun i wr => ∃ (k : Nat) (f : Value → Option Value) (n : Nat), k ≤ l.length ∧ i = .int .i64 k ∧ MapIs wr w.heap.size f n ∧ Hid (NTab B w (l.take k) f ldV) ∧ w.grownBy wr none) (fun i _ => l.length - (intOf i).toNat)
  case atStart => exact ⟨0, _, 0, Nat.zero_le _, rfl, mapIs_made w, (by intro v hv; simp at hv), World.grownBy_alloc _ _ _⟩
  case round =>
    obtain ⟨k, f, n, hk, rfl, hM, HN, hg⟩ := hrel
    by_cases hlt : k < l.length
    · obtain ⟨v, hv⟩ : ∃ v, l[k]? = some v := ⟨_, List.getElem?_eq_getElem hlt⟩
      obtain ⟨T, he, hrT, hsT⟩ := post_elem HRp.out HPo.out k v hv
      have hvl : v ∈ l := List.mem_of_getElem? hv
      have hkey := (rep_key HOn.out hvl hrT).keep hg
      have HStep := hidN (tab_step ldV_sim HOn.out hv hrT HN.out)
      have hbd := leadT_le width_bd T
      rcases HR.out.2 with ⟨_, h0⟩ | ⟨g, cp, cur, hrg, hbg, hgg, hnc', hcm, hcs, htk⟩
      · omega
      cases hrg
      have m00 := World.ownsRow.cellAt HR.out k (by omega)
      rw [hv] at m00
      have m0 := hg.cell m00 (by simp)
      clear m00
      have hgs := hg.size
      have hmlt := hM.lt
      have HM := hidN hM
      have HK := hidN hkey
      have HMg := hidN (fun W (hW : wr.grownBy W none) => hM.keep hW)
      have HKg := hidN (fun W (hW : wr.grownBy W none) => hkey.keep hW)
      have HG := hidN hg
      have hrest : ∀ w1, w.grownBy w1 none → ∀ w2, w1.grownBy w2 (some w.heap.size) → w.grownBy w2 none := fun w1 h1 w2 h2 => grown_new h1 h2 (fun j e => by cases e; exact Nat.le_refl _)
      have HRest := hidN hrest
      have gWB : wr.grownBy (wr.alloc (.cells #[.int .i64 0, .bool false] 120)) none := World.grownBy_alloc _ _ _
      clear hgg hcs htk hM hkey hrest
      cases T with
      | leaf p =>
        have he' := hrT
        simp only [Rep] at he'
        rcases he' with ⟨h1, h2⟩ | ⟨h1, h2⟩ | ⟨h1, h2⟩ | ⟨h1, h2⟩ | ⟨h1, h2⟩ | ⟨h1, b, tv, h2, _, h4, h5, _⟩
        · have hF : Hid (ldV (.leaf p) = .agg #[.int .i64 0, .bool false]) := by unfold Hid ldV; simp [leadT, h1]
          obtain ⟨f1, f2, f3, f4, f5, f6, f7, f8, f9, f10⟩ := tas_empty
          subst h2
          clear hrT he HN hv hg
          go_wp2_with (at_mapUpdate; refine wpList_mapUpdate_node _ rfl _ _ _ 69 rfl 120 Tryd.underlying69 _ n f rfl (HMg.out _ (by first | exact World.grownBy_alloc _ _ _ | exact grown_trans (World.grownBy_alloc _ _ _) (World.grownBy_alloc _ _ _))) _ _ rfl rfl (HKg.out _ (by first | exact World.grownBy_alloc _ _ _ | exact grown_trans (World.grownBy_alloc _ _ _) (World.grownBy_alloc _ _ _))) ?_; intro w1 hM1 hg1)
          go_roundw
          case rel => exact ⟨k + 1, _, _, by omega, by go_num, hM1, by rw [← hF.out]; exact HStep.out, HRest.out _ (grown_trans HG.out (by first | exact World.grownBy_alloc _ _ _ | exact grown_trans (World.grownBy_alloc _ _ _) (World.grownBy_alloc _ _ _))) _ hg1⟩
          case measure => simp [intOf]; omega
        · have hF : Hid (ldV (.leaf p) = .agg #[.int .i64 0, .bool true]) := by unfold Hid ldV; simp [leadT, h1]
          obtain ⟨f1, f2, f3, f4, f5, f6, f7, f8, f9, f10⟩ := tas_line
          subst h2
          clear hrT he HN hv hg
          go_wp2_with (at_mapUpdate; refine wpList_mapUpdate_node _ rfl _ _ _ 69 rfl 120 Tryd.underlying69 _ n f rfl (HMg.out _ (by first | exact World.grownBy_alloc _ _ _ | exact grown_trans (World.grownBy_alloc _ _ _) (World.grownBy_alloc _ _ _))) _ _ rfl rfl (HKg.out _ (by first | exact World.grownBy_alloc _ _ _ | exact grown_trans (World.grownBy_alloc _ _ _) (World.grownBy_alloc _ _ _))) ?_; intro w1 hM1 hg1)
          go_roundw
          case rel => exact ⟨k + 1, _, _, by omega, by go_num, hM1, by rw [← hF.out]; exact HStep.out, HRest.out _ (grown_trans HG.out (by first | exact World.grownBy_alloc _ _ _ | exact grown_trans (World.grownBy_alloc _ _ _) (World.grownBy_alloc _ _ _))) _ hg1⟩
          case measure => simp [intOf]; omega
        · have hF : Hid (ldV (.leaf p) = .agg #[.int .i64 0, .bool true]) := by unfold Hid ldV; simp [leadT, h1]
          obtain ⟨f1, f2, f3, f4, f5, f6, f7, f8, f9, f10⟩ := tas_soft
          subst h2
          clear hrT he HN hv hg
          go_wp2_with (at_mapUpdate; refine wpList_mapUpdate_node _ rfl _ _ _ 69 rfl 120 Tryd.underlying69 _ n f rfl (HMg.out _ (by first | exact World.grownBy_alloc _ _ _ | exact grown_trans (World.grownBy_alloc _ _ _) (World.grownBy_alloc _ _ _))) _ _ rfl rfl (HKg.out _ (by first | exact World.grownBy_alloc _ _ _ | exact grown_trans (World.grownBy_alloc _ _ _) (World.grownBy_alloc _ _ _))) ?_; intro w1 hM1 hg1)
          go_roundw
          case rel => exact ⟨k + 1, _, _, by omega, by go_num, hM1, by rw [← hF.out]; exact HStep.out, HRest.out _ (grown_trans HG.out (by first | exact World.grownBy_alloc _ _ _ | exact grown_trans (World.grownBy_alloc _ _ _) (World.grownBy_alloc _ _ _))) _ hg1⟩
          case measure => simp [intOf]; omega
        · have hF : Hid (ldV (.leaf p) = .agg #[.int .i64 0, .bool true]) := by unfold Hid ldV; simp [leadT, h1]
          obtain ⟨f1, f2, f3, f4, f5, f6, f7, f8, f9, f10⟩ := tas_hard
          subst h2
          clear hrT he HN hv hg
          go_wp2_with (at_mapUpdate; refine wpList_mapUpdate_node _ rfl _ _ _ 69 rfl 120 Tryd.underlying69 _ n f rfl (HMg.out _ (by first | exact World.grownBy_alloc _ _ _ | exact grown_trans (World.grownBy_alloc _ _ _) (World.grownBy_alloc _ _ _))) _ _ rfl rfl (HKg.out _ (by first | exact World.grownBy_alloc _ _ _ | exact grown_trans (World.grownBy_alloc _ _ _) (World.grownBy_alloc _ _ _))) ?_; intro w1 hM1 hg1)
          go_roundw
          case rel => exact ⟨k + 1, _, _, by omega, by go_num, hM1, by rw [← hF.out]; exact HStep.out, HRest.out _ (grown_trans HG.out (by first | exact World.grownBy_alloc _ _ _ | exact grown_trans (World.grownBy_alloc _ _ _) (World.grownBy_alloc _ _ _))) _ hg1⟩
          case measure => simp [intOf]; omega
        · have hF : Hid (ldV (.leaf p) = .agg #[.int .i64 0, .bool true]) := by unfold Hid ldV; simp [leadT, h1]
          obtain ⟨f1, f2, f3, f4, f5, f6, f7, f8, f9, f10⟩ := tas_raw
          subst h2
          clear hrT he HN hv hg
          go_wp2_with (at_mapUpdate; refine wpList_mapUpdate_node _ rfl _ _ _ 69 rfl 120 Tryd.underlying69 _ n f rfl (HMg.out _ (by first | exact World.grownBy_alloc _ _ _ | exact grown_trans (World.grownBy_alloc _ _ _) (World.grownBy_alloc _ _ _))) _ _ rfl rfl (HKg.out _ (by first | exact World.grownBy_alloc _ _ _ | exact grown_trans (World.grownBy_alloc _ _ _) (World.grownBy_alloc _ _ _))) ?_; intro w1 hM1 hg1)
          go_roundw
          case rel => exact ⟨k + 1, _, _, by omega, by go_num, hM1, by rw [← hF.out]; exact HStep.out, HRest.out _ (grown_trans HG.out (by first | exact World.grownBy_alloc _ _ _ | exact grown_trans (World.grownBy_alloc _ _ _) (World.grownBy_alloc _ _ _))) _ hg1⟩
          case measure => simp [intOf]; omega
        · have hF : Hid (ldV (.leaf p) = .agg #[.int .i64 (widthR p.t), .bool false]) := by unfold Hid ldV; simp [leadT, h1]
          obtain ⟨f1, f2, f3, f4, f5, f6, f7, f8, f9, f10⟩ := tas_text (.pointer (some ⟨b, 0, none⟩))
          have c1 : wr.cell? ⟨b, 1, none⟩ = some (.int .i64 (widthR p.t)) := hg.cell (by simp [World.cell?, h5]) (by simp)
          have c1b := gWB.cell c1 (by simp)
          clear c1
          subst h2
          clear hrT he HN hv hg h5
          go_wp2_with (at_mapUpdate; refine wpList_mapUpdate_node _ rfl _ _ _ 69 rfl 120 Tryd.underlying69 _ n f rfl (HMg.out _ (by first | exact World.grownBy_alloc _ _ _ | exact grown_trans (World.grownBy_alloc _ _ _) (World.grownBy_alloc _ _ _))) _ _ rfl rfl (HKg.out _ (by first | exact World.grownBy_alloc _ _ _ | exact grown_trans (World.grownBy_alloc _ _ _) (World.grownBy_alloc _ _ _))) ?_; intro w1 hM1 hg1)
          go_roundw
          case rel => exact ⟨k + 1, _, _, by omega, by go_num, hM1, by rw [← hF.out]; exact HStep.out, HRest.out _ (grown_trans HG.out (by first | exact World.grownBy_alloc _ _ _ | exact grown_trans (World.grownBy_alloc _ _ _) (World.grownBy_alloc _ _ _))) _ hg1⟩
          case measure => simp [intOf]; omega
      | un p x =>
        obtain ⟨b, u, hbl, c0, hru, hup, hvv⟩ := he
        have c0r := gWB.cell (hg.cell c0 (by simp)) (by simp)
        have hul : u ∈ l := List.mem_of_mem_take hup
        have hLu : (Instr.lookup 69 (.map (some w.heap.size)) u false).run Tryd.prog (wr.alloc (.cells #[.int .i64 0, .bool false] 120)) = .ok (.agg #[.int .i64 (leadT x).1, .bool (leadT x).2]) (wr.alloc (.cells #[.int .i64 0, .bool false] 120)) := by
          have := (HM.out.keep gWB).run_lookup (z := .agg #[.int .i64 0, .bool false]) Tryd.underlying69 rfl ((rep_key HOn.out hul hru).keep (grown_trans hg gWB))
          rw [HN.out u hup x hru] at this
          exact this
        have hF : Hid (ldV (.un p x) = .agg #[.int .i64 (leadT x).1, .bool (leadT x).2]) := rfl
        obtain ⟨tu, yu, hform⟩ := hru.form
        subst hform
        simp only [sz] at hsT
        generalize (leadT x).1 = fx at *
        generalize (leadT x).2 = ex at *
        rcases hvv with ⟨h1, h2⟩ | ⟨h1, h2, h3⟩
        · obtain ⟨f1, f2, f3, f4, f5, f6, f7, f8, f9, f10⟩ := tas_group (.pointer (some ⟨b, 0, none⟩))
          subst h2
          clear hrT HN hv hg hru c0 hul hup gWB
          go_wp2_with (at_mapUpdate; refine wpList_mapUpdate_node _ rfl _ _ _ 69 rfl 120 Tryd.underlying69 _ n f rfl (HMg.out _ (by first | exact World.grownBy_alloc _ _ _ | exact grown_trans (World.grownBy_alloc _ _ _) (World.grownBy_alloc _ _ _))) _ _ rfl rfl (HKg.out _ (by first | exact World.grownBy_alloc _ _ _ | exact grown_trans (World.grownBy_alloc _ _ _) (World.grownBy_alloc _ _ _))) ?_; intro w1 hM1 hg1)
          go_roundw
          case rel => exact ⟨k + 1, _, _, by omega, by go_num, hM1, by rw [← hF.out]; exact HStep.out, HRest.out _ (grown_trans HG.out (by first | exact World.grownBy_alloc _ _ _ | exact grown_trans (World.grownBy_alloc _ _ _) (World.grownBy_alloc _ _ _))) _ hg1⟩
          case measure => simp [intOf]; omega
        · obtain ⟨f1, f2, f3, f4, f5, f6, f7, f8, f9, f10⟩ := tas_nest (.pointer (some ⟨b, 0, none⟩))
          subst h2
          clear hrT HN hv hg hru c0 hul hup h3 gWB
          go_wp2_with (at_mapUpdate; refine wpList_mapUpdate_node _ rfl _ _ _ 69 rfl 120 Tryd.underlying69 _ n f rfl (HMg.out _ (by first | exact World.grownBy_alloc _ _ _ | exact grown_trans (World.grownBy_alloc _ _ _) (World.grownBy_alloc _ _ _))) _ _ rfl rfl (HKg.out _ (by first | exact World.grownBy_alloc _ _ _ | exact grown_trans (World.grownBy_alloc _ _ _) (World.grownBy_alloc _ _ _))) ?_; intro w1 hM1 hg1)
          go_roundw
          case rel => exact ⟨k + 1, _, _, by omega, by go_num, hM1, by rw [← hF.out]; exact HStep.out, HRest.out _ (grown_trans HG.out (by first | exact World.grownBy_alloc _ _ _ | exact grown_trans (World.grownBy_alloc _ _ _) (World.grownBy_alloc _ _ _))) _ hg1⟩
          case measure => simp [intOf]; omega
      | bin p x y =>
        obtain ⟨b, u, u', hbl, c0, c1, hru, hru', hup, hup', hvv⟩ := he
        have c0r := gWB.cell (hg.cell c0 (by simp)) (by simp)
        have c1r := gWB.cell (hg.cell c1 (by simp)) (by simp)
        have hul : u ∈ l := List.mem_of_mem_take hup
        have hul' : u' ∈ l := List.mem_of_mem_take hup'
        have hLu : ∀ W, wr.grownBy W none → (Instr.lookup 69 (.map (some w.heap.size)) u false).run Tryd.prog W = .ok (.agg #[.int .i64 (leadT x).1, .bool (leadT x).2]) W := by
          intro W hW
          have := (HM.out.keep hW).run_lookup (z := .agg #[.int .i64 0, .bool false]) Tryd.underlying69 rfl ((rep_key HOn.out hul hru).keep (grown_trans hg hW))
          rw [HN.out u hup x hru] at this
          exact this
        have hLu' : ∀ W, wr.grownBy W none → (Instr.lookup 69 (.map (some w.heap.size)) u' false).run Tryd.prog W = .ok (.agg #[.int .i64 (leadT y).1, .bool (leadT y).2]) W := by
          intro W hW
          have := (HM.out.keep hW).run_lookup (z := .agg #[.int .i64 0, .bool false]) Tryd.underlying69 rfl ((rep_key HOn.out hul' hru').keep (grown_trans hg hW))
          rw [HN.out u' hup' y hru'] at this
          exact this
        have hA := hLu _ gWB
        have hA' := hLu' _ gWB
        have gWD : wr.grownBy (wr.alloc (.cells #[.int .i64 0, .bool false] 120)).drew none := ⟨gWB.os, gWB.tape, gWB.output, gWB.size, gWB.block⟩
        have hD := hLu _ gWD
        have hD' := hLu' _ gWD
        have hbx := leadT_le width_bd x
        have hby := leadT_le width_bd y
        obtain ⟨tu, yu, hform⟩ := hru.form
        obtain ⟨tu', yu', hform'⟩ := hru'.form
        subst hform hform'
        simp only [sz] at hsT
        rcases hvv with ⟨h1, h2⟩ | ⟨h1, h2⟩
        · have hF : Hid (ldV (.bin p x y) = .agg #[.int .i64 (if (leadT x).2 = true then (leadT x).1 else (leadT x).1 + (leadT y).1), .bool (if (leadT x).2 = true then (leadT x).2 else (leadT y).2)]) := by
            unfold Hid ldV
            simp only [leadT]
            by_cases h2' : (leadT x).2 = true
            · rw [if_pos (.inr h2'), if_pos h2', if_pos h2']
            · rw [if_neg (by rintro (h | h); omega; exact h2' h), if_neg h2', if_neg h2']
          obtain ⟨f1, f2, f3, f4, f5, f6, f7, f8, f9, f10⟩ := tas_cat (.pointer (some ⟨b, 0, none⟩))
          have hS : ∀ W, _ := fun W => before_any (leadT x).1 (leadT y).1 (leadT x).2 (leadT y).2 W (by omega) (by omega)
          have HS := hidN hS
          clear hS
          generalize (if (leadT x).2 = true then (leadT x).1 else (leadT x).1 + (leadT y).1) = fs at *
          generalize (if (leadT x).2 = true then (leadT x).2 else (leadT y).2) = es at *
          generalize (leadT x).1 = fx at *
          generalize (leadT y).1 = fy at *
          generalize (leadT x).2 = ex at *
          generalize (leadT y).2 = ey at *
          have GWD := hidN gWD
          subst h2
          clear hrT HN hv hg hru hru' c0 c1 hul hup hul' hup' hLu hLu' gWB gWD
          go_wp2_with fail
          go_region_with (go_at_call 87; refine (HS.out _).mono ?_; rintro e w2 ⟨rfl, g2⟩; have z0 := g2.cell (a := ⟨wr.heap.size, 0, none⟩) (v := .int .i64 0) (by simp [go_sem]) (by simp); have z1 := g2.cell (a := ⟨wr.heap.size, 1, none⟩) (v := .bool false) (by simp [go_sem]) (by simp); have y0 : w2.frozen? ⟨wr.heap.size, 0, none⟩ = false := (World.frozen?_of_block (g2.block wr.heap.size (by simp) (by simp))).trans (by simp [go_sem]); have y1 : w2.frozen? ⟨wr.heap.size, 1, none⟩ = false := (World.frozen?_of_block (g2.block wr.heap.size (by simp) (by simp))).trans (by simp [go_sem]))
          all_goals
            have gW9 := hidN (grown_new (grown_new (grown_trans GWD.out g2) (grown_set w2 ⟨wr.heap.size, 0, none⟩ (.int .i64 fs)) (fun j e => by cases e; exact Nat.le_refl _)) (grown_set _ ⟨wr.heap.size, 1, none⟩ (.bool es)) (fun j e => by cases e; exact Nat.le_refl _))
            clear g2 hA hA' hD hD'
            go_wp2_with (at_mapUpdate; refine wpList_mapUpdate_node _ rfl _ _ _ 69 rfl 120 Tryd.underlying69 _ n f rfl (HMg.out _ gW9.out) _ _ rfl rfl (HKg.out _ gW9.out) ?_; intro w1 hM1 hg1)
            go_roundw
            case rel => exact ⟨k + 1, _, _, by omega, by go_num, hM1, by rw [← hF.out]; exact HStep.out, HRest.out _ (grown_trans HG.out gW9.out) _ hg1⟩
            case measure => simp [intOf]; omega
        · have hF : Hid (ldV (.bin p x y) = .agg #[.int .i64 (leadT x).1, .bool (leadT x).2]) := by unfold Hid ldV; simp only [leadT]; rw [if_pos (.inl h1)]
          obtain ⟨f1, f2, f3, f4, f5, f6, f7, f8, f9, f10⟩ := tas_alt (.pointer (some ⟨b, 0, none⟩))
          generalize (leadT x).1 = fx at *
          generalize (leadT x).2 = ex at *
          subst h2
          clear hrT HN hv hg hru hru' c0 c1 hul hup hul' hup' hLu hLu' hD hD' hA' gWB gWD
          go_wp2_with (at_mapUpdate; refine wpList_mapUpdate_node _ rfl _ _ _ 69 rfl 120 Tryd.underlying69 _ n f rfl (HMg.out _ (by first | exact World.grownBy_alloc _ _ _ | exact grown_trans (World.grownBy_alloc _ _ _) (World.grownBy_alloc _ _ _))) _ _ rfl rfl (HKg.out _ (by first | exact World.grownBy_alloc _ _ _ | exact grown_trans (World.grownBy_alloc _ _ _) (World.grownBy_alloc _ _ _))) ?_; intro w1 hM1 hg1)
          go_roundw
          case rel => exact ⟨k + 1, _, _, by omega, by go_num, hM1, by rw [← hF.out]; exact HStep.out, HRest.out _ (grown_trans HG.out (by first | exact World.grownBy_alloc _ _ _ | exact grown_trans (World.grownBy_alloc _ _ _) (World.grownBy_alloc _ _ _))) _ hg1⟩
          case measure => simp [intOf]; omega
    · have hkn : k = l.length := by omega
      have HN2 : Hid (NTab B w l f ldV) := by have := HN.out; rw [hkn, List.take_length] at this; exact this
      clear HN
      go_wp2
      go_ret
      exact ⟨f, n, rfl, hM, HN2.out, hg⟩

end Go.Proofs.YtbiiopiaglkicaaDoor

