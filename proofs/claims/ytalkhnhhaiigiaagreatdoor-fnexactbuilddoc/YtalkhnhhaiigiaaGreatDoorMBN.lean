import Derived.RegionTactic
import Derived.ChangeAlike
import Derived.BigRegion
import Derived.Test.YtalkhnhhaiigiaaGreatDoorMAS
import Derived.Test.YtalkhnhhaiigiaaGreatDoorMBM
namespace Go.Proofs.YtalkhnhhaiigiaaGreatDoor
open Go.RowKit
attribute [-go_sem] Builtin.append_

/-- The shaper goes on to the next nodes. -/
theorem sx_turn {bs B : Nat} {ind m : Int} {w w0 : World} {nv nvR : Value} {R R' : List Nod} (h : Sx bs B ind m w nv R') (hr : RdN B w0 nvR R) (g : w0.grownBy w none) (hB : B ≤ bs) (hbs : 1 < bs) : Sx bs B ind m (w.setCell ⟨bs, 0, none⟩ nvR) nvR R := by
  have gs : w.grownBy (w.setCell ⟨bs, 0, none⟩ nvR) (some bs) := ⟨rfl, rfl, rfl, by simp, fun i _ hn => Below.heap_setCell _ _ _ _ (fun e => hn (by rw [e]))⟩
  have ne : ∀ b, b ≠ bs → some b ≠ some bs := fun b hb e => hb (by cases e; rfl)
  exact ⟨h.shp.turn nvR, (hr.keep g).beside gs (fun k e => by cases e; exact hB), ⟨gs.cell h.tab.c0 (ne 0 (by omega)), gs.cell h.tab.c1 (ne 0 (by omega)), gs.cell h.tab.c2 (ne 0 (by omega)), gs.cell h.tab.c3 (ne 0 (by omega)), gs.cell h.tab.c4 (ne 0 (by omega))⟩, gs.cell h.mx (ne 1 (by omega))⟩

set_option maxHeartbeats 8000000 in
set_option maxRecDepth 100000 in
theorem item_gen (bs B : Nat) (ind m : Int) (hB : B ≤ bs) (hbs : 1 < bs) (p : Nod) (R R2 : List Nod) (vd : List Pc) (nv : Value) (w : World) (hs : Sx bs B ind m w nv (p :: R)) (hpo : NdOk p) (hpw : wN p ≤ 2000000) (kk : Nat) (hk : p.k = (kk : Int)) (hk6 : kk ≤ 6) (f : Nat) (first caps : Array Value)
    (hE : ∀ (args : Array Value) (W : World), (callFunc f args).run Tryz.prog W = .ok (.enter f args) W) (hfv : ∀ (W : World) (nvR : Value), Shp W bs nvR ind → W.cell? ⟨bs, 2 + kk, none⟩ = some (.func (.func f) first caps))
    (HV : ∀ (W : World) (nvR lv kv xv uv tv : Value), Sx bs B ind m W nvR R → RdC B W lv p.lead → RdI B W kv p.key → Sl kv p.key.length → RdB B W xv p.text → Sl xv p.text.length → RdI B W uv p.units → Sl uv p.units.length → RdC B W tv p.tail →
      Calls Tryz.prog f (first ++ #[.agg #[.int .i64 p.k, lv, .bool p.mem, kv, xv, uv, .int .i64 p.cnt, tv]] ++ caps) W fun e w' => GivesV bs B ind m W vd R2 e w') :
    Calls Tryz.prog 50 #[.pointer (some ⟨bs, 0, none⟩)] w fun e w' => GivesL bs B ind m w (befP p.lead ++ (keyP p ++ [vd])) R2 e w' := by
  obtain ⟨b, off, cap, lv, kv, xv, uv, tv, hva, hb0, hp⟩ := hs.rd.at 0 (by simp)
  have hcc : (p :: R).length ≤ cap ∧ cap ≤ maxLen := by
    obtain ⟨a2, cap2, e2, h1, h2, _⟩ := hs.rd
    rw [hva] at e2
    simp only [Value.slice.injEq] at e2
    obtain ⟨_, _, rfl⟩ := e2
    exact ⟨h1, h2⟩
  have hcm : cap ≤ 9223372036854775807 := by have := hcc.2; unfold maxLen at this; omega
  have hc1 : R.length + 1 ≤ cap := hcc.1
  simp only [Nat.zero_mul, Nat.add_zero, List.getElem_cons_zero] at hp
  have z0 := hp.k; have z1 := hp.lead; have z2 := hp.mem; have z3 := hp.key; have z4 := hp.text; have z5 := hp.units; have z6 := hp.cnt; have z7 := hp.tail
  have c0 := hs.shp.n
  have fz := hs.shp.fz
  obtain ⟨la, lc, hlv, _, _⟩ := hp.rl.sl
  obtain ⟨ta, tc, htv, _, _⟩ := hp.rt.sl
  obtain ⟨ka, kc, hkv, _, _⟩ := hp.sk
  obtain ⟨xa, xc, hxv, _, _⟩ := hp.sx
  obtain ⟨ua, uc, huv, _, _⟩ := hp.su
  have HP := hide hp
  have HS := hide hs
  have hll : (p :: R).length = R.length + 1 := rfl
  rw [hll] at hva
  subst hlv htv hkv hxv huv hva
  clear hp hs
  have HVV := hide HV
  have HFV := hide hfv
  have hlt := HS.out.lt
  have hwl : wC p.lead ≤ 2000000 := by have := hpw; unfold wN at this; omega
  rw [hk] at z0 HVV
  clear HV hfv
  by_cases hcap : cap = 1
  · obtain rfl : R = [] := List.eq_nil_of_length_eq_zero (by omega)
    subst hcap
    have HVR : RdN B w (.slice (some ⟨b, off, none⟩) 0 0) [] := RdN.tail (cap := 1) HS.out.rd (some ⟨b, off, none⟩) 0 (fun h => absurd rfl h) ⟨by simp, by unfold maxLen; omega⟩
    simp only [List.length_nil, Nat.zero_add] at *
    cases hmem : p.mem with
    | true =>
      rw [hmem] at z2
      obtain ⟨W1, hW1⟩ : ∃ W1, W1 = w.alloc (Obj.cells #[.int .i64 kk, .slice la p.lead.length lc, .bool true, .slice ka p.key.length kc, .slice xa p.text.length xc, .slice ua p.units.length uc, .int .i64 p.cnt, .slice ta p.tail.length tc] 75) := ⟨_, rfl⟩
      have gW1 : w.grownBy W1 none := by rw [hW1]; exact World.grownBy_alloc _ _ _
      have sW1 : W1.heap.size = w.heap.size + 1 := by rw [hW1]; simp
      have c0' := gW1.cell c0 (by simp)
      have fz' : W1.frozen? ⟨bs, 0, none⟩ = false := by rw [World.frozen?_of_block (gW1.block bs (by omega) (by simp))]; exact fz
      obtain ⟨W2, hW2⟩ : ∃ W2, W2 = W1.setCell ⟨bs, 0, none⟩ (.slice (some ⟨b, off, none⟩) 0 0) := ⟨_, rfl⟩
      have gS : W1.grownBy W2 (some bs) := by rw [hW2]; exact ⟨rfl, rfl, rfl, by simp, fun i _ hn => Below.heap_setCell _ _ _ _ (fun e => hn (by rw [e]))⟩
      have gW2 := grown_mix (grown_some (r := some bs) gW1) gS (fun x e => by cases e; exact .inr rfl)
      have GW2 := hide gW2
      have hrow : ∀ k, some bs = some k → B ≤ k := fun k e => by cases e; exact hB
      have hSx2 : Sx bs B ind m W2 (.slice (some ⟨b, off, none⟩) 0 0) ([] : List Nod) := by rw [hW2]; exact sx_turn (HS.out.keep gW1) HVR gW1 hB hbs
      have HSC := hide hSx2
      have NB : Hid (W2.cell? ⟨w.heap.size, 0, none⟩ = some (.int .i64 kk) ∧ W2.cell? ⟨w.heap.size, 1, none⟩ = some (.slice la p.lead.length lc) ∧ W2.cell? ⟨w.heap.size, 2, none⟩ = some (.bool true) ∧ W2.cell? ⟨w.heap.size, 3, none⟩ = some (.slice ka p.key.length kc) ∧ W2.cell? ⟨w.heap.size, 4, none⟩ = some (.slice xa p.text.length xc) ∧ W2.cell? ⟨w.heap.size, 5, none⟩ = some (.slice ua p.units.length uc) ∧ W2.cell? ⟨w.heap.size, 6, none⟩ = some (.int .i64 p.cnt) ∧ W2.cell? ⟨w.heap.size, 7, none⟩ = some (.slice ta p.tail.length tc)) := by
        have n : ∀ (j : Nat) (v : Value), W1.cell? ⟨w.heap.size, j, none⟩ = some v → W2.cell? ⟨w.heap.size, j, none⟩ = some v := fun j v h => gS.cell h (by simp; omega)
        unfold Hid
        refine ⟨n _ _ ?_, n _ _ ?_, n _ _ ?_, n _ _ ?_, n _ _ ?_, n _ _ ?_, n _ _ ?_, n _ _ ?_⟩ <;> (rw [hW1]; simp [go_sem])
      have hs2 := gW2.size
      have sW2 : W2.heap.size = w.heap.size + 1 := by rw [hW2]; simp [sW1]
      have HAB := hide (aboveLines_any (.slice la p.lead.length lc) p.lead m W2 ((HP.out.rl.beside gW2 hrow).wide (by omega)) hpo.l.2 (by omega) hSx2.mx)
      have hmb := mess_bef p.lead
      have hmbl := mess_len (befP p.lead)
      have n1 := NB.out.2.1
      have HW2 := hide hW2
      have HW1 := hide hW1
      rw [hW2, hW1] at HAB
      rw [hW2, hW1] at n1
      rw [hW1] at c0' fz'
      clear gW1 gS gW2 hSx2 hW2 hW1 HVR
      go_enter Tryz.func50, Tryz.ntmps50
      go_wp2_with fail
      refine HAB.out.mono ?_
      rintro e w3 ⟨v3, rfl, o3, g3⟩
      have hW2 := HW2.out
      have hW1 := HW1.out
      rw [hW1] at hW2
      rw [← hW2] at o3 g3
      clear hW1 hW2
      obtain ⟨n0, n1', n2, n3, n4, n5, n6, n7⟩ := NB.out
      have y2 := g3.cell n2 (by simp)
      have y3 := g3.cell n3 (by simp)
      clear n0 n1' n2 n3 n4 n5 n6 n7 n1 c0' fz' HAB
      obtain ⟨pa, pc, hv3⟩ := o3.sl
      generalize hLX : (befP p.lead).length = LX at *
      have HPO := hide o3
      have HSC3 := hide (HSC.out.keep g3)
      have GCC3 := hide g3
      subst hv3
      clear o3 HSC
      have hkl : 6 * p.key.length ≤ 2000000 := by have := hpw; unfold wN at this; omega
      have hkey := key_len p.key
      have g23 := grown_mix GW2.out g3 (fun x e => by cases e)
      have HKF := hide (keyForm_any (.slice ka p.key.length kc) p.key w3 HSC3.out.tab ((HP.out.rk.beside g23 hrow).wideC (by have := g23.size; omega)) (by omega))
      have s3 := g3.size
      clear g3 g23
      go_wp2_with fail
      refine HKF.out.mono ?_
      rintro e w4 ⟨rfl, g4⟩
      have hlim : ¬ 9223372036854775807 < (strOfNums (keyB p.key)).size + 2 := by rw [strOfNums_size]; omega
      have HTX : Hid (∀ U : World, _) := fun U => textPart_any (keyB p.key ++ [58, 32]) (by intro z hz; rcases List.mem_append.1 hz with h | h; exact keyB_bys p.key z h; simp at h; omega) (by simp; omega) U
      have ecat : strOfNums (keyB p.key) ++ { data := #[58, 32] } = strOfNums (keyB p.key ++ [58, 32]) := str_app (keyB p.key) [58, 32]
      rw [← ecat] at HTX
      have G4 := hide g4
      have HKP := hide (show keyP p = [textP (keyB p.key ++ [58, 32])] by unfold keyP; rw [hmem]; rfl)
      clear HKF g4 ecat y2 y3
      generalize hKS : strOfNums (keyB p.key) = KS at *
      go_wp2_with fail
      refine (HTX.out w4).mono ?_
      rintro e w5 ⟨f5, caps5, rfl, hp5, g5⟩
      have g35 := grown_trans G4.out g5
      have k5 := hp5.moreB (B := w3.heap.size) G4.out.size (World.grownBy.refl _ _)
      have hpr := pa_oneB g35.size k5
      have gA := World.grownBy_alloc w5 (Obj.cells #[.func (.func f5) #[] caps5] 51) none
      have s5 := g35.size
      obtain ⟨v6, w6, run6, o6, g6⟩ := append_parts W2.heap.size _ _ _ _ _ _ ((HPO.out.keep g35).keep gA) hpr (fun k hk => ⟨by have := hk.1; omega, hk.2, fun e => by have h1 := hk.1; have h2 := (HPO.out.lt k e).2; omega⟩) (by simp; omega) (by rw [hLX]; simp; omega)
      obtain ⟨pa6, pc6, hv6⟩ := o6.sl
      have hLX6 : (befP p.lead ++ [textP (keyB p.key ++ [58, 32])]).length = LX + 1 := by rw [List.length_append, hLX]; rfl
      rw [hLX6] at hv6
      have hoP : ∀ x, (Value.slice pa LX pc).ownBlock = some x → W2.heap.size ≤ x := fun x e => (HPO.out.lt x e).1
      have HSC := hide (sx_row ((HSC3.out.keep g35).keep gA) g6 (fun x e => by have := hoP x e; omega) hB hbs)
      have GCC := hide (grown_new (grown_trans GCC3.out (grown_trans g35 gA)) g6 (fun x e => hoP x e))
      have HPO6 := hide o6
      subst hv6
      clear o6 g6 hoP hpr gA g35 k5 hp5 g5 G4 HTX HPO hLX
      have hLX := hLX6
      clear hLX6
      obtain ⟨X, hX⟩ : ∃ X, X = w6.drew := ⟨_, rfl⟩
      have gX : w6.grownBy X none := by rw [hX]; exact ⟨rfl, rfl, rfl, Nat.le_refl _, fun _ _ _ => rfl⟩
      have HSX := hide (HSC.out.keep gX)
      have HPX := hide (HPO6.out.keep gX)
      have GXX := hide (grown_trans GCC.out gX)
      have hXs := GXX.out.size
      obtain ⟨I, hI⟩ : ∃ I : World → Prop, I = (fun U : World => U.cell? ⟨w.heap.size, 0, none⟩ = some (.int .i64 kk) ∧ U.cell? ⟨w.heap.size, 1, none⟩ = some (.slice la p.lead.length lc) ∧ U.cell? ⟨w.heap.size, 2, none⟩ = some (.bool true) ∧ U.cell? ⟨w.heap.size, 3, none⟩ = some (.slice ka p.key.length kc) ∧ U.cell? ⟨w.heap.size, 4, none⟩ = some (.slice xa p.text.length xc) ∧ U.cell? ⟨w.heap.size, 5, none⟩ = some (.slice ua p.units.length uc) ∧ U.cell? ⟨w.heap.size, 6, none⟩ = some (.int .i64 p.cnt) ∧ U.cell? ⟨w.heap.size, 7, none⟩ = some (.slice ta p.tail.length tc) ∧ U.cell? ⟨bs, 2 + kk, none⟩ = some (.func (.func f) first caps)) := ⟨_, rfl⟩
      have HI0 : I X := by rw [hI]; obtain ⟨n0, n1, n2, n3, n4, n5, n6, n7⟩ := NB.out; exact ⟨GXX.out.cell n0 (by simp), GXX.out.cell n1 (by simp), GXX.out.cell n2 (by simp), GXX.out.cell n3 (by simp), GXX.out.cell n4 (by simp), GXX.out.cell n5 (by simp), GXX.out.cell n6 (by simp), GXX.out.cell n7 (by simp), HFV.out X _ HSX.out.shp⟩
      have kpI : ∀ (U U' : World) (nvU : Value) (r : Option Nat), I U → U.grownBy U' r → some w.heap.size ≠ r → Shp U' bs nvU ind → I U' := fun U U' nvU r h g hr hsh => by rw [hI] at h ⊢; obtain ⟨n0, n1, n2, n3, n4, n5, n6, n7, _⟩ := h; exact ⟨g.cell n0 hr, g.cell n1 hr, g.cell n2 hr, g.cell n3 hr, g.cell n4 hr, g.cell n5 hr, g.cell n6 hr, g.cell n7 hr, HFV.out U' _ hsh⟩
      have gWX := grown_mix GW2.out GXX.out (fun x e => by cases e)
      have HCV := hide (HVV.out X (.slice (some ⟨b, off, none⟩) 0 0) (.slice la p.lead.length lc) (.slice ka p.key.length kc) (.slice xa p.text.length xc) (.slice ua p.units.length uc) (.slice ta p.tail.length tc) HSX.out (HP.out.rl.beside gWX hrow) (HP.out.rk.beside gWX hrow) HP.out.sk (HP.out.rx.beside gWX hrow) HP.out.sx (HP.out.ru.beside gWX hrow) HP.out.su (HP.out.rt.beside gWX hrow))
      have hk7 : (kk : Int) < 7 := by omega
      have GWX := hide gWX
      clear gWX
      go_wp2
      refine region_anyI I (fun _ => false) (by kernel_rfl) ?_
      rw [← hX]
      clear hX gX
      show anyI _ _ _ _ _ _ 13 (Array.replicate 13 false) _ _
      refine anyI_take (i := 0) (.slice pa6 (LX + 1) pc6) rfl (by kernel_rfl) (by kernel_rfl) (by kernel_rfl) (by kernel_rfl) (fun _ _ _ h => h) HI0 (yldI rfl (fun U hU => by go_simp)) ?_
      refine anyI_take (i := 1) (.pointer (some ⟨bs, 0, none⟩)) rfl (by kernel_rfl) (by kernel_rfl) (by kernel_rfl) (by kernel_rfl) (fun _ _ _ h => h) HI0 (yldI rfl (fun U hU => by go_simp)) ?_
      refine anyI_take (i := 2) (.pointer (some ⟨w.heap.size, 0, none⟩)) rfl (by kernel_rfl) (by kernel_rfl) (by kernel_rfl) (by kernel_rfl) (fun _ _ _ h => h) HI0 (yldI rfl (fun U hU => by go_simp)) ?_
      refine anyI_take (i := 3) (.int .i64 kk) rfl (by kernel_rfl) (by kernel_rfl) (by kernel_rfl) (by kernel_rfl) (fun _ _ _ h => h) HI0 (yldI rfl (fun U hU => by rw [hI] at hU; obtain ⟨h0, h1, h2, h3, h4, h5, h6, h7, h8⟩ := hU; go_simp)) ?_
      refine anyI_take (i := 4) (.pointer (some ⟨bs, 0, none⟩)) rfl (by kernel_rfl) (by kernel_rfl) (by kernel_rfl) (by kernel_rfl) (fun _ _ _ h => h) HI0 (yldI rfl (fun U hU => by go_simp)) ?_
      refine anyI_take (i := 5) (.pointer (some ⟨bs, 2, none⟩)) rfl (by kernel_rfl) (by kernel_rfl) (by kernel_rfl) (by kernel_rfl) (fun _ _ _ h => h) HI0 (yldI rfl (fun U hU => by go_simp)) ?_
      refine anyI_take (i := 6) (.pointer (some ⟨bs, 2 + kk, none⟩)) rfl (by kernel_rfl) (by kernel_rfl) (by kernel_rfl) (by kernel_rfl) (fun _ _ _ h => h) HI0 (yldI rfl (fun U hU => by go_simp)) ?_
      refine anyI_take (i := 7) (.func (.func f) first caps) rfl (by kernel_rfl) (by kernel_rfl) (by kernel_rfl) (by kernel_rfl) (fun _ _ _ h => h) HI0 (yldI rfl (fun U hU => by rw [hI] at hU; obtain ⟨h0, h1, h2, h3, h4, h5, h6, h7, h8⟩ := hU; go_simp)) ?_
      refine anyI_take (i := 8) (.agg #[.int .i64 kk, .slice la p.lead.length lc, .bool true, .slice ka p.key.length kc, .slice xa p.text.length xc, .slice ua p.units.length uc, .int .i64 p.cnt, .slice ta p.tail.length tc]) rfl (by kernel_rfl) (by kernel_rfl) (by kernel_rfl) (by kernel_rfl) (fun _ _ _ h => h) HI0 (yldI rfl (fun U hU => by rw [hI] at hU; obtain ⟨h0, h1, h2, h3, h4, h5, h6, h7, h8⟩ := hU; go_simp)) ?_
      generalize hG : Act.put _ _ _ = A0
      simp [Act.put] at hG
      subst hG
      refine anyI_one (i := 9) (by kernel_rfl) (wpOp_call rfl rfl (by go_simp) HCV.out ?_)
      rintro e w7 ⟨f7, caps7, nv7, rfl, hp7, hs7, g7⟩
      have HI1 := kpI X w7 nv7 (some bs) HI0 g7 (by simp; omega) hs7.shp
      refine ⟨_, rfl, .inr HI1, ?_⟩
      have hpr := pa_oneB g7.size hp7
      have gA := World.grownBy_alloc w7 (Obj.cells #[.func (.func f7) #[] caps7] 51) none
      have HI2 := kpI _ _ nv7 none HI1 gA (by simp) (hs7.shp.keep gA)
      have oI := (HPX.out.row g7 (by omega)).keep gA
      have s7 := g7.size
      obtain ⟨v8, w8, run8, o8, g8⟩ := append_parts W2.heap.size _ _ _ _ _ _ oI hpr (fun k hk => ⟨by have := hk.1; omega, hk.2, fun e => by have h1 := hk.1; have h2 := (HPX.out.lt k e).2; omega⟩) (by simp; omega) (by rw [hLX]; simp; omega)
      obtain ⟨a8, c8, hv8⟩ := o8.sl
      have hL8 : ((befP p.lead ++ [textP (keyB p.key ++ [58, 32])]) ++ [vd]).length = (LX + 1) + 1 := by rw [List.length_append, hLX]; rfl
      rw [hL8] at hv8
      have hoX : ∀ x, (Value.slice pa6 (LX + 1) pc6).ownBlock = some x → W2.heap.size ≤ x := fun x e => (HPX.out.lt x e).1
      have hs8 : Sx bs B ind m w8 nv7 R2 := sx_row (hs7.keep gA) g8 (fun x e => by have := hoX x e; omega) hB hbs
      have HI3 := kpI _ _ nv7 _ HI2 g8 (fun e => by have := hoX _ e.symm; omega) hs8.shp
      have HS8 := hide hs8
      have HG8 := hide (grown_mix (grown_mix (grown_mix GWX.out g7 (fun x e => by cases e; exact .inr rfl)) gA (fun x e => by cases e)) g8 (fun x e => .inl (by have := hoX x e; omega)))
      have HO8 : Hid (PoL w.heap.size w8 v8 (befP p.lead ++ (keyP p ++ [vd]))) := by
        unfold Hid
        rw [HKP.out]
        have hfin := o8.base (B' := w.heap.size) (by omega)
        simpa using hfin
      subst hv8
      clear o8 g8 hpr gA oI hs8 hs7 g7 hp7 kpI hoX HCV
      refine anyI_one (i := 10) (by kernel_rfl) (wpOp_val (w' := w7.alloc (Obj.cells #[.func (.func f7) #[] caps7] 51)) (v := .slice (some ⟨w7.heap.size, 0, none⟩) 1 1) rfl rfl (by go_simp) ⟨.inr HI2, ?_⟩)
      refine anyI_one (i := 11) (by kernel_rfl) (wpOp_val (w' := w8) (v := .slice a8 ((LX + 1) + 1) c8) rfl rfl (by go_simp) ⟨.inr HI3, ?_⟩)
      refine anyI_one (i := 12) (by kernel_rfl) (wpOp_val (w' := w8) (v := .slice a8 ((LX + 1) + 1) c8) rfl rfl (by go_simp) ⟨.inr HI3, ?_⟩)
      refine anyI_done (by kernel_rfl) ?_ _
      subst hI
      clear HI0 HI1 HI2 HI3 run8
      go_wp2
      go_ret
      exact ⟨_, nv7, rfl, HO8.out, HS8.out, HG8.out⟩
    | false =>
      rw [hmem] at z2
      obtain ⟨W1, hW1⟩ : ∃ W1, W1 = w.alloc (Obj.cells #[.int .i64 kk, .slice la p.lead.length lc, .bool false, .slice ka p.key.length kc, .slice xa p.text.length xc, .slice ua p.units.length uc, .int .i64 p.cnt, .slice ta p.tail.length tc] 75) := ⟨_, rfl⟩
      have gW1 : w.grownBy W1 none := by rw [hW1]; exact World.grownBy_alloc _ _ _
      have sW1 : W1.heap.size = w.heap.size + 1 := by rw [hW1]; simp
      have c0' := gW1.cell c0 (by simp)
      have fz' : W1.frozen? ⟨bs, 0, none⟩ = false := by rw [World.frozen?_of_block (gW1.block bs (by omega) (by simp))]; exact fz
      obtain ⟨W2, hW2⟩ : ∃ W2, W2 = W1.setCell ⟨bs, 0, none⟩ (.slice (some ⟨b, off, none⟩) 0 0) := ⟨_, rfl⟩
      have gS : W1.grownBy W2 (some bs) := by rw [hW2]; exact ⟨rfl, rfl, rfl, by simp, fun i _ hn => Below.heap_setCell _ _ _ _ (fun e => hn (by rw [e]))⟩
      have gW2 := grown_mix (grown_some (r := some bs) gW1) gS (fun x e => by cases e; exact .inr rfl)
      have GW2 := hide gW2
      have hrow : ∀ k, some bs = some k → B ≤ k := fun k e => by cases e; exact hB
      have hSx2 : Sx bs B ind m W2 (.slice (some ⟨b, off, none⟩) 0 0) ([] : List Nod) := by rw [hW2]; exact sx_turn (HS.out.keep gW1) HVR gW1 hB hbs
      have HSC := hide hSx2
      have NB : Hid (W2.cell? ⟨w.heap.size, 0, none⟩ = some (.int .i64 kk) ∧ W2.cell? ⟨w.heap.size, 1, none⟩ = some (.slice la p.lead.length lc) ∧ W2.cell? ⟨w.heap.size, 2, none⟩ = some (.bool false) ∧ W2.cell? ⟨w.heap.size, 3, none⟩ = some (.slice ka p.key.length kc) ∧ W2.cell? ⟨w.heap.size, 4, none⟩ = some (.slice xa p.text.length xc) ∧ W2.cell? ⟨w.heap.size, 5, none⟩ = some (.slice ua p.units.length uc) ∧ W2.cell? ⟨w.heap.size, 6, none⟩ = some (.int .i64 p.cnt) ∧ W2.cell? ⟨w.heap.size, 7, none⟩ = some (.slice ta p.tail.length tc)) := by
        have n : ∀ (j : Nat) (v : Value), W1.cell? ⟨w.heap.size, j, none⟩ = some v → W2.cell? ⟨w.heap.size, j, none⟩ = some v := fun j v h => gS.cell h (by simp; omega)
        unfold Hid
        refine ⟨n _ _ ?_, n _ _ ?_, n _ _ ?_, n _ _ ?_, n _ _ ?_, n _ _ ?_, n _ _ ?_, n _ _ ?_⟩ <;> (rw [hW1]; simp [go_sem])
      have hs2 := gW2.size
      have sW2 : W2.heap.size = w.heap.size + 1 := by rw [hW2]; simp [sW1]
      have HAB := hide (aboveLines_any (.slice la p.lead.length lc) p.lead m W2 ((HP.out.rl.beside gW2 hrow).wide (by omega)) hpo.l.2 (by omega) hSx2.mx)
      have hmb := mess_bef p.lead
      have hmbl := mess_len (befP p.lead)
      have n1 := NB.out.2.1
      have HW2 := hide hW2
      have HW1 := hide hW1
      rw [hW2, hW1] at HAB
      rw [hW2, hW1] at n1
      rw [hW1] at c0' fz'
      clear gW1 gS gW2 hSx2 hW2 hW1 HVR
      go_enter Tryz.func50, Tryz.ntmps50
      go_wp2_with fail
      refine HAB.out.mono ?_
      rintro e w3 ⟨v3, rfl, o3, g3⟩
      have hW2 := HW2.out
      have hW1 := HW1.out
      rw [hW1] at hW2
      rw [← hW2] at o3 g3
      clear hW1 hW2
      obtain ⟨n0, n1', n2, n3, n4, n5, n6, n7⟩ := NB.out
      have y2 := g3.cell n2 (by simp)
      have y3 := g3.cell n3 (by simp)
      clear n0 n1' n2 n3 n4 n5 n6 n7 n1 c0' fz' HAB
      obtain ⟨pa, pc, hv3⟩ := o3.sl
      generalize hLX : (befP p.lead).length = LX at *
      have HPO := hide o3
      have HSC3 := hide (HSC.out.keep g3)
      have GCC3 := hide g3
      subst hv3
      clear o3 HSC
      have HSC := HSC3
      have GCC := GCC3
      clear g3
      have HKP := hide (show keyP p = [] by unfold keyP; rw [hmem]; rfl)
      obtain ⟨X, hX⟩ : ∃ X, X = w3.drew := ⟨_, rfl⟩
      have gX : w3.grownBy X none := by rw [hX]; exact ⟨rfl, rfl, rfl, Nat.le_refl _, fun _ _ _ => rfl⟩
      have HSX := hide (HSC.out.keep gX)
      have HPX := hide (HPO.out.keep gX)
      have GXX := hide (grown_trans GCC.out gX)
      have hXs := GXX.out.size
      obtain ⟨I, hI⟩ : ∃ I : World → Prop, I = (fun U : World => U.cell? ⟨w.heap.size, 0, none⟩ = some (.int .i64 kk) ∧ U.cell? ⟨w.heap.size, 1, none⟩ = some (.slice la p.lead.length lc) ∧ U.cell? ⟨w.heap.size, 2, none⟩ = some (.bool false) ∧ U.cell? ⟨w.heap.size, 3, none⟩ = some (.slice ka p.key.length kc) ∧ U.cell? ⟨w.heap.size, 4, none⟩ = some (.slice xa p.text.length xc) ∧ U.cell? ⟨w.heap.size, 5, none⟩ = some (.slice ua p.units.length uc) ∧ U.cell? ⟨w.heap.size, 6, none⟩ = some (.int .i64 p.cnt) ∧ U.cell? ⟨w.heap.size, 7, none⟩ = some (.slice ta p.tail.length tc) ∧ U.cell? ⟨bs, 2 + kk, none⟩ = some (.func (.func f) first caps)) := ⟨_, rfl⟩
      have HI0 : I X := by rw [hI]; obtain ⟨n0, n1, n2, n3, n4, n5, n6, n7⟩ := NB.out; exact ⟨GXX.out.cell n0 (by simp), GXX.out.cell n1 (by simp), GXX.out.cell n2 (by simp), GXX.out.cell n3 (by simp), GXX.out.cell n4 (by simp), GXX.out.cell n5 (by simp), GXX.out.cell n6 (by simp), GXX.out.cell n7 (by simp), HFV.out X _ HSX.out.shp⟩
      have kpI : ∀ (U U' : World) (nvU : Value) (r : Option Nat), I U → U.grownBy U' r → some w.heap.size ≠ r → Shp U' bs nvU ind → I U' := fun U U' nvU r h g hr hsh => by rw [hI] at h ⊢; obtain ⟨n0, n1, n2, n3, n4, n5, n6, n7, _⟩ := h; exact ⟨g.cell n0 hr, g.cell n1 hr, g.cell n2 hr, g.cell n3 hr, g.cell n4 hr, g.cell n5 hr, g.cell n6 hr, g.cell n7 hr, HFV.out U' _ hsh⟩
      have gWX := grown_mix GW2.out GXX.out (fun x e => by cases e)
      have HCV := hide (HVV.out X (.slice (some ⟨b, off, none⟩) 0 0) (.slice la p.lead.length lc) (.slice ka p.key.length kc) (.slice xa p.text.length xc) (.slice ua p.units.length uc) (.slice ta p.tail.length tc) HSX.out (HP.out.rl.beside gWX hrow) (HP.out.rk.beside gWX hrow) HP.out.sk (HP.out.rx.beside gWX hrow) HP.out.sx (HP.out.ru.beside gWX hrow) HP.out.su (HP.out.rt.beside gWX hrow))
      have hk7 : (kk : Int) < 7 := by omega
      have GWX := hide gWX
      clear gWX
      go_wp2
      refine region_anyI I (fun _ => false) (by kernel_rfl) ?_
      rw [← hX]
      clear hX gX
      show anyI _ _ _ _ _ _ 13 (Array.replicate 13 false) _ _
      refine anyI_take (i := 0) (.slice pa LX pc) rfl (by kernel_rfl) (by kernel_rfl) (by kernel_rfl) (by kernel_rfl) (fun _ _ _ h => h) HI0 (yldI rfl (fun U hU => by go_simp)) ?_
      refine anyI_take (i := 1) (.pointer (some ⟨bs, 0, none⟩)) rfl (by kernel_rfl) (by kernel_rfl) (by kernel_rfl) (by kernel_rfl) (fun _ _ _ h => h) HI0 (yldI rfl (fun U hU => by go_simp)) ?_
      refine anyI_take (i := 2) (.pointer (some ⟨w.heap.size, 0, none⟩)) rfl (by kernel_rfl) (by kernel_rfl) (by kernel_rfl) (by kernel_rfl) (fun _ _ _ h => h) HI0 (yldI rfl (fun U hU => by go_simp)) ?_
      refine anyI_take (i := 3) (.int .i64 kk) rfl (by kernel_rfl) (by kernel_rfl) (by kernel_rfl) (by kernel_rfl) (fun _ _ _ h => h) HI0 (yldI rfl (fun U hU => by rw [hI] at hU; obtain ⟨h0, h1, h2, h3, h4, h5, h6, h7, h8⟩ := hU; go_simp)) ?_
      refine anyI_take (i := 4) (.pointer (some ⟨bs, 0, none⟩)) rfl (by kernel_rfl) (by kernel_rfl) (by kernel_rfl) (by kernel_rfl) (fun _ _ _ h => h) HI0 (yldI rfl (fun U hU => by go_simp)) ?_
      refine anyI_take (i := 5) (.pointer (some ⟨bs, 2, none⟩)) rfl (by kernel_rfl) (by kernel_rfl) (by kernel_rfl) (by kernel_rfl) (fun _ _ _ h => h) HI0 (yldI rfl (fun U hU => by go_simp)) ?_
      refine anyI_take (i := 6) (.pointer (some ⟨bs, 2 + kk, none⟩)) rfl (by kernel_rfl) (by kernel_rfl) (by kernel_rfl) (by kernel_rfl) (fun _ _ _ h => h) HI0 (yldI rfl (fun U hU => by go_simp)) ?_
      refine anyI_take (i := 7) (.func (.func f) first caps) rfl (by kernel_rfl) (by kernel_rfl) (by kernel_rfl) (by kernel_rfl) (fun _ _ _ h => h) HI0 (yldI rfl (fun U hU => by rw [hI] at hU; obtain ⟨h0, h1, h2, h3, h4, h5, h6, h7, h8⟩ := hU; go_simp)) ?_
      refine anyI_take (i := 8) (.agg #[.int .i64 kk, .slice la p.lead.length lc, .bool false, .slice ka p.key.length kc, .slice xa p.text.length xc, .slice ua p.units.length uc, .int .i64 p.cnt, .slice ta p.tail.length tc]) rfl (by kernel_rfl) (by kernel_rfl) (by kernel_rfl) (by kernel_rfl) (fun _ _ _ h => h) HI0 (yldI rfl (fun U hU => by rw [hI] at hU; obtain ⟨h0, h1, h2, h3, h4, h5, h6, h7, h8⟩ := hU; go_simp)) ?_
      generalize hG : Act.put _ _ _ = A0
      simp [Act.put] at hG
      subst hG
      refine anyI_one (i := 9) (by kernel_rfl) (wpOp_call rfl rfl (by go_simp) HCV.out ?_)
      rintro e w7 ⟨f7, caps7, nv7, rfl, hp7, hs7, g7⟩
      have HI1 := kpI X w7 nv7 (some bs) HI0 g7 (by simp; omega) hs7.shp
      refine ⟨_, rfl, .inr HI1, ?_⟩
      have hpr := pa_oneB g7.size hp7
      have gA := World.grownBy_alloc w7 (Obj.cells #[.func (.func f7) #[] caps7] 51) none
      have HI2 := kpI _ _ nv7 none HI1 gA (by simp) (hs7.shp.keep gA)
      have oI := (HPX.out.row g7 (by omega)).keep gA
      have s7 := g7.size
      obtain ⟨v8, w8, run8, o8, g8⟩ := append_parts W2.heap.size _ _ _ _ _ _ oI hpr (fun k hk => ⟨by have := hk.1; omega, hk.2, fun e => by have h1 := hk.1; have h2 := (HPX.out.lt k e).2; omega⟩) (by simp; omega) (by rw [hLX]; simp; omega)
      obtain ⟨a8, c8, hv8⟩ := o8.sl
      have hL8 : (befP p.lead ++ [vd]).length = LX + 1 := by rw [List.length_append, hLX]; rfl
      rw [hL8] at hv8
      have hoX : ∀ x, (Value.slice pa LX pc).ownBlock = some x → W2.heap.size ≤ x := fun x e => (HPX.out.lt x e).1
      have hs8 : Sx bs B ind m w8 nv7 R2 := sx_row (hs7.keep gA) g8 (fun x e => by have := hoX x e; omega) hB hbs
      have HI3 := kpI _ _ nv7 _ HI2 g8 (fun e => by have := hoX _ e.symm; omega) hs8.shp
      have HS8 := hide hs8
      have HG8 := hide (grown_mix (grown_mix (grown_mix GWX.out g7 (fun x e => by cases e; exact .inr rfl)) gA (fun x e => by cases e)) g8 (fun x e => .inl (by have := hoX x e; omega)))
      have HO8 : Hid (PoL w.heap.size w8 v8 (befP p.lead ++ (keyP p ++ [vd]))) := by
        unfold Hid
        rw [HKP.out]
        have hfin := o8.base (B' := w.heap.size) (by omega)
        simpa using hfin
      subst hv8
      clear o8 g8 hpr gA oI hs8 hs7 g7 hp7 kpI hoX HCV
      refine anyI_one (i := 10) (by kernel_rfl) (wpOp_val (w' := w7.alloc (Obj.cells #[.func (.func f7) #[] caps7] 51)) (v := .slice (some ⟨w7.heap.size, 0, none⟩) 1 1) rfl rfl (by go_simp) ⟨.inr HI2, ?_⟩)
      refine anyI_one (i := 11) (by kernel_rfl) (wpOp_val (w' := w8) (v := .slice a8 (LX + 1) c8) rfl rfl (by go_simp) ⟨.inr HI3, ?_⟩)
      refine anyI_one (i := 12) (by kernel_rfl) (wpOp_val (w' := w8) (v := .slice a8 (LX + 1) c8) rfl rfl (by go_simp) ⟨.inr HI3, ?_⟩)
      refine anyI_done (by kernel_rfl) ?_ _
      subst hI
      clear HI0 HI1 HI2 HI3 run8
      go_wp2
      go_ret
      exact ⟨_, nv7, rfl, HO8.out, HS8.out, HG8.out⟩
  · have hcne : (cap == 1) = false := by simpa using hcap
    have HVR : RdN B w (.slice (some ⟨b, off + 8, none⟩) R.length (cap - 1)) R := RdN.tail (cap := cap) HS.out.rd (some ⟨b, off + 8, none⟩) (cap - 1) (fun _ => rfl) ⟨by omega, by have := hcc.2; omega⟩
    cases hmem : p.mem with
    | true =>
      rw [hmem] at z2
      obtain ⟨W1, hW1⟩ : ∃ W1, W1 = w.alloc (Obj.cells #[.int .i64 kk, .slice la p.lead.length lc, .bool true, .slice ka p.key.length kc, .slice xa p.text.length xc, .slice ua p.units.length uc, .int .i64 p.cnt, .slice ta p.tail.length tc] 75) := ⟨_, rfl⟩
      have gW1 : w.grownBy W1 none := by rw [hW1]; exact World.grownBy_alloc _ _ _
      have sW1 : W1.heap.size = w.heap.size + 1 := by rw [hW1]; simp
      have c0' := gW1.cell c0 (by simp)
      have fz' : W1.frozen? ⟨bs, 0, none⟩ = false := by rw [World.frozen?_of_block (gW1.block bs (by omega) (by simp))]; exact fz
      obtain ⟨W2, hW2⟩ : ∃ W2, W2 = W1.setCell ⟨bs, 0, none⟩ (.slice (some ⟨b, off + 8, none⟩) R.length (cap - 1)) := ⟨_, rfl⟩
      have gS : W1.grownBy W2 (some bs) := by rw [hW2]; exact ⟨rfl, rfl, rfl, by simp, fun i _ hn => Below.heap_setCell _ _ _ _ (fun e => hn (by rw [e]))⟩
      have gW2 := grown_mix (grown_some (r := some bs) gW1) gS (fun x e => by cases e; exact .inr rfl)
      have GW2 := hide gW2
      have hrow : ∀ k, some bs = some k → B ≤ k := fun k e => by cases e; exact hB
      have hSx2 : Sx bs B ind m W2 (.slice (some ⟨b, off + 8, none⟩) R.length (cap - 1)) R := by rw [hW2]; exact sx_turn (HS.out.keep gW1) HVR gW1 hB hbs
      have HSC := hide hSx2
      have NB : Hid (W2.cell? ⟨w.heap.size, 0, none⟩ = some (.int .i64 kk) ∧ W2.cell? ⟨w.heap.size, 1, none⟩ = some (.slice la p.lead.length lc) ∧ W2.cell? ⟨w.heap.size, 2, none⟩ = some (.bool true) ∧ W2.cell? ⟨w.heap.size, 3, none⟩ = some (.slice ka p.key.length kc) ∧ W2.cell? ⟨w.heap.size, 4, none⟩ = some (.slice xa p.text.length xc) ∧ W2.cell? ⟨w.heap.size, 5, none⟩ = some (.slice ua p.units.length uc) ∧ W2.cell? ⟨w.heap.size, 6, none⟩ = some (.int .i64 p.cnt) ∧ W2.cell? ⟨w.heap.size, 7, none⟩ = some (.slice ta p.tail.length tc)) := by
        have n : ∀ (j : Nat) (v : Value), W1.cell? ⟨w.heap.size, j, none⟩ = some v → W2.cell? ⟨w.heap.size, j, none⟩ = some v := fun j v h => gS.cell h (by simp; omega)
        unfold Hid
        refine ⟨n _ _ ?_, n _ _ ?_, n _ _ ?_, n _ _ ?_, n _ _ ?_, n _ _ ?_, n _ _ ?_, n _ _ ?_⟩ <;> (rw [hW1]; simp [go_sem])
      have hs2 := gW2.size
      have sW2 : W2.heap.size = w.heap.size + 1 := by rw [hW2]; simp [sW1]
      have HAB := hide (aboveLines_any (.slice la p.lead.length lc) p.lead m W2 ((HP.out.rl.beside gW2 hrow).wide (by omega)) hpo.l.2 (by omega) hSx2.mx)
      have hmb := mess_bef p.lead
      have hmbl := mess_len (befP p.lead)
      have n1 := NB.out.2.1
      have HW2 := hide hW2
      have HW1 := hide hW1
      rw [hW2, hW1] at HAB
      rw [hW2, hW1] at n1
      rw [hW1] at c0' fz'
      clear gW1 gS gW2 hSx2 hW2 hW1 HVR
      go_enter Tryz.func50, Tryz.ntmps50
      go_wp2_with fail
      refine HAB.out.mono ?_
      rintro e w3 ⟨v3, rfl, o3, g3⟩
      have hW2 := HW2.out
      have hW1 := HW1.out
      rw [hW1] at hW2
      rw [← hW2] at o3 g3
      clear hW1 hW2
      obtain ⟨n0, n1', n2, n3, n4, n5, n6, n7⟩ := NB.out
      have y2 := g3.cell n2 (by simp)
      have y3 := g3.cell n3 (by simp)
      clear n0 n1' n2 n3 n4 n5 n6 n7 n1 c0' fz' HAB
      obtain ⟨pa, pc, hv3⟩ := o3.sl
      generalize hLX : (befP p.lead).length = LX at *
      have HPO := hide o3
      have HSC3 := hide (HSC.out.keep g3)
      have GCC3 := hide g3
      subst hv3
      clear o3 HSC
      have hkl : 6 * p.key.length ≤ 2000000 := by have := hpw; unfold wN at this; omega
      have hkey := key_len p.key
      have g23 := grown_mix GW2.out g3 (fun x e => by cases e)
      have HKF := hide (keyForm_any (.slice ka p.key.length kc) p.key w3 HSC3.out.tab ((HP.out.rk.beside g23 hrow).wideC (by have := g23.size; omega)) (by omega))
      have s3 := g3.size
      clear g3 g23
      go_wp2_with fail
      refine HKF.out.mono ?_
      rintro e w4 ⟨rfl, g4⟩
      have hlim : ¬ 9223372036854775807 < (strOfNums (keyB p.key)).size + 2 := by rw [strOfNums_size]; omega
      have HTX : Hid (∀ U : World, _) := fun U => textPart_any (keyB p.key ++ [58, 32]) (by intro z hz; rcases List.mem_append.1 hz with h | h; exact keyB_bys p.key z h; simp at h; omega) (by simp; omega) U
      have ecat : strOfNums (keyB p.key) ++ { data := #[58, 32] } = strOfNums (keyB p.key ++ [58, 32]) := str_app (keyB p.key) [58, 32]
      rw [← ecat] at HTX
      have G4 := hide g4
      have HKP := hide (show keyP p = [textP (keyB p.key ++ [58, 32])] by unfold keyP; rw [hmem]; rfl)
      clear HKF g4 ecat y2 y3
      generalize hKS : strOfNums (keyB p.key) = KS at *
      go_wp2_with fail
      refine (HTX.out w4).mono ?_
      rintro e w5 ⟨f5, caps5, rfl, hp5, g5⟩
      have g35 := grown_trans G4.out g5
      have k5 := hp5.moreB (B := w3.heap.size) G4.out.size (World.grownBy.refl _ _)
      have hpr := pa_oneB g35.size k5
      have gA := World.grownBy_alloc w5 (Obj.cells #[.func (.func f5) #[] caps5] 51) none
      have s5 := g35.size
      obtain ⟨v6, w6, run6, o6, g6⟩ := append_parts W2.heap.size _ _ _ _ _ _ ((HPO.out.keep g35).keep gA) hpr (fun k hk => ⟨by have := hk.1; omega, hk.2, fun e => by have h1 := hk.1; have h2 := (HPO.out.lt k e).2; omega⟩) (by simp; omega) (by rw [hLX]; simp; omega)
      obtain ⟨pa6, pc6, hv6⟩ := o6.sl
      have hLX6 : (befP p.lead ++ [textP (keyB p.key ++ [58, 32])]).length = LX + 1 := by rw [List.length_append, hLX]; rfl
      rw [hLX6] at hv6
      have hoP : ∀ x, (Value.slice pa LX pc).ownBlock = some x → W2.heap.size ≤ x := fun x e => (HPO.out.lt x e).1
      have HSC := hide (sx_row ((HSC3.out.keep g35).keep gA) g6 (fun x e => by have := hoP x e; omega) hB hbs)
      have GCC := hide (grown_new (grown_trans GCC3.out (grown_trans g35 gA)) g6 (fun x e => hoP x e))
      have HPO6 := hide o6
      subst hv6
      clear o6 g6 hoP hpr gA g35 k5 hp5 g5 G4 HTX HPO hLX
      have hLX := hLX6
      clear hLX6
      obtain ⟨X, hX⟩ : ∃ X, X = w6.drew := ⟨_, rfl⟩
      have gX : w6.grownBy X none := by rw [hX]; exact ⟨rfl, rfl, rfl, Nat.le_refl _, fun _ _ _ => rfl⟩
      have HSX := hide (HSC.out.keep gX)
      have HPX := hide (HPO6.out.keep gX)
      have GXX := hide (grown_trans GCC.out gX)
      have hXs := GXX.out.size
      obtain ⟨I, hI⟩ : ∃ I : World → Prop, I = (fun U : World => U.cell? ⟨w.heap.size, 0, none⟩ = some (.int .i64 kk) ∧ U.cell? ⟨w.heap.size, 1, none⟩ = some (.slice la p.lead.length lc) ∧ U.cell? ⟨w.heap.size, 2, none⟩ = some (.bool true) ∧ U.cell? ⟨w.heap.size, 3, none⟩ = some (.slice ka p.key.length kc) ∧ U.cell? ⟨w.heap.size, 4, none⟩ = some (.slice xa p.text.length xc) ∧ U.cell? ⟨w.heap.size, 5, none⟩ = some (.slice ua p.units.length uc) ∧ U.cell? ⟨w.heap.size, 6, none⟩ = some (.int .i64 p.cnt) ∧ U.cell? ⟨w.heap.size, 7, none⟩ = some (.slice ta p.tail.length tc) ∧ U.cell? ⟨bs, 2 + kk, none⟩ = some (.func (.func f) first caps)) := ⟨_, rfl⟩
      have HI0 : I X := by rw [hI]; obtain ⟨n0, n1, n2, n3, n4, n5, n6, n7⟩ := NB.out; exact ⟨GXX.out.cell n0 (by simp), GXX.out.cell n1 (by simp), GXX.out.cell n2 (by simp), GXX.out.cell n3 (by simp), GXX.out.cell n4 (by simp), GXX.out.cell n5 (by simp), GXX.out.cell n6 (by simp), GXX.out.cell n7 (by simp), HFV.out X _ HSX.out.shp⟩
      have kpI : ∀ (U U' : World) (nvU : Value) (r : Option Nat), I U → U.grownBy U' r → some w.heap.size ≠ r → Shp U' bs nvU ind → I U' := fun U U' nvU r h g hr hsh => by rw [hI] at h ⊢; obtain ⟨n0, n1, n2, n3, n4, n5, n6, n7, _⟩ := h; exact ⟨g.cell n0 hr, g.cell n1 hr, g.cell n2 hr, g.cell n3 hr, g.cell n4 hr, g.cell n5 hr, g.cell n6 hr, g.cell n7 hr, HFV.out U' _ hsh⟩
      have gWX := grown_mix GW2.out GXX.out (fun x e => by cases e)
      have HCV := hide (HVV.out X (.slice (some ⟨b, off + 8, none⟩) R.length (cap - 1)) (.slice la p.lead.length lc) (.slice ka p.key.length kc) (.slice xa p.text.length xc) (.slice ua p.units.length uc) (.slice ta p.tail.length tc) HSX.out (HP.out.rl.beside gWX hrow) (HP.out.rk.beside gWX hrow) HP.out.sk (HP.out.rx.beside gWX hrow) HP.out.sx (HP.out.ru.beside gWX hrow) HP.out.su (HP.out.rt.beside gWX hrow))
      have hk7 : (kk : Int) < 7 := by omega
      have GWX := hide gWX
      clear gWX
      go_wp2
      refine region_anyI I (fun _ => false) (by kernel_rfl) ?_
      rw [← hX]
      clear hX gX
      show anyI _ _ _ _ _ _ 13 (Array.replicate 13 false) _ _
      refine anyI_take (i := 0) (.slice pa6 (LX + 1) pc6) rfl (by kernel_rfl) (by kernel_rfl) (by kernel_rfl) (by kernel_rfl) (fun _ _ _ h => h) HI0 (yldI rfl (fun U hU => by go_simp)) ?_
      refine anyI_take (i := 1) (.pointer (some ⟨bs, 0, none⟩)) rfl (by kernel_rfl) (by kernel_rfl) (by kernel_rfl) (by kernel_rfl) (fun _ _ _ h => h) HI0 (yldI rfl (fun U hU => by go_simp)) ?_
      refine anyI_take (i := 2) (.pointer (some ⟨w.heap.size, 0, none⟩)) rfl (by kernel_rfl) (by kernel_rfl) (by kernel_rfl) (by kernel_rfl) (fun _ _ _ h => h) HI0 (yldI rfl (fun U hU => by go_simp)) ?_
      refine anyI_take (i := 3) (.int .i64 kk) rfl (by kernel_rfl) (by kernel_rfl) (by kernel_rfl) (by kernel_rfl) (fun _ _ _ h => h) HI0 (yldI rfl (fun U hU => by rw [hI] at hU; obtain ⟨h0, h1, h2, h3, h4, h5, h6, h7, h8⟩ := hU; go_simp)) ?_
      refine anyI_take (i := 4) (.pointer (some ⟨bs, 0, none⟩)) rfl (by kernel_rfl) (by kernel_rfl) (by kernel_rfl) (by kernel_rfl) (fun _ _ _ h => h) HI0 (yldI rfl (fun U hU => by go_simp)) ?_
      refine anyI_take (i := 5) (.pointer (some ⟨bs, 2, none⟩)) rfl (by kernel_rfl) (by kernel_rfl) (by kernel_rfl) (by kernel_rfl) (fun _ _ _ h => h) HI0 (yldI rfl (fun U hU => by go_simp)) ?_
      refine anyI_take (i := 6) (.pointer (some ⟨bs, 2 + kk, none⟩)) rfl (by kernel_rfl) (by kernel_rfl) (by kernel_rfl) (by kernel_rfl) (fun _ _ _ h => h) HI0 (yldI rfl (fun U hU => by go_simp)) ?_
      refine anyI_take (i := 7) (.func (.func f) first caps) rfl (by kernel_rfl) (by kernel_rfl) (by kernel_rfl) (by kernel_rfl) (fun _ _ _ h => h) HI0 (yldI rfl (fun U hU => by rw [hI] at hU; obtain ⟨h0, h1, h2, h3, h4, h5, h6, h7, h8⟩ := hU; go_simp)) ?_
      refine anyI_take (i := 8) (.agg #[.int .i64 kk, .slice la p.lead.length lc, .bool true, .slice ka p.key.length kc, .slice xa p.text.length xc, .slice ua p.units.length uc, .int .i64 p.cnt, .slice ta p.tail.length tc]) rfl (by kernel_rfl) (by kernel_rfl) (by kernel_rfl) (by kernel_rfl) (fun _ _ _ h => h) HI0 (yldI rfl (fun U hU => by rw [hI] at hU; obtain ⟨h0, h1, h2, h3, h4, h5, h6, h7, h8⟩ := hU; go_simp)) ?_
      generalize hG : Act.put _ _ _ = A0
      simp [Act.put] at hG
      subst hG
      refine anyI_one (i := 9) (by kernel_rfl) (wpOp_call rfl rfl (by go_simp) HCV.out ?_)
      rintro e w7 ⟨f7, caps7, nv7, rfl, hp7, hs7, g7⟩
      have HI1 := kpI X w7 nv7 (some bs) HI0 g7 (by simp; omega) hs7.shp
      refine ⟨_, rfl, .inr HI1, ?_⟩
      have hpr := pa_oneB g7.size hp7
      have gA := World.grownBy_alloc w7 (Obj.cells #[.func (.func f7) #[] caps7] 51) none
      have HI2 := kpI _ _ nv7 none HI1 gA (by simp) (hs7.shp.keep gA)
      have oI := (HPX.out.row g7 (by omega)).keep gA
      have s7 := g7.size
      obtain ⟨v8, w8, run8, o8, g8⟩ := append_parts W2.heap.size _ _ _ _ _ _ oI hpr (fun k hk => ⟨by have := hk.1; omega, hk.2, fun e => by have h1 := hk.1; have h2 := (HPX.out.lt k e).2; omega⟩) (by simp; omega) (by rw [hLX]; simp; omega)
      obtain ⟨a8, c8, hv8⟩ := o8.sl
      have hL8 : ((befP p.lead ++ [textP (keyB p.key ++ [58, 32])]) ++ [vd]).length = (LX + 1) + 1 := by rw [List.length_append, hLX]; rfl
      rw [hL8] at hv8
      have hoX : ∀ x, (Value.slice pa6 (LX + 1) pc6).ownBlock = some x → W2.heap.size ≤ x := fun x e => (HPX.out.lt x e).1
      have hs8 : Sx bs B ind m w8 nv7 R2 := sx_row (hs7.keep gA) g8 (fun x e => by have := hoX x e; omega) hB hbs
      have HI3 := kpI _ _ nv7 _ HI2 g8 (fun e => by have := hoX _ e.symm; omega) hs8.shp
      have HS8 := hide hs8
      have HG8 := hide (grown_mix (grown_mix (grown_mix GWX.out g7 (fun x e => by cases e; exact .inr rfl)) gA (fun x e => by cases e)) g8 (fun x e => .inl (by have := hoX x e; omega)))
      have HO8 : Hid (PoL w.heap.size w8 v8 (befP p.lead ++ (keyP p ++ [vd]))) := by
        unfold Hid
        rw [HKP.out]
        have hfin := o8.base (B' := w.heap.size) (by omega)
        simpa using hfin
      subst hv8
      clear o8 g8 hpr gA oI hs8 hs7 g7 hp7 kpI hoX HCV
      refine anyI_one (i := 10) (by kernel_rfl) (wpOp_val (w' := w7.alloc (Obj.cells #[.func (.func f7) #[] caps7] 51)) (v := .slice (some ⟨w7.heap.size, 0, none⟩) 1 1) rfl rfl (by go_simp) ⟨.inr HI2, ?_⟩)
      refine anyI_one (i := 11) (by kernel_rfl) (wpOp_val (w' := w8) (v := .slice a8 ((LX + 1) + 1) c8) rfl rfl (by go_simp) ⟨.inr HI3, ?_⟩)
      refine anyI_one (i := 12) (by kernel_rfl) (wpOp_val (w' := w8) (v := .slice a8 ((LX + 1) + 1) c8) rfl rfl (by go_simp) ⟨.inr HI3, ?_⟩)
      refine anyI_done (by kernel_rfl) ?_ _
      subst hI
      clear HI0 HI1 HI2 HI3 run8
      go_wp2
      go_ret
      exact ⟨_, nv7, rfl, HO8.out, HS8.out, HG8.out⟩
    | false =>
      rw [hmem] at z2
      obtain ⟨W1, hW1⟩ : ∃ W1, W1 = w.alloc (Obj.cells #[.int .i64 kk, .slice la p.lead.length lc, .bool false, .slice ka p.key.length kc, .slice xa p.text.length xc, .slice ua p.units.length uc, .int .i64 p.cnt, .slice ta p.tail.length tc] 75) := ⟨_, rfl⟩
      have gW1 : w.grownBy W1 none := by rw [hW1]; exact World.grownBy_alloc _ _ _
      have sW1 : W1.heap.size = w.heap.size + 1 := by rw [hW1]; simp
      have c0' := gW1.cell c0 (by simp)
      have fz' : W1.frozen? ⟨bs, 0, none⟩ = false := by rw [World.frozen?_of_block (gW1.block bs (by omega) (by simp))]; exact fz
      obtain ⟨W2, hW2⟩ : ∃ W2, W2 = W1.setCell ⟨bs, 0, none⟩ (.slice (some ⟨b, off + 8, none⟩) R.length (cap - 1)) := ⟨_, rfl⟩
      have gS : W1.grownBy W2 (some bs) := by rw [hW2]; exact ⟨rfl, rfl, rfl, by simp, fun i _ hn => Below.heap_setCell _ _ _ _ (fun e => hn (by rw [e]))⟩
      have gW2 := grown_mix (grown_some (r := some bs) gW1) gS (fun x e => by cases e; exact .inr rfl)
      have GW2 := hide gW2
      have hrow : ∀ k, some bs = some k → B ≤ k := fun k e => by cases e; exact hB
      have hSx2 : Sx bs B ind m W2 (.slice (some ⟨b, off + 8, none⟩) R.length (cap - 1)) R := by rw [hW2]; exact sx_turn (HS.out.keep gW1) HVR gW1 hB hbs
      have HSC := hide hSx2
      have NB : Hid (W2.cell? ⟨w.heap.size, 0, none⟩ = some (.int .i64 kk) ∧ W2.cell? ⟨w.heap.size, 1, none⟩ = some (.slice la p.lead.length lc) ∧ W2.cell? ⟨w.heap.size, 2, none⟩ = some (.bool false) ∧ W2.cell? ⟨w.heap.size, 3, none⟩ = some (.slice ka p.key.length kc) ∧ W2.cell? ⟨w.heap.size, 4, none⟩ = some (.slice xa p.text.length xc) ∧ W2.cell? ⟨w.heap.size, 5, none⟩ = some (.slice ua p.units.length uc) ∧ W2.cell? ⟨w.heap.size, 6, none⟩ = some (.int .i64 p.cnt) ∧ W2.cell? ⟨w.heap.size, 7, none⟩ = some (.slice ta p.tail.length tc)) := by
        have n : ∀ (j : Nat) (v : Value), W1.cell? ⟨w.heap.size, j, none⟩ = some v → W2.cell? ⟨w.heap.size, j, none⟩ = some v := fun j v h => gS.cell h (by simp; omega)
        unfold Hid
        refine ⟨n _ _ ?_, n _ _ ?_, n _ _ ?_, n _ _ ?_, n _ _ ?_, n _ _ ?_, n _ _ ?_, n _ _ ?_⟩ <;> (rw [hW1]; simp [go_sem])
      have hs2 := gW2.size
      have sW2 : W2.heap.size = w.heap.size + 1 := by rw [hW2]; simp [sW1]
      have HAB := hide (aboveLines_any (.slice la p.lead.length lc) p.lead m W2 ((HP.out.rl.beside gW2 hrow).wide (by omega)) hpo.l.2 (by omega) hSx2.mx)
      have hmb := mess_bef p.lead
      have hmbl := mess_len (befP p.lead)
      have n1 := NB.out.2.1
      have HW2 := hide hW2
      have HW1 := hide hW1
      rw [hW2, hW1] at HAB
      rw [hW2, hW1] at n1
      rw [hW1] at c0' fz'
      clear gW1 gS gW2 hSx2 hW2 hW1 HVR
      go_enter Tryz.func50, Tryz.ntmps50
      go_wp2_with fail
      refine HAB.out.mono ?_
      rintro e w3 ⟨v3, rfl, o3, g3⟩
      have hW2 := HW2.out
      have hW1 := HW1.out
      rw [hW1] at hW2
      rw [← hW2] at o3 g3
      clear hW1 hW2
      obtain ⟨n0, n1', n2, n3, n4, n5, n6, n7⟩ := NB.out
      have y2 := g3.cell n2 (by simp)
      have y3 := g3.cell n3 (by simp)
      clear n0 n1' n2 n3 n4 n5 n6 n7 n1 c0' fz' HAB
      obtain ⟨pa, pc, hv3⟩ := o3.sl
      generalize hLX : (befP p.lead).length = LX at *
      have HPO := hide o3
      have HSC3 := hide (HSC.out.keep g3)
      have GCC3 := hide g3
      subst hv3
      clear o3 HSC
      have HSC := HSC3
      have GCC := GCC3
      clear g3
      have HKP := hide (show keyP p = [] by unfold keyP; rw [hmem]; rfl)
      obtain ⟨X, hX⟩ : ∃ X, X = w3.drew := ⟨_, rfl⟩
      have gX : w3.grownBy X none := by rw [hX]; exact ⟨rfl, rfl, rfl, Nat.le_refl _, fun _ _ _ => rfl⟩
      have HSX := hide (HSC.out.keep gX)
      have HPX := hide (HPO.out.keep gX)
      have GXX := hide (grown_trans GCC.out gX)
      have hXs := GXX.out.size
      obtain ⟨I, hI⟩ : ∃ I : World → Prop, I = (fun U : World => U.cell? ⟨w.heap.size, 0, none⟩ = some (.int .i64 kk) ∧ U.cell? ⟨w.heap.size, 1, none⟩ = some (.slice la p.lead.length lc) ∧ U.cell? ⟨w.heap.size, 2, none⟩ = some (.bool false) ∧ U.cell? ⟨w.heap.size, 3, none⟩ = some (.slice ka p.key.length kc) ∧ U.cell? ⟨w.heap.size, 4, none⟩ = some (.slice xa p.text.length xc) ∧ U.cell? ⟨w.heap.size, 5, none⟩ = some (.slice ua p.units.length uc) ∧ U.cell? ⟨w.heap.size, 6, none⟩ = some (.int .i64 p.cnt) ∧ U.cell? ⟨w.heap.size, 7, none⟩ = some (.slice ta p.tail.length tc) ∧ U.cell? ⟨bs, 2 + kk, none⟩ = some (.func (.func f) first caps)) := ⟨_, rfl⟩
      have HI0 : I X := by rw [hI]; obtain ⟨n0, n1, n2, n3, n4, n5, n6, n7⟩ := NB.out; exact ⟨GXX.out.cell n0 (by simp), GXX.out.cell n1 (by simp), GXX.out.cell n2 (by simp), GXX.out.cell n3 (by simp), GXX.out.cell n4 (by simp), GXX.out.cell n5 (by simp), GXX.out.cell n6 (by simp), GXX.out.cell n7 (by simp), HFV.out X _ HSX.out.shp⟩
      have kpI : ∀ (U U' : World) (nvU : Value) (r : Option Nat), I U → U.grownBy U' r → some w.heap.size ≠ r → Shp U' bs nvU ind → I U' := fun U U' nvU r h g hr hsh => by rw [hI] at h ⊢; obtain ⟨n0, n1, n2, n3, n4, n5, n6, n7, _⟩ := h; exact ⟨g.cell n0 hr, g.cell n1 hr, g.cell n2 hr, g.cell n3 hr, g.cell n4 hr, g.cell n5 hr, g.cell n6 hr, g.cell n7 hr, HFV.out U' _ hsh⟩
      have gWX := grown_mix GW2.out GXX.out (fun x e => by cases e)
      have HCV := hide (HVV.out X (.slice (some ⟨b, off + 8, none⟩) R.length (cap - 1)) (.slice la p.lead.length lc) (.slice ka p.key.length kc) (.slice xa p.text.length xc) (.slice ua p.units.length uc) (.slice ta p.tail.length tc) HSX.out (HP.out.rl.beside gWX hrow) (HP.out.rk.beside gWX hrow) HP.out.sk (HP.out.rx.beside gWX hrow) HP.out.sx (HP.out.ru.beside gWX hrow) HP.out.su (HP.out.rt.beside gWX hrow))
      have hk7 : (kk : Int) < 7 := by omega
      have GWX := hide gWX
      clear gWX
      go_wp2
      refine region_anyI I (fun _ => false) (by kernel_rfl) ?_
      rw [← hX]
      clear hX gX
      show anyI _ _ _ _ _ _ 13 (Array.replicate 13 false) _ _
      refine anyI_take (i := 0) (.slice pa LX pc) rfl (by kernel_rfl) (by kernel_rfl) (by kernel_rfl) (by kernel_rfl) (fun _ _ _ h => h) HI0 (yldI rfl (fun U hU => by go_simp)) ?_
      refine anyI_take (i := 1) (.pointer (some ⟨bs, 0, none⟩)) rfl (by kernel_rfl) (by kernel_rfl) (by kernel_rfl) (by kernel_rfl) (fun _ _ _ h => h) HI0 (yldI rfl (fun U hU => by go_simp)) ?_
      refine anyI_take (i := 2) (.pointer (some ⟨w.heap.size, 0, none⟩)) rfl (by kernel_rfl) (by kernel_rfl) (by kernel_rfl) (by kernel_rfl) (fun _ _ _ h => h) HI0 (yldI rfl (fun U hU => by go_simp)) ?_
      refine anyI_take (i := 3) (.int .i64 kk) rfl (by kernel_rfl) (by kernel_rfl) (by kernel_rfl) (by kernel_rfl) (fun _ _ _ h => h) HI0 (yldI rfl (fun U hU => by rw [hI] at hU; obtain ⟨h0, h1, h2, h3, h4, h5, h6, h7, h8⟩ := hU; go_simp)) ?_
      refine anyI_take (i := 4) (.pointer (some ⟨bs, 0, none⟩)) rfl (by kernel_rfl) (by kernel_rfl) (by kernel_rfl) (by kernel_rfl) (fun _ _ _ h => h) HI0 (yldI rfl (fun U hU => by go_simp)) ?_
      refine anyI_take (i := 5) (.pointer (some ⟨bs, 2, none⟩)) rfl (by kernel_rfl) (by kernel_rfl) (by kernel_rfl) (by kernel_rfl) (fun _ _ _ h => h) HI0 (yldI rfl (fun U hU => by go_simp)) ?_
      refine anyI_take (i := 6) (.pointer (some ⟨bs, 2 + kk, none⟩)) rfl (by kernel_rfl) (by kernel_rfl) (by kernel_rfl) (by kernel_rfl) (fun _ _ _ h => h) HI0 (yldI rfl (fun U hU => by go_simp)) ?_
      refine anyI_take (i := 7) (.func (.func f) first caps) rfl (by kernel_rfl) (by kernel_rfl) (by kernel_rfl) (by kernel_rfl) (fun _ _ _ h => h) HI0 (yldI rfl (fun U hU => by rw [hI] at hU; obtain ⟨h0, h1, h2, h3, h4, h5, h6, h7, h8⟩ := hU; go_simp)) ?_
      refine anyI_take (i := 8) (.agg #[.int .i64 kk, .slice la p.lead.length lc, .bool false, .slice ka p.key.length kc, .slice xa p.text.length xc, .slice ua p.units.length uc, .int .i64 p.cnt, .slice ta p.tail.length tc]) rfl (by kernel_rfl) (by kernel_rfl) (by kernel_rfl) (by kernel_rfl) (fun _ _ _ h => h) HI0 (yldI rfl (fun U hU => by rw [hI] at hU; obtain ⟨h0, h1, h2, h3, h4, h5, h6, h7, h8⟩ := hU; go_simp)) ?_
      generalize hG : Act.put _ _ _ = A0
      simp [Act.put] at hG
      subst hG
      refine anyI_one (i := 9) (by kernel_rfl) (wpOp_call rfl rfl (by go_simp) HCV.out ?_)
      rintro e w7 ⟨f7, caps7, nv7, rfl, hp7, hs7, g7⟩
      have HI1 := kpI X w7 nv7 (some bs) HI0 g7 (by simp; omega) hs7.shp
      refine ⟨_, rfl, .inr HI1, ?_⟩
      have hpr := pa_oneB g7.size hp7
      have gA := World.grownBy_alloc w7 (Obj.cells #[.func (.func f7) #[] caps7] 51) none
      have HI2 := kpI _ _ nv7 none HI1 gA (by simp) (hs7.shp.keep gA)
      have oI := (HPX.out.row g7 (by omega)).keep gA
      have s7 := g7.size
      obtain ⟨v8, w8, run8, o8, g8⟩ := append_parts W2.heap.size _ _ _ _ _ _ oI hpr (fun k hk => ⟨by have := hk.1; omega, hk.2, fun e => by have h1 := hk.1; have h2 := (HPX.out.lt k e).2; omega⟩) (by simp; omega) (by rw [hLX]; simp; omega)
      obtain ⟨a8, c8, hv8⟩ := o8.sl
      have hL8 : (befP p.lead ++ [vd]).length = LX + 1 := by rw [List.length_append, hLX]; rfl
      rw [hL8] at hv8
      have hoX : ∀ x, (Value.slice pa LX pc).ownBlock = some x → W2.heap.size ≤ x := fun x e => (HPX.out.lt x e).1
      have hs8 : Sx bs B ind m w8 nv7 R2 := sx_row (hs7.keep gA) g8 (fun x e => by have := hoX x e; omega) hB hbs
      have HI3 := kpI _ _ nv7 _ HI2 g8 (fun e => by have := hoX _ e.symm; omega) hs8.shp
      have HS8 := hide hs8
      have HG8 := hide (grown_mix (grown_mix (grown_mix GWX.out g7 (fun x e => by cases e; exact .inr rfl)) gA (fun x e => by cases e)) g8 (fun x e => .inl (by have := hoX x e; omega)))
      have HO8 : Hid (PoL w.heap.size w8 v8 (befP p.lead ++ (keyP p ++ [vd]))) := by
        unfold Hid
        rw [HKP.out]
        have hfin := o8.base (B' := w.heap.size) (by omega)
        simpa using hfin
      subst hv8
      clear o8 g8 hpr gA oI hs8 hs7 g7 hp7 kpI hoX HCV
      refine anyI_one (i := 10) (by kernel_rfl) (wpOp_val (w' := w7.alloc (Obj.cells #[.func (.func f7) #[] caps7] 51)) (v := .slice (some ⟨w7.heap.size, 0, none⟩) 1 1) rfl rfl (by go_simp) ⟨.inr HI2, ?_⟩)
      refine anyI_one (i := 11) (by kernel_rfl) (wpOp_val (w' := w8) (v := .slice a8 (LX + 1) c8) rfl rfl (by go_simp) ⟨.inr HI3, ?_⟩)
      refine anyI_one (i := 12) (by kernel_rfl) (wpOp_val (w' := w8) (v := .slice a8 (LX + 1) c8) rfl rfl (by go_simp) ⟨.inr HI3, ?_⟩)
      refine anyI_done (by kernel_rfl) ?_ _
      subst hI
      clear HI0 HI1 HI2 HI3 run8
      go_wp2
      go_ret
      exact ⟨_, nv7, rfl, HO8.out, HS8.out, HG8.out⟩
end Go.Proofs.YtalkhnhhaiigiaaGreatDoor

