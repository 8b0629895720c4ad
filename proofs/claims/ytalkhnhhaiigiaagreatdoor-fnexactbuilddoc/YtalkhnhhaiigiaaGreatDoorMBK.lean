import Derived.Test.YtalkhnhhaiigiaaGreatDoorMAD
import Derived.Test.YtalkhnhhaiigiaaGreatDoorMAE
import Derived.Test.YtalkhnhhaiigiaaGreatDoorMAF
import Derived.Test.YtalkhnhhaiigiaaGreatDoorMAH
import Derived.Test.YtalkhnhhaiigiaaGreatDoorMAK
import Derived.Test.YtalkhnhhaiigiaaGreatDoorMAL
import Derived.Test.YtalkhnhhaiigiaaGreatDoorMBJ
namespace Go.Proofs.YtalkhnhhaiigiaaGreatDoor
open Go.RowKit
attribute [-go_sem] Builtin.append_

theorem str_app (a b : List Int) : strOfNums a ++ strOfNums b = strOfNums (a ++ b) := by
  apply ByteArray.ext
  simp [strOfNums, ByteArray.data_append]

set_option maxHeartbeats 2000000 in
set_option maxRecDepth 100000 in
theorem shapeComment_line (t : List Int) (tv : Value) (w : World) (hv : RdB w.heap.size w tv t) (hs : Sl tv t.length) (hb : Bys t) (hn : t.length ≤ 1000000) :
    Calls Tryz.prog 88 #[.agg #[.bool false, tv]] w fun e w' => ∃ f caps, e = .returned (.func (.func f) #[] caps) ∧ PartAt w' (fun k => w.heap.size ≤ k ∧ k < w'.heap.size) f caps (textP (47 :: 47 :: t)) ∧ w.grownBy w' none := by
  have hnot : ∀ (x : Bool) (w : World), (Op.unary .not (.bool x)).run Tryz.prog w = .ok (.bool (!x)) w := fun _ _ => rfl
  obtain ⟨a, cap, htv, _, _⟩ := hs
  subst htv
  have gA := World.grownBy_alloc w (Obj.cells #[.bool false, .slice a t.length cap] 83) none
  have hconv := conv_rd (hv.keep gA)
  have HT : Hid (∀ W : World, _) := fun W => textPart_any (47 :: 47 :: t) (by intro z hz; simp at hz; rcases hz with rfl | h; omega; exact hb z h) (by simp; omega) W
  have e : ({ data := #[47, 47] } : ByteArray) ++ strOfNums t = strOfNums (47 :: 47 :: t) := str_app [47, 47] t
  rw [← e] at HT
  have hlim : ¬ 9223372036854775807 < 2 + (strOfNums t).size := by rw [strOfNums_size]; omega
  have HG := hide gA
  clear hv gA e
  go_enter Tryz.func88, Tryz.ntmps88
  go_wp2_with fail
  refine (HT.out _).mono ?_
  rintro e w1 ⟨f, caps, rfl, hp, g⟩
  have HP := hide hp
  have G := hide (grown_trans HG.out g)
  clear HT hp g hconv
  go_wp2
  go_ret
  exact ⟨f, caps, rfl, HP.out.at (fun k h => ⟨by have := h.1; simp at this; omega, h.2⟩) (fun _ _ => rfl), G.out⟩

theorem spl_bys : ∀ (xs cur : List Int), Bys xs → Bys cur → ∀ l ∈ spl cur xs, Bys l
  | [], cur, _, hc, l, hl => by simp [spl] at hl; subst hl; exact hc
  | x :: xs, cur, hx, hc, l, hl => by
    simp only [spl] at hl
    have hxs : Bys xs := fun z hz => hx z (by simp [hz])
    split at hl
    · rcases List.mem_cons.1 hl with rfl | h
      · exact hc
      · exact spl_bys xs [] hxs (fun z hz => by simp at hz) l h
    · exact spl_bys xs (cur ++ [x]) hxs (fun z hz => by rcases List.mem_append.1 hz with h | h; exact hc z h; simp at h; subst h; exact hx _ (by simp)) l hl
theorem spl_lens (xs cur : List Int) : ∀ l ∈ spl cur xs, l.length ≤ cur.length + xs.length := by
  intro l hl
  have h := spl_lenL cur xs
  have : ∀ (ls : List (List Int)), l ∈ ls → l.length + 1 ≤ lenL ls := by
    intro ls
    induction ls with
    | nil => intro h; simp at h
    | cons m ls ih =>
      intro h
      simp only [lenL]
      rcases List.mem_cons.1 h with rfl | h
      · omega
      · have := ih h; omega
  have := this _ hl
  omega
theorem lenL_len (ls : List (List Int)) : ls.length ≤ lenL ls := by
  induction ls with
  | nil => simp
  | cons m ls ih => simp only [lenL, List.length_cons]; omega

set_option maxHeartbeats 4000000 in
set_option maxRecDepth 100000 in
theorem shapeComment_block (t : List Int) (tv : Value) (m : Int) (w : World) (hv : RdB w.heap.size w tv t) (hs : Sl tv t.length) (hb : Bys t) (hn : t.length ≤ 1000000) (hM : w.cell? ⟨1, 0, none⟩ = some (.int .i64 m)) :
    Calls Tryz.prog 88 #[.agg #[.bool true, tv]] w fun e w' => ∃ f caps, e = .returned (.func (.func f) #[] caps) ∧ PartAt w' (fun k => w.heap.size ≤ k ∧ k < w'.heap.size) f caps (rowP (rawR (spl [] (47 :: 42 :: t ++ [42, 47])))) ∧ w.grownBy w' none := by
  have hnot : ∀ (x : Bool) (w : World), (Op.unary .not (.bool x)).run Tryz.prog w = .ok (.bool (!x)) w := fun _ _ => rfl
  obtain ⟨a, cap, htv, _, _⟩ := hs
  subst htv
  have gA := World.grownBy_alloc w (Obj.cells #[.bool true, .slice a t.length cap] 83) none
  have hconv := conv_rd (hv.keep gA)
  have hbz : Bys (47 :: 42 :: t ++ [42, 47]) := by
    intro z hz
    simp at hz
    rcases hz with rfl | rfl | h | rfl | rfl
    · omega
    · omega
    · exact hb z h
    · omega
    · omega
  have hM' := gA.cell hM (by simp)
  have HS := hide (split_any (47 :: 42 :: t ++ [42, 47]) hbz m _ (by simp; omega) hM')
  have e : (({ data := #[47, 42] } : ByteArray) ++ strOfNums t) ++ { data := #[42, 47] } = strOfNums (47 :: 42 :: t ++ [42, 47]) := by
    have e1 := str_app [47, 42] t
    have e2 := str_app ([47, 42] ++ t) [42, 47]
    rw [← e1] at e2
    exact e2
  rw [← e] at HS
  have hlim : ¬ 9223372036854775807 < 2 + (strOfNums t).size := by rw [strOfNums_size]; omega
  have hlim2 : ¬ 9223372036854775807 < 2 + (strOfNums t).size + 2 := by rw [strOfNums_size]; omega
  have HL := hide (spl_bys (47 :: 42 :: t ++ [42, 47]) [] hbz (fun z hz => by simp at hz))
  have HLL := hide (spl_lens (47 :: 42 :: t ++ [42, 47]) [])
  have hnum := lenL_len (spl [] (47 :: 42 :: t ++ [42, 47]))
  rw [spl_lenL] at hnum
  simp only [List.length_nil, List.length_append, List.length_cons] at hnum
  have HG := hide gA
  have HM := hide hM
  clear hv gA e hM hM'
  obtain ⟨l0, ls, hls⟩ : ∃ l0 ls, spl [] (47 :: 42 :: t ++ [42, 47]) = l0 :: ls := by
    cases h : spl [] (47 :: 42 :: t ++ [42, 47]) with
    | nil => exact absurd h (spl_ne _ _)
    | cons l0 ls => exact ⟨l0, ls, rfl⟩
  rw [hls] at HS HL HLL hnum
  have HROW := hide (show rowP (rawR (spl [] (47 :: 42 :: t ++ [42, 47]))) = rowP (textP l0 :: rawT ls) by rw [hls, raw_eq])
  have h0 : Bys l0 := HL.out l0 (by simp)
  have h0l := HLL.out l0 (by simp)
  have HT0 : Hid (∀ W : World, _) := fun W => textPart_any l0 h0 (by simp at h0l; omega) W
  have HR5 : Hid (∀ W : World, _) := fun W => leafPart_any 5 W
  have HTL : Hid (∀ (j : Nat) (hj : j < ls.length) (W : World), _) := fun j hj W => textPart_any ls[j] (HL.out _ (by simp)) (by have := HLL.out ls[j] (by simp); simp at this; omega) W
  clear hls h0 h0l HL HLL
  go_enter Tryz.func88, Tryz.ntmps88
  go_wp2_with fail
  refine HS.out.mono ?_
  rintro e w1 ⟨rfl, hw1⟩
  have sA : (w.alloc (Obj.cells #[.bool true, .slice a t.length cap] 83)).heap.size = w.heap.size + 1 := by simp
  have hlc : ∀ (j : Nat) (l : List Int), (l0 :: ls)[j]? = some l → w1.cell? ⟨w.heap.size + 1, j, none⟩ = some (.string (strOfNums l)) := fun j l hj => by
    rw [← hw1, ← sA]
    have := World.cell?_alloc_mark (w.alloc (Obj.cells #[.bool true, .slice a t.length cap] 83)) (List.map Value.string (List.map strOfNums (l0 :: ls))).toArray 9 (0, 0) j
    rw [this]
    have e2 : ((l0 :: ls).map strOfNums).map Value.string = (l0 :: ls).map (fun l => Value.string (strOfNums l)) := by simp
    rw [e2]
    simp only [List.getElem?_toArray, List.getElem?_map, hj, Option.map_some]
  have g1 : w.grownBy w1 none := by rw [← hw1]; exact grown_trans HG.out (World.grownBy_alloc _ _ _)
  have s1 : w1.heap.size = w.heap.size + 2 := by rw [← hw1]; simp
  have HLC := hide hlc
  have hl0 := hlc 0 l0 rfl
  have G1 := hide g1
  have hll : (l0 :: ls).length = ls.length + 1 := rfl
  rw [sA, hll]
  rw [hll] at hnum
  have HTX := hide (HT0.out w1)
  clear HS hw1 hlc g1 HT0 hconv sA hll
  go_wp2_with fail
  refine HTX.out.mono ?_
  rintro e w2 ⟨f0, caps0, rfl, hp0, g2⟩
  have hpo := pol_one g2 hp0
  have g3 := World.grownBy_alloc w2 (Obj.cells #[.func (.func f0) #[] caps0] 51) none
  have HPO := hide hpo
  have G3 := hide (grown_trans g2 g3)
  have hls2 : ∀ j, j < ls.length → w1.cell? ⟨w.heap.size + 1, 1 + j, none⟩ = some (.string (strOfNums (ls[j]?.getD []))) := fun j hj => by
    have h1 := HLC.out (1 + j) (ls[j]'hj) (by rw [Nat.add_comm]; simp [hj])
    rw [h1]
    simp [hj]
  clear HTX hp0 hpo g2 g3 hl0 HLC
  by_cases hcc : ls.length = 0
  · have hd0 : ls = [] := List.eq_nil_of_length_eq_zero hcc
    subst hd0
    simp only [List.length_nil, Nat.zero_add]
    go_wp2
    go_loopw [4, 29] (fun pv i U => pv = .slice (some ⟨w2.heap.size, 0, none⟩) 1 1 ∧ i = .int .i64 0 ∧ (w2.alloc (Obj.cells #[.func (.func f0) #[] caps0] 51)) = U) (fun _ _ _ => 0)
    case atStart => exact ⟨rfl, rfl, rfl⟩
    case round =>
      obtain ⟨rfl, rfl, hwr⟩ := hrel
      have PHO : Hid (PoL w1.heap.size wr (.slice (some ⟨w2.heap.size, 0, none⟩) 1 1) (textP l0 :: rawT [])) := by unfold Hid; rw [← hwr]; exact HPO.out
      have gx : w1.grownBy wr none := by rw [← hwr]; exact G3.out
      have GX := hide gx
      clear hwr gx
      have hpa := PHO.out.pa
      obtain ⟨F, hF, hpar⟩ := hpa
      have HRW := hide (row_any _ _ F wr hpar (fun k h => (hF k h).2) (by simp [rawT]))
      have HFF := hide hF
      clear hpar hF
      go_wp2_with fail
      refine HRW.out.mono ?_
      rintro e w5 ⟨f, caps, rfl, hp5, g5⟩
      have HP5 := hide hp5
      have HG5 := hide (grown_trans (grown_trans G1.out GX.out) g5)
      have hs5 := g5.size
      have hs1 := G1.out.size
      clear HRW hp5 g5
      go_wp2
      go_ret
      refine ⟨f, caps, rfl, ?_, HG5.out⟩
      have hfin := HP5.out
      rw [← HROW.out] at hfin
      exact hfin.at (fun k h => h.elim (fun h => ⟨by have := (HFF.out k h).1; omega, by have := (HFF.out k h).2; omega⟩) (fun h => ⟨by have := h.1; have := GX.out.size; omega, h.2⟩)) (fun _ _ => rfl)
  · have hcne : ((ls.length : Int) + 1 == 1) = false := by
      rw [beq_eq_false_iff_ne]
      omega
    have hcne2 : (ls.length + 1 == 1) = false := by simpa using hcc
    have hlsb : ls.length ≤ 1000010 := by omega
    have HLS := hide hls2
    clear hls2
    go_wp2
    go_loopw [4, 29] (fun pv i U => ∃ (j : Nat), j ≤ ls.length ∧ i = .int .i64 j ∧ PoL w1.heap.size U pv (textP l0 :: rawT (ls.take j)) ∧ w1.grownBy U none)
      (fun _ i _ => ls.length - (intOf i).toNat)
    case atStart => exact ⟨0, Nat.zero_le _, rfl, HPO.out, G3.out⟩
    case round =>
      obtain ⟨j, hj, rfl, hpo, gU⟩ := hrel
      have gx := gU
      have hsx := gx.size
      have hrl : (textP l0 :: rawT (ls.take j)).length ≤ 2000030 := by
        have h : ∀ (l : List (List Int)), (rawT l).length = 2 * l.length := by
          intro l
          induction l with
          | nil => rfl
          | cons x l ih => rw [show rawT (x :: l) = [leafP 5, textP x] ++ rawT l by simp [rawT], List.length_append, ih]; simp; omega
        rw [List.length_cons, h, List.length_take]; omega
      obtain ⟨pa, pc, hpv⟩ := hpo.sl
      have PHO := hide hpo
      by_cases hlt : j < ls.length
      · have hcj := gU.cell (HLS.out j hlt) (by simp)
        have hgd : ls[j]?.getD [] = ls[j] := by simp [hlt]
        rw [hgd] at hcj
        have HTJ := hide (HTL.out j hlt)
        have HRT := hide (show rawT (ls.take (j + 1)) = rawT (ls.take j) ++ [leafP 5, textP ls[j]] by
          rw [show ls.take (j + 1) = ls.take j ++ [ls[j]] by rw [List.take_add_one]; simp [hlt]]; simp only [rawT, List.flatMap_append, List.flatMap_cons, List.flatMap_nil, List.append_nil])
        have HX5 := hide (HR5.out wr)
        have GX := hide gx
        have GUU := hide gU
        generalize hPL : (textP l0 :: rawT (ls.take j)).length = PL at *
        subst hpv
        clear hpo gU gx hgd
        generalize ls[j] = lj at *
        go_wp2_with fail
        refine HX5.out.mono ?_
        rintro e w3 ⟨f3, caps3, rfl, hp3, g3⟩
        have HP3 := hide hp3
        have G3' := hide g3
        clear HX5 hp3 g3
        go_wp2_with fail
        refine (HTJ.out w3).mono ?_
        rintro e w4 ⟨f4, caps4, rfl, hp4, g4⟩
        have h3 := HP3.out.more (Nat.le_refl _) g4
        have h4 := hp4.more G3'.out.size (World.grownBy.refl _ _)
        have gw4 := grown_trans G3'.out g4
        have hpr := pa_two gw4 h3 h4
        have gA := World.grownBy_alloc w4 (Obj.cells #[.func (.func f3) #[] caps3, .func (.func f4) #[] caps4] 51) none
        have hsw := gw4.size
        obtain ⟨v5, w5, run5, o5, g5⟩ := append_parts w1.heap.size _ _ _ _ _ _ ((PHO.out.keep gw4).keep gA) hpr (fun k hk => ⟨by have := hk.1; omega, hk.2, fun e => by have h1 := hk.1; have h2 := (PHO.out.lt k e).2; omega⟩) (by simp; omega) (by rw [hPL]; simp; omega)
        obtain ⟨a5, c5, hv5⟩ := o5.sl
        have hL5 : (textP l0 :: rawT (ls.take j) ++ [leafP 5, textP lj]).length = PL + 2 := by rw [List.length_append, hPL]; rfl
        rw [hL5] at hv5
        have HO5 : Hid (PoL w1.heap.size w5 v5 (textP l0 :: rawT (ls.take (j + 1)))) := by unfold Hid; rw [HRT.out]; exact o5
        have HG5 := hide (grown_new (grown_trans GUU.out (grown_trans gw4 gA)) g5 (fun x e => (PHO.out.lt x e).1))
        subst hv5
        clear o5 g5 hpr gA gw4 h3 h4 HP3 hp4 g4 HTJ hcj
        go_wp2
        go_roundw
        case rel => exact ⟨j + 1, by omega, by go_num, HO5.out, HG5.out⟩
        case measure => simp [intOf]; omega
      · have hjn : j = ls.length := by omega
        subst hjn
        rw [List.take_length] at PHO hpv hrl
        have GX := hide gx
        subst hpv
        clear hpo gU gx
        have hpa := PHO.out.pa
        obtain ⟨F, hF, hpar⟩ := hpa
        have HRW := hide (row_any _ _ F wr hpar (fun k h => (hF k h).2) (by omega))
        have HFF := hide hF
        clear hpar hF
        go_wp2_with fail
        refine HRW.out.mono ?_
        rintro e w5 ⟨f, caps, rfl, hp5, g5⟩
        have HP5 := hide hp5
        have HG5 := hide (grown_trans (grown_trans G1.out GX.out) g5)
        have hs5 := g5.size
        have hs1 := G1.out.size
        clear HRW hp5 g5
        go_wp2
        go_ret
        refine ⟨f, caps, rfl, ?_, HG5.out⟩
        have hfin := HP5.out
        rw [← HROW.out] at hfin
        exact hfin.at (fun k h => h.elim (fun h => ⟨by have := (HFF.out k h).1; omega, by have := (HFF.out k h).2; omega⟩) (fun h => ⟨by have := h.1; have := GX.out.size; omega, h.2⟩)) (fun _ _ => rfl)
end Go.Proofs.YtalkhnhhaiigiaaGreatDoor

namespace Go.Proofs.YtalkhnhhaiigiaaGreatDoor
open Go.RowKit
attribute [-go_sem] Builtin.append_

theorem shapeComment_any (c : Cm) (tv : Value) (m : Int) (w : World) (hv : RdB w.heap.size w tv c.t) (hs : Sl tv c.t.length) (hb : Bys c.t) (hn : c.t.length ≤ 1000000) (hM : w.cell? ⟨1, 0, none⟩ = some (.int .i64 m)) :
    Calls Tryz.prog 88 #[.agg #[.bool c.b, tv]] w fun e w' => ∃ f caps, e = .returned (.func (.func f) #[] caps) ∧ PartAt w' (fun k => w.heap.size ≤ k ∧ k < w'.heap.size) f caps (comP' c) ∧ w.grownBy w' none := by
  obtain ⟨b, t⟩ := c
  cases b with
  | false => exact shapeComment_line t tv w hv hs hb hn
  | true => exact shapeComment_block t tv m w hv hs hb hn hM

set_option maxHeartbeats 4000000 in
set_option maxRecDepth 100000 in
theorem aboveLines_any (cv : Value) (cs : List Cm) (m : Int) (w : World) (hc : RdC w.heap.size w cv cs) (ho : CsOk cs) (hn : wC cs ≤ 4000000) (hM : w.cell? ⟨1, 0, none⟩ = some (.int .i64 m)) :
    Calls Tryz.prog 53 #[cv] w fun e w' => ∃ v', e = .returned v' ∧ PoL w.heap.size w' v' (befP cs) ∧ w.grownBy w' none := by
  have HRC := hide hc
  have hwl := wC_len cs
  obtain ⟨a, cap, hcv, _, _, _⟩ := id hc
  have HM := hide hM
  subst hcv
  clear hc hM
  go_enter Tryz.func53, Tryz.ntmps53
  go_wp2
  go_loopw [3, 8] (fun pv i U => ∃ (j : Nat), j ≤ cs.length ∧ i = .int .i64 j ∧ PoL w.heap.size U pv (befP (cs.take j)) ∧ w.grownBy U none)
    (fun _ i _ => cs.length - (intOf i).toNat)
  case atStart => exact ⟨0, Nat.zero_le _, rfl, PoL.nil _ _, World.grownBy.refl _ _⟩
  case round =>
    obtain ⟨j, hj, rfl, hpo, gU⟩ := hrel
    have hsx := gU.size
    have hrl : (befP (cs.take j)).length ≤ 4000000 := by have h1 := mess_len (befP (cs.take j)); have h2 := mess_take cs j; omega
    obtain ⟨pa, pc, hpv⟩ := hpo.sl
    have PHO := hide hpo
    have GUU := hide gU
    by_cases hlt : j < cs.length
    · obtain ⟨b, off, cap', tv, hva, hbb, c0, c1, hrd, hsl⟩ := (HRC.out.keep gU).at j hlt
      cases hva
      have hm := wC_mem cs cs[j] (List.getElem_mem hlt)
      have hby := (ho _ (List.getElem_mem hlt)).2
      have HC : Hid (∀ W : World, wr.grownBy W none → _) := fun W (g : wr.grownBy W none) => shapeComment_any cs[j] tv m W ((hrd.keep g).wideC (Nat.le_trans hsx g.size)) hsl hby (by omega) ((grown_trans gU g).cell HM.out (by simp))
      have HL : Hid (∀ W : World, _) := fun W => leafPart_any 4 W
      have HE := hide (show befP (cs.take (j + 1)) = befP (cs.take j) ++ [comP' cs[j], leafP 4] by rw [show cs.take (j + 1) = cs.take j ++ [cs[j]] by rw [List.take_add_one]; simp [hlt], befP_snoc])
      obtain ⟨ta, tc, htv, _, _⟩ := hsl
      generalize hPL : (befP (cs.take j)).length = PL at *
      subst hpv htv
      clear hpo gU hrd hby
      generalize cs[j] = c at *
      have gB : wr.grownBy (wr.alloc (Obj.cells #[.bool c.b, .slice ta c.t.length tc] 83)) none := World.grownBy_alloc _ _ _
      have GB := hide gB
      go_wp2_with fail
      refine (HC.out _ gB).mono ?_
      rintro e w3 ⟨f3, caps3, rfl, hp3, g3⟩
      have HP3 := hide hp3
      have G3' := hide (grown_trans gB g3)
      clear hp3 g3
      go_wp2_with fail
      refine (HL.out w3).mono ?_
      rintro e w4 ⟨f4, caps4, rfl, hp4, g4⟩
      have h3 := HP3.out.more (B := wr.heap.size) GB.out.size g4
      have h4 := hp4.more (B := wr.heap.size) G3'.out.size (World.grownBy.refl _ _)
      have gw4 := grown_trans G3'.out g4
      have hpr := pa_two gw4 h3 h4
      have gA := World.grownBy_alloc w4 (Obj.cells #[.func (.func f3) #[] caps3, .func (.func f4) #[] caps4] 51) none
      have hsw := gw4.size
      obtain ⟨v5, w5, run5, o5, g5⟩ := append_parts w.heap.size _ _ _ _ _ _ ((PHO.out.keep gw4).keep gA) hpr (fun k hk => ⟨by have := hk.1; omega, hk.2, fun e => by have h1 := hk.1; have h2 := (PHO.out.lt k e).2; omega⟩) (by simp; omega) (by rw [hPL]; simp; omega)
      obtain ⟨a5, c5, hv5⟩ := o5.sl
      have hL5 : (befP (cs.take j) ++ [comP' c, leafP 4]).length = PL + 2 := by rw [List.length_append, hPL]; rfl
      rw [hL5] at hv5
      have HO5 : Hid (PoL w.heap.size w5 v5 (befP (cs.take (j + 1)))) := by unfold Hid; rw [HE.out]; exact o5
      have HG5 := hide (grown_new (grown_trans GUU.out (grown_trans gw4 gA)) g5 (fun x e => (PHO.out.lt x e).1))
      subst hv5
      clear o5 g5 hpr gA gw4 h3 h4 HP3 hp4 g4 HC HL c0 c1
      go_wp2
      go_roundw
      case rel => exact ⟨j + 1, by omega, by go_num, HO5.out, HG5.out⟩
      case measure => simp [intOf]; omega
    · have hjn : j = cs.length := by omega
      subst hjn
      rw [List.take_length] at PHO hpv
      subst hpv
      clear hpo gU
      generalize (befP cs).length = LL at *
      go_wp2
      go_ret
      exact ⟨_, rfl, PHO.out, GUU.out⟩

set_option maxHeartbeats 4000000 in
set_option maxRecDepth 100000 in
theorem belowLines_any (cv : Value) (cs : List Cm) (m : Int) (w : World) (hc : RdC w.heap.size w cv cs) (ho : CsOk cs) (hn : wC cs ≤ 4000000) (hM : w.cell? ⟨1, 0, none⟩ = some (.int .i64 m)) :
    Calls Tryz.prog 108 #[cv] w fun e w' => ∃ v', e = .returned v' ∧ PoL w.heap.size w' v' (aftP cs) ∧ w.grownBy w' none := by
  have HRC := hide hc
  have hwl := wC_len cs
  obtain ⟨a, cap, hcv, _, _, _⟩ := id hc
  have HM := hide hM
  subst hcv
  clear hc hM
  go_enter Tryz.func108, Tryz.ntmps108
  go_wp2
  go_loopw [3, 8] (fun pv i U => ∃ (j : Nat), j ≤ cs.length ∧ i = .int .i64 j ∧ PoL w.heap.size U pv (aftP (cs.take j)) ∧ w.grownBy U none)
    (fun _ i _ => cs.length - (intOf i).toNat)
  case atStart => exact ⟨0, Nat.zero_le _, rfl, PoL.nil _ _, World.grownBy.refl _ _⟩
  case round =>
    obtain ⟨j, hj, rfl, hpo, gU⟩ := hrel
    have hsx := gU.size
    have hrl : (aftP (cs.take j)).length ≤ 4000000 := by have h1 := mess_len (aftP (cs.take j)); have h2 := mess_take cs j; omega
    obtain ⟨pa, pc, hpv⟩ := hpo.sl
    have PHO := hide hpo
    have GUU := hide gU
    by_cases hlt : j < cs.length
    · obtain ⟨b, off, cap', tv, hva, hbb, c0, c1, hrd, hsl⟩ := (HRC.out.keep gU).at j hlt
      cases hva
      have hm := wC_mem cs cs[j] (List.getElem_mem hlt)
      have hby := (ho _ (List.getElem_mem hlt)).2
      have HC : Hid (∀ W : World, wr.grownBy W none → _) := fun W (g : wr.grownBy W none) => shapeComment_any cs[j] tv m W ((hrd.keep g).wideC (Nat.le_trans hsx g.size)) hsl hby (by omega) ((grown_trans gU g).cell HM.out (by simp))
      have HL : Hid (∀ W : World, _) := fun W => leafPart_any 4 W
      have HE := hide (show aftP (cs.take (j + 1)) = aftP (cs.take j) ++ [leafP 4, comP' cs[j]] by rw [show cs.take (j + 1) = cs.take j ++ [cs[j]] by rw [List.take_add_one]; simp [hlt], aftP_snoc])
      obtain ⟨ta, tc, htv, _, _⟩ := hsl
      generalize hPL : (aftP (cs.take j)).length = PL at *
      subst hpv htv
      clear hpo gU hrd hby
      generalize cs[j] = c at *
      have gB : wr.grownBy (wr.alloc (Obj.cells #[.bool c.b, .slice ta c.t.length tc] 83)).drew none := grown_trans (World.grownBy_alloc _ _ _) ⟨rfl, rfl, rfl, Nat.le_refl _, fun _ _ _ => rfl⟩
      have GB := hide gB
      obtain ⟨I, hI⟩ : ∃ I : World → Prop, I = (fun W : World => W.cell? ⟨wr.heap.size, 0, none⟩ = some (.bool c.b) ∧ W.cell? ⟨wr.heap.size, 1, none⟩ = some (.slice ta c.t.length tc)) := ⟨_, rfl⟩
      have HI0 : I (wr.alloc (Obj.cells #[.bool c.b, .slice ta c.t.length tc] 83)).drew := by rw [hI]; exact ⟨by simp [go_sem], by simp [go_sem]⟩
      have kpI : ∀ (U U' : World) (r : Option Nat), I U → U.grownBy U' r → some wr.heap.size ≠ r → I U' := fun U U' r h g hr => by rw [hI] at h ⊢; exact ⟨g.cell h.1 hr, g.cell h.2 hr⟩
      go_wp2
      refine region_anyI I (fun _ => false) (by kernel_rfl) ?_
      show anyI _ _ _ _ _ _ 7 (Array.replicate 7 false) _ _
      refine anyI_take (i := 0) (.slice pa PL pc) rfl (by kernel_rfl) (by kernel_rfl) (by kernel_rfl) (by kernel_rfl) (fun _ _ _ h => h) HI0 (yldI rfl (fun W hW => by go_simp)) ?_
      refine anyI_take (i := 2) (.agg #[.bool c.b, .slice ta c.t.length tc]) rfl (by kernel_rfl) (by kernel_rfl) (by kernel_rfl) (by kernel_rfl) (fun _ _ _ h => h) HI0 (yldI rfl (fun W hW => by rw [hI] at hW; obtain ⟨h1, h2⟩ := hW; go_simp)) ?_
      generalize hG : Act.put _ _ _ = A0
      simp [Act.put] at hG
      subst hG
      refine anyI_one (i := 1) (by kernel_rfl) (wpOp_call rfl rfl (by go_simp) (HL.out (wr.alloc (Obj.cells #[.bool c.b, .slice ta c.t.length tc] 83)).drew) ?_)
      rintro e w3 ⟨f3, caps3, rfl, hp3, g3⟩
      have HI1 := kpI _ _ none HI0 g3 (by simp)
      have HP3 := hide hp3
      have G3' := hide (grown_trans gB g3)
      refine ⟨_, rfl, .inr HI1, ?_⟩
      clear hp3 g3
      refine anyI_one (i := 3) (by kernel_rfl) (wpOp_call rfl rfl (by go_simp) (HC.out w3 G3'.out) ?_)
      rintro e w4 ⟨f4, caps4, rfl, hp4, g4⟩
      have HI2 := kpI _ _ none HI1 g4 (by simp)
      refine ⟨_, rfl, .inr HI2, ?_⟩
      have h3 := HP3.out.more (B := wr.heap.size) GB.out.size g4
      have h4 := hp4.more (B := wr.heap.size) G3'.out.size (World.grownBy.refl _ _)
      have gw4 := grown_trans G3'.out g4
      have hpr := pa_two gw4 h3 h4
      have gA := World.grownBy_alloc w4 (Obj.cells #[.func (.func f3) #[] caps3, .func (.func f4) #[] caps4] 51) none
      have hsw := gw4.size
      obtain ⟨v5, w5, run5, o5, g5⟩ := append_parts w.heap.size _ _ _ _ _ _ ((PHO.out.keep gw4).keep gA) hpr (fun k hk => ⟨by have := hk.1; omega, hk.2, fun e => by have h1 := hk.1; have h2 := (PHO.out.lt k e).2; omega⟩) (by simp; omega) (by rw [hPL]; simp; omega)
      obtain ⟨a5, c5, hv5⟩ := o5.sl
      have hL5 : (aftP (cs.take j) ++ [leafP 4, comP' c]).length = PL + 2 := by rw [List.length_append, hPL]; rfl
      rw [hL5] at hv5
      have HO5 : Hid (PoL w.heap.size w5 v5 (aftP (cs.take (j + 1)))) := by unfold Hid; rw [HE.out]; exact o5
      have HG5 := hide (grown_new (grown_trans GUU.out (grown_trans gw4 gA)) g5 (fun x e => (PHO.out.lt x e).1))
      have HI3 := kpI _ _ none HI2 gA (by simp)
      have HI4 := kpI _ _ _ HI3 g5 (fun e => by have := (PHO.out.lt _ e.symm).2; omega)
      subst hv5
      clear o5 g5 hpr gA gw4 h3 h4 HP3 hp4 g4 HC HL c0 c1 kpI
      refine anyI_one (i := 4) (by kernel_rfl) (wpOp_val (w' := w4.alloc (Obj.cells #[.func (.func f3) #[] caps3, .func (.func f4) #[] caps4] 51)) (v := .slice (some ⟨w4.heap.size, 0, none⟩) 2 2) rfl rfl (by go_simp) ⟨.inr HI3, ?_⟩)
      refine anyI_one (i := 5) (by kernel_rfl) (wpOp_val (w' := w5) (v := .slice a5 (PL + 2) c5) rfl rfl (by go_simp) ⟨.inr HI4, ?_⟩)
      refine anyI_one (i := 6) (by kernel_rfl) (wpOp_val (w' := w5) (v := .slice a5 (PL + 2) c5) rfl rfl (by go_simp) ⟨.inr HI4, ?_⟩)
      refine anyI_done (by kernel_rfl) ?_ _
      subst hI
      go_wp2
      go_roundw
      case rel => exact ⟨j + 1, by omega, by go_num, HO5.out, HG5.out⟩
      case measure => simp [intOf]; omega
    · have hjn : j = cs.length := by omega
      subst hjn
      rw [List.take_length] at PHO hpv
      subst hpv
      clear hpo gU
      generalize (aftP cs).length = LL at *
      go_wp2
      go_ret
      exact ⟨_, rfl, PHO.out, GUU.out⟩

end Go.Proofs.YtalkhnhhaiigiaaGreatDoor

namespace Go.Proofs.YtalkhnhhaiigiaaGreatDoor
open Go.RowKit

set_option maxHeartbeats 1000000 in
theorem isNameStart_any (p : Int) (w : World) : Calls Tryz.prog 128 #[.int .i32 p] w fun e w' => e = .returned (.bool (isLet p)) ∧ w = w' := by
  by_cases h : isLet p = true
  · have HI : Hid (isLet p = true) := h
    have h' : (97 ≤ p ∧ p ≤ 122) ∨ (65 ≤ p ∧ p ≤ 90) ∨ p = 95 ∨ p = 36 := by simpa [isLet] using h
    clear h
    rcases h' with ⟨h1, h2⟩ | ⟨h1, h2⟩ | rfl | rfl
    · have h3 : ¬ p ≤ 90 := by omega
      have h4 : 65 ≤ p := by omega
      go_enter Tryz.func128, Tryz.ntmps128
      go_wp2
      go_ret
      exact ⟨by rw [HI.out]; rfl, rfl⟩
    · have h3 : ¬ 97 ≤ p := by omega
      go_enter Tryz.func128, Tryz.ntmps128
      go_wp2
      go_ret
      exact ⟨by rw [HI.out]; rfl, rfl⟩
    all_goals
      go_enter Tryz.func128, Tryz.ntmps128
      go_wp2
      go_ret
      exact ⟨rfl, rfl⟩
  · have HI : Hid (isLet p = false) := by simpa [Hid] using h
    have h' : ¬ ((97 ≤ p ∧ p ≤ 122) ∨ (65 ≤ p ∧ p ≤ 90) ∨ p = 95 ∨ p = 36) := by simpa [isLet] using h
    clear h
    have h95 : (p == 95) = false := by simp; omega
    have h36 : (p == 36) = false := by simp; omega
    by_cases h1 : 65 ≤ p
    · have h2 : ¬ p ≤ 90 := by omega
      by_cases h3 : 97 ≤ p
      · have h4 : ¬ p ≤ 122 := by omega
        clear h'
        go_enter Tryz.func128, Tryz.ntmps128
        go_wp2
        go_ret
        exact ⟨by rw [HI.out]; rfl, rfl⟩
      · clear h'
        go_enter Tryz.func128, Tryz.ntmps128
        go_wp2
        go_ret
        exact ⟨by rw [HI.out]; rfl, rfl⟩
    · have h3 : ¬ 97 ≤ p := by omega
      clear h'
      go_enter Tryz.func128, Tryz.ntmps128
      go_wp2
      go_ret
      exact ⟨by rw [HI.out]; rfl, rfl⟩

end Go.Proofs.YtalkhnhhaiigiaaGreatDoor

namespace Go.Proofs.YtalkhnhhaiigiaaGreatDoor
open Go.RowKit

set_option maxHeartbeats 400000 in
theorem isNamePart_any (p : Int) (w : World) : Calls Tryz.prog 127 #[.int .i32 p] w fun e w' => e = .returned (.bool (isLet p || isDig p)) ∧ w = w' := by
  cases h1 : isLet p
  all_goals
    go_enter Tryz.func127, Tryz.ntmps127
    go_wp2_with (first
      | (go_at_call 128; refine (isNameStart_any _ _).mono ?_; rintro e w' ⟨rfl, rfl⟩; rw [h1])
      | (go_at_call 146; refine (isDigit_any _ _).mono ?_; rintro e w' ⟨rfl, rfl⟩))
    go_ret
    exact ⟨by simp, rfl⟩

end Go.Proofs.YtalkhnhhaiigiaaGreatDoor

namespace Go.Proofs.YtalkhnhhaiigiaaGreatDoor
open Go.RowKit

set_option maxHeartbeats 1000000 in
set_option maxRecDepth 100000 in
theorem implIsName_any (v : Value) (zs : List Int) (w : World) (hv : RdI w.heap.size w v zs) (hn : zs.length ≤ 2097152) :
    Calls Tryz.prog 110 #[v] w fun e w' => e = .returned (.bool (nmR zs)) ∧ w = w' := by
  obtain ⟨a, cap, rfl, hr⟩ := hv
  have hnot : ∀ (x : Bool) (w : World), (Op.unary .not (.bool x)).run Tryz.prog w = .ok (.bool (!x)) w := fun _ _ => rfl
  go_enter Tryz.func110, Tryz.ntmps110
  go_wp2
  go_loopw [7] (fun i wr => ∃ k : Nat, k ≤ zs.length ∧ i = .int .i64 k ∧ nmUp zs k = true ∧ w = wr)
    (fun i _ => zs.length - (intOf i).toNat)
  case atStart => exact ⟨0, Nat.zero_le _, rfl, rfl, rfl⟩
  case round =>
    obtain ⟨k, hk, rfl, hall, rfl⟩ := hrel
    by_cases hlt : k < zs.length
    · obtain ⟨b, off, rfl, hb, hc⟩ := hr (fun h => by simp [h] at hlt)
      have hcx := hc k hlt
      have hal := hide (nmUp_snoc zs k hall)
      have han := hide (nmR_not zs k hlt)
      generalize zs[k]?.getD 0 = p at hcx hal han
      clear hc hr
      cases hu : isUn p
      · have HF : Hid (nmR zs = false) := han.out (by simp [isUn] at hu; simp [nmAt, isLet, isDig]; omega)
        clear hal han
        go_wp2_with (first
          | (go_at_call 119; refine (isUnit_any _ _).mono ?_; rintro e w' ⟨rfl, rfl⟩; rw [hu]))
        go_ret
        exact ⟨by rw [HF.out]; rfl, rfl⟩
      · have hub : 0 ≤ p ∧ p < 65536 := by simpa [isUn] using hu
        have hwr : IntKind.i32.wrap p = p := by rw [IntKind.wrap]; simp [IntKind.bits, IntKind.signed]; omega
        obtain ⟨hp0, hp1⟩ := hub
        cases h1 : isLet p
        · cases h2 : isDig p
          · have HF : Hid (nmR zs = false) := han.out (by simp [nmAt, h1, h2])
            clear hal han
            go_wp2_with (first
              | (go_at_call 119; refine (isUnit_any _ _).mono ?_; rintro e w' ⟨rfl, rfl⟩; rw [hu])
              | (go_at_call 127; refine (isNamePart_any _ _).mono ?_; rintro e w' ⟨rfl, rfl⟩; rw [h1, h2]))
            go_ret
            exact ⟨by rw [HF.out]; rfl, rfl⟩
          · by_cases hk0 : k = 0
            · have hk1 : ((k : Int) == 0) = true := by simp [hk0]
              have HF : Hid (nmR zs = false) := han.out (by simp [nmAt, h1, hk0])
              have HK := hide hk0
              clear hal han hk0
              go_wp2_with (first
                | (go_at_call 119; refine (isUnit_any _ _).mono ?_; rintro e w' ⟨rfl, rfl⟩; rw [hu])
                | (go_at_call 127; refine (isNamePart_any _ _).mono ?_; rintro e w' ⟨rfl, rfl⟩; rw [h1, h2])
                | (go_at_call 128; refine (isNameStart_any _ _).mono ?_; rintro e w' ⟨rfl, rfl⟩; rw [h1]))
              go_ret
              exact ⟨by rw [HF.out]; rfl, rfl⟩
            · have hk1 : ((k : Int) == 0) = false := by simp; omega
              have HT : Hid (nmUp zs (k + 1) = true) := hal.out (by simp [nmAt, h1, h2, hk0])
              clear hal han
              go_wp2_with (first
                | (go_at_call 119; refine (isUnit_any _ _).mono ?_; rintro e w' ⟨rfl, rfl⟩; rw [hu])
                | (go_at_call 127; refine (isNamePart_any _ _).mono ?_; rintro e w' ⟨rfl, rfl⟩; rw [h1, h2]))
              go_roundw
              case rel => exact ⟨k + 1, by omega, by go_num, HT.out, trivial⟩
              case measure => simp [intOf]; omega
        · have HT : Hid (nmUp zs (k + 1) = true) := hal.out (by simp [nmAt, h1])
          clear hal han
          by_cases hk0 : k = 0
          · have hk1 : ((k : Int) == 0) = true := by simp [hk0]
            have HK := hide hk0
            clear hk0
            go_wp2_with (first
              | (go_at_call 119; refine (isUnit_any _ _).mono ?_; rintro e w' ⟨rfl, rfl⟩; rw [hu])
              | (go_at_call 127; refine (isNamePart_any _ _).mono ?_; rintro e w' ⟨rfl, rfl⟩; rw [h1])
              | (go_at_call 128; refine (isNameStart_any _ _).mono ?_; rintro e w' ⟨rfl, rfl⟩; rw [h1]))
            go_roundw
            case rel => exact ⟨k + 1, by omega, by go_num, HT.out, trivial⟩
            case measure => simp [intOf]; omega
          · have hk1 : ((k : Int) == 0) = false := by simp; omega
            go_wp2_with (first
              | (go_at_call 119; refine (isUnit_any _ _).mono ?_; rintro e w' ⟨rfl, rfl⟩; rw [hu])
              | (go_at_call 127; refine (isNamePart_any _ _).mono ?_; rintro e w' ⟨rfl, rfl⟩; rw [h1]))
            go_roundw
            case rel => exact ⟨k + 1, by omega, by go_num, HT.out, trivial⟩
            case measure => simp [intOf]; omega
    · have hkn : k = zs.length := by omega
      rw [hkn] at hall
      have HF : Hid (nmR zs = decide (0 < zs.length)) := nmR_yes zs hall
      have HG : Hid (decide ((0 : Int) < (zs.length : Int)) = decide (0 < zs.length)) := by simp [Hid]
      clear hr hall hkn
      go_wp2
      go_ret
      exact ⟨by rw [HF.out, ← HG.out]; rfl, rfl⟩

end Go.Proofs.YtalkhnhhaiigiaaGreatDoor

