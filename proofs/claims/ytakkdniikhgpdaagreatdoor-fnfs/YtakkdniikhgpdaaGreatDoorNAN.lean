import Derived.Test.YtakkdniikhgpdaaGreatDoorNAE
import Derived.Test.YtakkdniikhgpdaaGreatDoorNAI
import Derived.Test.YtakkdniikhgpdaaGreatDoorNAK
import Derived.Test.YtakkdniikhgpdaaGreatDoorNAM
namespace Go.Proofs.YtakkdniikhgpdaaGreatDoor
open Go.RowKit

/-! Texts of trees, laid out in any way: what stands between. -/
set_option maxHeartbeats 4000000 in
set_option maxRecDepth 100000 in
theorem gap_k {F : Nat} {v : Value} {zs : List Int} {i : Nat} {Γ : Gk} {w : World} (hs : KS F v zs i Γ w) (hz : Zk zs) :
    Calls Tryz.prog 69 #[.pointer (some ⟨F, 0, none⟩)] w fun e w' => e = .returned (.string (strOfNums (gapF zs i).1)) ∧ KD F v zs Γ w (gapF zs i).2 Γ w' := by
  have HN := hide ((KD.refl hs).next hz)
  have hkb := nx_bd hz.by' i
  have HP : Hid (gapF zs i = (if 245 < (nx zs i).1 then markW.getD ((nx zs i).1 % 5).toNat [] else gapW.getD ((nx zs i).1 % 10).toNat [], (nx zs i).2)) := rfl
  generalize (nx zs i).1 = k at *
  generalize (nx zs i).2 = j at *
  obtain ⟨hk0, hk1⟩ := hkb
  clear hs hz
  go_enter Tryz.func69, Tryz.ntmps69
  go_wp2_with fail
  refine HN.out.mono ?_
  rintro e w1 ⟨rfl, hD1, g1⟩
  have gA := World.grownBy_alloc w1 (Obj.cells #[.string { data := #[] }, .string { data := #[] }, .string { data := #[32] }, .string { data := #[10] }, .string { data := #[32, 32] }, .string { data := #[13, 10] }, .string { data := #[9] }, .string { data := #[194, 160] }, .string { data := #[226, 128, 168] }, .string { data := #[239, 187, 191] }] 9) none
  have hcell := fun n hn => lit_cellK w1 gapW 9 n hn #[.string { data := #[] }, .string { data := #[] }, .string { data := #[32] }, .string { data := #[10] }, .string { data := #[32, 32] }, .string { data := #[13, 10] }, .string { data := #[9] }, .string { data := #[194, 160] }, .string { data := #[226, 128, 168] }, .string { data := #[239, 187, 191] }] rfl
  have gB := World.grownBy_alloc (w1.alloc (Obj.cells #[.string { data := #[] }, .string { data := #[] }, .string { data := #[32] }, .string { data := #[10] }, .string { data := #[32, 32] }, .string { data := #[13, 10] }, .string { data := #[9] }, .string { data := #[194, 160] }, .string { data := #[226, 128, 168] }, .string { data := #[239, 187, 191] }] 9)) (Obj.cells #[.string { data := #[47, 42, 42, 47] }, .string { data := #[47, 47, 32, 120, 10] }, .string { data := #[47, 42, 32, 97, 13, 10, 98, 32, 42, 47] }, .string { data := #[47, 47, 13] }, .string { data := #[47, 42, 226, 128, 169, 42, 47] }] 9) none
  have hcell2 := fun n hn => lit_cellK (w1.alloc (Obj.cells #[.string { data := #[] }, .string { data := #[] }, .string { data := #[32] }, .string { data := #[10] }, .string { data := #[32, 32] }, .string { data := #[13, 10] }, .string { data := #[9] }, .string { data := #[194, 160] }, .string { data := #[226, 128, 168] }, .string { data := #[239, 187, 191] }] 9)) markW 9 n hn #[.string { data := #[47, 42, 42, 47] }, .string { data := #[47, 47, 32, 120, 10] }, .string { data := #[47, 42, 32, 97, 13, 10, 98, 32, 42, 47] }, .string { data := #[47, 47, 13] }, .string { data := #[47, 42, 226, 128, 169, 42, 47] }] rfl
  have HD1 := hide (hD1.keep gA)
  have HD2 := hide ((hD1.keep gA).keep gB)
  by_cases hk : 245 < k
  · rw [if_pos hk] at HP
    have hc := hcell2 (k % 5).toNat (by simp [markW]; omega)
    rw [show ∀ o : Obj, (w1.alloc o).heap.size = w1.heap.size + 1 from fun o => by simp] at hc
    generalize markW.getD (k % 5).toNat [] = t at *
    clear HN hD1 g1 hcell hcell2 gA gB HD1
    go_wp2
    go_ret
    rw [HP.out]
    exact ⟨rfl, HD2.out⟩
  · rw [if_neg hk] at HP
    have hc := hcell (k % 10).toNat (by simp [gapW]; omega)
    generalize gapW.getD (k % 10).toNat [] = t at *
    clear HN hD1 g1 hcell hcell2 gA gB HD2
    go_wp2
    go_ret
    rw [HP.out]
    exact ⟨rfl, HD1.out⟩
end Go.Proofs.YtakkdniikhgpdaaGreatDoor

namespace Go.Proofs.YtakkdniikhgpdaaGreatDoor
open Go.RowKit

theorem lstr_app (a b : List Int) : strOfNums a ++ strOfNums b = strOfNums (a ++ b) := by
  apply ByteArray.ext
  simp [strOfNums]
theorem grown_F {F : Nat} {a b : World} (g : a.grownBy b none) : a.grownBy b (some F) := ⟨g.os, g.tape, g.output, g.size, fun k hk _ => g.block k hk (by simp)⟩

set_option maxHeartbeats 4000000 in
set_option maxRecDepth 100000 in
/-- spec.l6looseQuote. -/
theorem looseQuote_k {F : Nat} {v : Value} {zs : List Int} {i : Nat} {Γ : Gk} {w : World} (hs : KS F v zs i Γ w) (hz : Zk zs) (sv : Sv) (us : List Int) (hJ : JI (Pre Γ) sv us) (hu : Un us) (hl : us.length ≤ 64) :
    Calls Tryz.prog 77 #[sv.v, .pointer (some ⟨F, 0, none⟩)] w fun e w' => e = .returned (.string (strOfNums (lqF zs us i).1)) ∧ KD F v zs Γ w (lqF zs us i).2 Γ w' := by
  have HN := hide ((KD.refl hs).next hz)
  have hkb := nx_bd hz.by' i
  have HP : Hid (lqF zs us i = (if (nx zs i).1 % 4 = 1 then 39 :: hexQ us us.length ++ [39] else (quR us).1, (nx zs i).2)) := rfl
  generalize (nx zs i).1 = k at *
  generalize (nx zs i).2 = j at *
  obtain ⟨hk0, hk1⟩ := hkb
  have HJ := hide hJ
  have HU := hide hu
  have hsv := (hJ.rd hs.mt).2
  clear hs hz hJ hu
  obtain ⟨a, n, cap⟩ := sv
  obtain ⟨a', cap', e', hc1, hc2⟩ := hsv
  simp only [Sv.v] at e' ⊢
  cases e'
  go_enter Tryz.func77, Tryz.ntmps77
  go_wp2_with fail
  refine HN.out.mono ?_
  rintro e w1 ⟨rfl, hD1, g1⟩
  have hR := (HJ.out.rd hD1.st.mt).1
  have HR := hide hR
  have HQ := hide (specQuote_any _ us w1 hR (by omega))
  have HD1 := hide hD1
  simp only [Sv.v] at HQ HR
  clear HN hD1 g1 hR
  go_wp2_with fail
  refine HQ.out.mono ?_
  rintro e w2 ⟨v2, rfl, o2, g2⟩
  have HD2 := hide (HD1.out.keep g2)
  have hcv := conv_rd o2.rd
  obtain ⟨a2, c2, hv2, hr2⟩ := o2.rd
  subst hv2
  have G2 := hide g2
  clear HQ HD1 o2 hr2
  by_cases hk : k % 4 = 1
  · have HE := hide (HP.out.trans (by rw [if_pos hk]))
    clear HP g2 hcv
    go_wp2
    go_loopw [8, 9] (fun o i W => ∃ q : Nat, q ≤ us.length ∧ i = .int .i64 q ∧ o = .string (strOfNums (39 :: hexQ us q)) ∧ w2.grownBy W none)
      (fun _ i _ => us.length - (intOf i).toNat)
    case atStart => exact ⟨0, Nat.zero_le _, rfl, rfl, World.grownBy.refl _ _⟩
    case round =>
      obtain ⟨q, hq, rfl, rfl, g⟩ := hrel
      by_cases hlt : q < us.length
      · obtain ⟨a3, cap3, e, hr⟩ := (HR.out.keep G2.out).keep g
        simp only [Value.slice.injEq, true_and] at e
        obtain ⟨rfl, rfl⟩ := e
        obtain ⟨b, off, rfl, hbb, hc⟩ := hr (fun e => by rw [e] at hlt; simp at hlt)
        have hck := hc q hlt
        have hpz := HU.out.at q
        have HH : Hid (39 :: hexQ us (q + 1) = (39 :: hexQ us q) ++ (hex4 (us[q]?.getD 0) ++ if (q : Int) % 3 = 1 then [92, 10] else [])) := by unfold Hid; rw [hexQ]; rfl
        generalize us[q]?.getD 0 = p at *
        have HX := hide (hex4_any p wr hpz.1 hpz.2)
        generalize hs0 : strOfNums (39 :: hexQ us q) = s0 at *
        have hz0 : s0.size ≤ 600 := by have := (hexQ_bl us q).1; rw [← hs0, strOfNums_size]; simp; omega
        have hl1 : ¬ 9223372036854775807 < s0.size + (strOfNums (hex4 p)).size := by have := (hex4_bl p).1; rw [strOfNums_size]; omega
        have hl2 : ¬ 9223372036854775807 < (s0 ++ strOfNums (hex4 p)).size + 2 := by have := (hex4_bl p).1; rw [ByteArray.size_append, strOfNums_size]; omega
        have hl3 : ¬ 9223372036854775807 < s0.size + (strOfNums (hex4 p)).size + 2 := by have := (hex4_bl p).1; rw [strOfNums_size]; omega
        have HS := hide hs0
        have Gr := hide g
        clear hr hc g hs0
        go_wp2_with fail
        refine HX.out.mono ?_
        rintro e w3 ⟨v3, rfl, o3, b3⟩
        have hcv := conv_rd o3.rd
        have g3 := grown_of_below b3
        obtain ⟨a4, c4, hv4, hr4⟩ := o3.rd
        subst hv4
        have G3 := hide (grown_trans Gr.out g3)
        clear o3 b3 g3 hr4 HX
        by_cases h3 : (q : Int) % 3 = 1
        · rw [if_pos h3] at HH
          go_wp2
          go_roundw
          case rel => exact ⟨q + 1, by omega, by go_num, by rw [HH.out, ← HS.out, ← lstr_app, ← lstr_app, ← ByteArray.append_assoc]; rfl, G3.out⟩
          case measure => simp [intOf]; omega
        · rw [if_neg h3] at HH
          go_wp2
          go_roundw
          case rel => exact ⟨q + 1, by omega, by go_num, by rw [HH.out, ← HS.out, List.append_nil, lstr_app], G3.out⟩
          case measure => simp [intOf]; omega
      · obtain rfl : q = us.length := by omega
        have hl1 : ¬ 9223372036854775807 < (strOfNums (39 :: hexQ us us.length)).size + 1 := by have := (hexQ_bl us us.length).1; rw [strOfNums_size]; simp; omega
        go_wp2
        go_ret
        rw [HE.out]
        exact ⟨by simp only; rw [← lstr_app]; rfl, HD2.out.keep g⟩
  · have HE := hide (HP.out.trans (by rw [if_neg hk]))
    clear HP g2
    go_wp2
    go_ret
    rw [HE.out]
    exact ⟨rfl, HD2.out⟩
end Go.Proofs.YtakkdniikhgpdaaGreatDoor

namespace Go.Proofs.YtakkdniikhgpdaaGreatDoor
open Go.RowKit
attribute [-go_sem] Builtin.append_

set_option maxHeartbeats 4000000 in
set_option maxRecDepth 100000 in
theorem lmarked_any (c : Cm) (tv : Value) (w : World) (hv : RdB w.heap.size w tv c.t) (hs : Sl tv c.t.length) (hn : c.t.length ≤ 1048576) :
    Calls Tryz.prog 76 #[.agg #[.bool c.b, tv]] w fun e w' => ∃ v', e = .returned v' ∧ Bw w.heap.size w' v' (markC c) ∧ w.grownBy w' none := by
  obtain ⟨b, t⟩ := c
  simp only at hv hs hn
  obtain ⟨a, cap, htv, hc1, hc2⟩ := hs
  subst htv
  cases b with
  | false =>
    have HX := hide (show markC ⟨false, t⟩ = [47, 47] ++ t by simp [markC])
    obtain ⟨W, hW⟩ : ∃ W, W = w.alloc (Obj.cells #[.bool false, .slice a t.length cap] 127) := ⟨_, rfl⟩
    have gW : w.grownBy W none := by rw [hW]; exact World.grownBy_alloc _ _ _
    have sW : W.heap.size = w.heap.size + 1 := by rw [hW]; simp
    have kc := Lib.run_convert_bytes_const (P := Tryz.prog) W 22 5 #[.int .u8 47, .int .u8 47] 2 2 Tryz.underlying22 Tryz.underlying5
    obtain ⟨W2, hW2⟩ : ∃ W2, W2 = W.alloc (Obj.cells #[.int .u8 47, .int .u8 47] 5 (2, 3)) := ⟨_, rfl⟩
    have gW2 : W.grownBy W2 none := by rw [hW2]; exact World.grownBy_alloc _ _ _
    have hb2 : Bw W.heap.size W2 (.slice (some ⟨W.heap.size, 0, none⟩) 2 2) [47, 47] := by rw [hW2]; exact bw_lit2 W 47 47
    obtain ⟨v3, w3, run3, h3, g3, _⟩ := bw_app W.heap.size W2 _ (.slice a t.length cap) [47, 47] t hb2 (((hv.keep gW).keep gW2).wideC (Nat.le_trans gW.size gW2.size)) gW2.size (by simp; omega)
    have HG : Hid (w.grownBy w3 none) := grown_trans gW (grown_new gW2 g3 (fun j e => by cases e; exact Nat.le_refl _))
    have HO := hide (h3.base gW.size)
    obtain ⟨a3, c3, hv3, _, _⟩ := h3.sl
    rw [sW] at kc run3
    generalize ([47, 47] ++ t).length = LL at hv3
    subst hv3
    have c1 : W.cell? ⟨w.heap.size, 0, none⟩ = some (.bool false) := by rw [hW]; simp [go_sem]
    have c2 : W2.cell? ⟨w.heap.size, 1, none⟩ = some (.slice a t.length cap) := gW2.cell (by rw [hW]; simp [go_sem]) (by simp)
    subst hW2 hW
    clear hb2 h3 gW gW2 hv
    go_enter Tryz.func76, Tryz.ntmps76
    go_wp2
    go_ret
    exact ⟨_, rfl, by rw [HX.out]; exact HO.out, HG.out⟩
  | true =>
    have HX := hide (show markC ⟨true, t⟩ = ([47, 42] ++ t) ++ [42, 47] by simp [markC])
    obtain ⟨W, hW⟩ : ∃ W, W = w.alloc (Obj.cells #[.bool true, .slice a t.length cap] 127) := ⟨_, rfl⟩
    have gW : w.grownBy W none := by rw [hW]; exact World.grownBy_alloc _ _ _
    have sW : W.heap.size = w.heap.size + 1 := by rw [hW]; simp
    have kc := Lib.run_convert_bytes_const (P := Tryz.prog) W 22 5 #[.int .u8 47, .int .u8 42] 2 2 Tryz.underlying22 Tryz.underlying5
    obtain ⟨W2, hW2⟩ : ∃ W2, W2 = W.alloc (Obj.cells #[.int .u8 47, .int .u8 42] 5 (2, 3)) := ⟨_, rfl⟩
    have gW2 : W.grownBy W2 none := by rw [hW2]; exact World.grownBy_alloc _ _ _
    have hb2 : Bw W.heap.size W2 (.slice (some ⟨W.heap.size, 0, none⟩) 2 2) [47, 42] := by rw [hW2]; exact bw_lit2 W 47 42
    obtain ⟨v3, w3, run3, h3, g3, _⟩ := bw_app W.heap.size W2 _ (.slice a t.length cap) [47, 42] t hb2 (((hv.keep gW).keep gW2).wideC (Nat.le_trans gW.size gW2.size)) gW2.size (by simp; omega)
    have hs3 := g3.size
    have hs2 := gW2.size
    obtain ⟨v4, w4, run4, h4, g4⟩ := bw_str W.heap.size w3 v3 _ [42, 47] h3 (by intro z hz; simp at hz; omega) (by simp) (by omega) (by simp; omega)
    rw [show strOfNums [42, 47] = { data := #[42, 47] } by rfl] at run4
    have HG : Hid (w.grownBy w4 none) := grown_trans gW (grown_new (grown_new gW2 g3 (fun j e => by cases e; exact Nat.le_refl _)) g4 (fun j e => (h3.lt j e).1))
    have HO := hide (h4.base gW.size)
    obtain ⟨a3, c3, hv3, _, _⟩ := h3.sl
    obtain ⟨a4, c4, hv4, _, _⟩ := h4.sl
    rw [sW] at kc run3
    generalize ([47, 42] ++ t).length = LL at hv3
    generalize (([47, 42] ++ t) ++ [42, 47]).length = L4 at hv4
    subst hv3 hv4
    have c1 : W.cell? ⟨w.heap.size, 0, none⟩ = some (.bool true) := by rw [hW]; simp [go_sem]
    have c2 : W2.cell? ⟨w.heap.size, 1, none⟩ = some (.slice a t.length cap) := gW2.cell (by rw [hW]; simp [go_sem]) (by simp)
    subst hW2 hW
    clear hb2 h3 gW gW2 hv
    go_enter Tryz.func76, Tryz.ntmps76
    go_wp2
    go_ret
    exact ⟨_, rfl, by rw [HX.out]; exact HO.out, HG.out⟩

end Go.Proofs.YtakkdniikhgpdaaGreatDoor

namespace Go.Proofs.YtakkdniikhgpdaaGreatDoor
open Go.RowKit

theorem comsF_take (cs : List Cm) (k : Nat) (hk : k < cs.length) : comsF (cs.take (k + 1)) = comsF (cs.take k) ++ (markC cs[k] ++ if cs[k].b then [] else [10]) := by
  unfold comsF
  rw [List.take_add_one, List.getElem?_eq_getElem hk, List.flatMap_append]
  simp
theorem markC_len (c : Cm) : (markC c).length ≤ c.t.length + 4 := by unfold markC; split <;> simp

set_option maxHeartbeats 4000000 in
set_option maxRecDepth 100000 in
/-- spec.l6looseComments. -/
theorem looseComs_any (cv : Value) (cs : List Cm) (w : World) (hc : RdC w.heap.size w cv cs) (hn : cs.length ≤ 64 ∧ ∀ c ∈ cs, CmB 64 c) :
    Calls Tryz.prog 70 #[cv] w fun e w' => e = .returned (.string (strOfNums (comsF cs))) ∧ w.grownBy w' none := by
  have hnot : ∀ (x : Bool) (w : World), (Op.unary .not (.bool x)).run Tryz.prog w = .ok (.bool (!x)) w := fun _ _ => rfl
  have HRC := hide hc
  obtain ⟨a, cap, hcv, hcl, hcm, _⟩ := id hc
  have hl0 := hn.1
  have HNN := hide hn
  subst hcv
  clear hc hn
  go_enter Tryz.func70, Tryz.ntmps70
  go_wp2
  go_loopw [3, 4] (fun o i W => ∃ (k : Nat), k ≤ cs.length ∧ i = .int .i64 k ∧ o = .string (strOfNums (comsF (cs.take k))) ∧ w.grownBy W none)
    (fun _ i _ => cs.length - (intOf i).toNat)
  case atStart => exact ⟨0, Nat.zero_le _, rfl, rfl, World.grownBy.refl _ _⟩
  case round =>
    obtain ⟨k, hk, rfl, rfl, g⟩ := hrel
    by_cases hlt : k < cs.length
    · obtain ⟨b, off, cap', tv, hva, hbb, c0, c1, hrd, hsl⟩ := ((HRC.out.keep g).wide g.size).at k hlt
      cases hva
      have hm := (HNN.out.2 cs[k] (List.getElem_mem hlt)).1
      have HM := hide (lmarked_any cs[k] tv wr hrd hsl (by omega))
      have hte := comsF_take cs k hlt
      have hbl := (coms_bl (cs := cs.take k) (fun c hc => HNN.out.2 c (List.mem_of_mem_take hc))).1
      have hml := markC_len cs[k]
      have hz0 : (strOfNums (comsF (cs.take k))).size ≤ 5000 := by rw [strOfNums_size]; simp at hbl; omega
      have hz1 : (strOfNums (markC cs[k])).size ≤ 100 := by rw [strOfNums_size]; omega
      obtain ⟨ta, tc, htv, _, _⟩ := hsl
      subst htv
      have G := hide g
      generalize hs0 : strOfNums (comsF (cs.take k)) = s0 at *
      have HS := hide hs0
      have HT := hide hte
      clear hrd g hte hbl hml hs0
      generalize cs[k] = c at *
      go_wp2_with fail
      refine HM.out.mono ?_
      rintro e w1 ⟨v1, rfl, o1, g1⟩
      have hcv := conv_rd o1.rd
      have d0 := g1.cell c0 (by simp)
      have d1 := g1.cell c1 (by simp)
      obtain ⟨a1, c1', hv1, _, _⟩ := o1.sl
      generalize (markC c).length = LC at *
      subst hv1
      generalize hs1 : strOfNums (markC c) = s1 at *
      have hla : ¬ 9223372036854775807 < s0.size + s1.size := by omega
      have hlb : ¬ 9223372036854775807 < (s0 ++ s1).size + 1 := by rw [ByteArray.size_append]; omega
      have hlc : ¬ 9223372036854775807 < s0.size + s1.size + 1 := by omega
      have G1 := hide (grown_trans G.out g1)
      have HS1 := hide hs1
      clear o1 g1 HM hs1 c0 c1
      cases hb : c.b with
      | true =>
        rw [hb] at d0
        have HE : Hid (s0 ++ s1 = strOfNums (comsF (cs.take (k + 1)))) := by
          unfold Hid
          rw [HT.out, hb, ← HS.out, ← HS1.out, lstr_app]; simp
        clear HT HS HS1
        go_wp2
        go_roundw
        case rel => exact ⟨k + 1, by omega, by go_num, by rw [HE.out], G1.out⟩
        case measure => simp [intOf]; omega
      | false =>
        rw [hb] at d0
        have HE : Hid (s0 ++ s1 ++ ⟨#[10]⟩ = strOfNums (comsF (cs.take (k + 1)))) := by
          unfold Hid
          rw [HT.out, hb, ← HS.out, ← HS1.out, if_neg (by simp), ← lstr_app, ← lstr_app, ← ByteArray.append_assoc]; rfl
        clear HT HS HS1
        go_wp2
        go_roundw
        case rel => exact ⟨k + 1, by omega, by go_num, by rw [HE.out], G1.out⟩
        case measure => simp [intOf]; omega
    · obtain rfl : k = cs.length := by omega
      rw [List.take_length]
      go_wp2
      go_ret
      exact ⟨rfl, g⟩
end Go.Proofs.YtakkdniikhgpdaaGreatDoor

namespace Go.Proofs.YtakkdniikhgpdaaGreatDoor
open Go.RowKit

/-- A node at a place: its cells, and what its lists say. -/
structure Ndp (Γ : Gk) (w : World) (b o : Nat) (p : Nod) (l y x u t : Option Addr × Nat) : Prop where
  k : w.cell? ⟨b, o, none⟩ = some (.int .i64 p.k)
  lead : w.cell? ⟨b, o + 1, none⟩ = some (.slice l.1 p.lead.length l.2)
  mem : w.cell? ⟨b, o + 2, none⟩ = some (.bool p.mem)
  key : w.cell? ⟨b, o + 3, none⟩ = some (.slice y.1 p.key.length y.2)
  text : w.cell? ⟨b, o + 4, none⟩ = some (.slice x.1 p.text.length x.2)
  units : w.cell? ⟨b, o + 5, none⟩ = some (.slice u.1 p.units.length u.2)
  cnt : w.cell? ⟨b, o + 6, none⟩ = some (.int .i64 p.cnt)
  tail : w.cell? ⟨b, o + 7, none⟩ = some (.slice t.1 p.tail.length t.2)
  jl : JC (Pre Γ) (l.1, p.lead.length, l.2) p.lead
  jk : JI (Pre Γ) (y.1, p.key.length, y.2) p.key
  ju : JI (Pre Γ) (u.1, p.units.length, u.2) p.units
  jt : JC (Pre Γ) (t.1, p.tail.length, t.2) p.tail
theorem Ndp.keep {Γ : Gk} {w w' : World} {b o : Nat} {p : Nod} {l y x u t : Option Addr × Nat} (h : Ndp Γ w b o p l y x u t) {r : Option Nat} (g : w.grownBy w' r) (hb : some b ≠ r) : Ndp Γ w' b o p l y x u t :=
  ⟨g.cell h.k hb, g.cell h.lead hb, g.cell h.mem hb, g.cell h.key hb, g.cell h.text hb, g.cell h.units hb, g.cell h.cnt hb, g.cell h.tail hb, h.jl, h.jk, h.ju, h.jt⟩
theorem sv_eq {v : Sv} {n : Nat} (h : Sl v.v n) : v = (v.1, n, v.2.2) := by
  obtain ⟨a, cap, e, _⟩ := h
  obtain ⟨x, y, z⟩ := v
  simp only [Sv.v, Value.slice.injEq] at e ⊢
  obtain ⟨_, rfl, _⟩ := e
  rfl
theorem JC.len {Γ : Gk} {H : Nat} {w : World} {v : Sv} {cs : List Cm} (h : JC (Pre Γ) v cs) (hm : MT H Γ w) : v = (v.1, cs.length, v.2.2) := sv_eq (h.rd hm).sl
theorem JI.len {Γ : Gk} {H : Nat} {w : World} {v : Sv} {cs : List Int} (h : JI (Pre Γ) v cs) (hm : MT H Γ w) : v = (v.1, cs.length, v.2.2) := sv_eq (h.rd hm).2
theorem JB.len {Γ : Gk} {H : Nat} {w : World} {v : Sv} {cs : List Int} (h : JB (Pre Γ) v cs) (hm : MT H Γ w) : v = (v.1, cs.length, v.2.2) := sv_eq (h.rd hm).2
/-- The nodes of a tree that is not empty lie in one block. -/
theorem JN.base {H : Nat} {Γ : Gk} {w : World} {v : Sv} {ns : List Nod} (h : JN (Pre Γ) v ns) (hm : MT H Γ w) (h0 : 0 < ns.length) : ∃ b off cap, v = (some ⟨b, off, none⟩, ns.length, cap) ∧ ns.length ≤ cap ∧ cap ≤ maxLen ∧ H ≤ b ∧ b < w.heap.size ∧ ∀ (W : World), MT H Γ W → ∀ (j : Nat) (hj : j < ns.length), ∃ l y x u t, Ndp Γ W b (off + j * 8) ns[j] l y x u t := by
  obtain ⟨els, h1, h2⟩ := h
  have hl := h2.len
  obtain ⟨a, cap, hv, hc1, hc2⟩ := pre_len h1 hm
  rw [hl] at hv hc1
  rcases h1 with ⟨rfl, rfl⟩ | ⟨b, m, zs, rfl, h3, h4, h5⟩
  · simp at hl; omega
  · obtain ⟨rfl, rfl⟩ : cap = m ∧ a = some ⟨b, 0, none⟩ := by
      simp only [Sv.v, Value.slice.injEq] at hv
      exact ⟨hv.2.2.symm, hv.1.symm⟩
    refine ⟨b, 0, cap, by rw [hl], hc1, hc2, (hm.lt h3).1, (hm.lt h3).2, fun W hW j hj => ?_⟩
    obtain ⟨e, he, hjd⟩ := h2.at (j := j) (c := ns[j]) (by simp [hj])
    cases e with
    | d k l mm y x u n t =>
      obtain ⟨⟨rfl, rfl, rfl⟩, c1, i1, b1, i2, c2⟩ := hjd
      have e1 := c1.len hW; have e2 := i1.len hW; have e3 := b1.len hW; have e4 := i2.len hW; have e5 := c2.len hW
      have d0 := pre_at hW h3 h4 he (f := 0) (by decide); have d1 := pre_at hW h3 h4 he (f := 1) (by decide); have d2 := pre_at hW h3 h4 he (f := 2) (by decide); have d3 := pre_at hW h3 h4 he (f := 3) (by decide)
      have d4 := pre_at hW h3 h4 he (f := 4) (by decide); have d5 := pre_at hW h3 h4 he (f := 5) (by decide); have d6 := pre_at hW h3 h4 he (f := 6) (by decide); have d7 := pre_at hW h3 h4 he (f := 7) (by decide)
      rw [e1] at d1 c1; rw [e2] at d3 i1; rw [e3] at d4; rw [e4] at d5 i2; rw [e5] at d7 c2
      rw [Nat.zero_add]
      exact ⟨(l.1, l.2.2), (y.1, y.2.2), (x.1, x.2.2), (u.1, u.2.2), (t.1, t.2.2), d0, d1, d2, d3, d4, d5, d6, d7, c1, i1, i2, c2⟩
    | b _ => exact hjd.elim
    | i _ => exact hjd.elim
    | c _ _ => exact hjd.elim
theorem lloop_add {σ : Type} (f : σ → Option σ) (a : Nat) : ∀ (b : Nat) (s : σ), loopN f (a + b) s = (loopN f a s).bind (loopN f b)
  | 0, s => by simp only [Nat.add_zero]; cases h : loopN f a s <;> rfl
  | b + 1, s => by
    rw [← Nat.add_assoc, loopN_snoc, lloop_add f a b s]
    cases loopN f a s with
    | none => rfl
    | some x => rw [Option.bind_some, Option.bind_some, loopN_snoc]
/-- One item after another: what is left. -/
theorem lis_step {zs : List Int} {d : Nat} {m : Bool} {cnt : Nat} {R R2 : List Nod} {i : Nat} (hl : loopN (walkL triv d m) cnt (R, ()) = some (R2, ())) (hn : ∀ n ∈ R, n.k < 5 → n.cnt = 0) {k : Nat} (hk : k < cnt) : walkL triv d m ((lisF zs (loF zs d) cnt k R i).2.1, ()) = some ((lisF zs (loF zs d) cnt (k + 1) R i).2.1, ()) ∧ ∃ P, R = P ++ (lisF zs (loF zs d) cnt k R i).2.1 := by
  obtain ⟨b, rfl⟩ : ∃ b, cnt = k + (b + 1) := ⟨cnt - k - 1, by omega⟩
  rw [lloop_add, Option.bind_eq_some_iff] at hl
  obtain ⟨⟨R1, ⟨⟩⟩, h1, h2⟩ := hl
  rw [loopN, Option.bind_eq_some_iff] at h2
  obtain ⟨⟨R3, ⟨⟩⟩, h3, h4⟩ := h2
  have e1 := lis_rest (zs := zs) (fun R R2 i => lo_rest zs d m R R2 i) (k + (b + 1)) k R R1 i h1 hn
  have e2 := lis_rest (zs := zs) (fun R R2 i => lo_rest zs d m R R2 i) (k + (b + 1)) (k + 1) R R3 i (by rw [loopN_snoc, h1, Option.bind_some]; exact h3) hn
  rw [e1, e2]
  exact ⟨h3, (loop_splits (walk_splits triv d m).1 (walk_splits triv d m).2 k).2 R R1 h1⟩
theorem lis_end {zs : List Int} {d : Nat} {m : Bool} {cnt : Nat} {R R2 : List Nod} {i : Nat} (hl : loopN (walkL triv d m) cnt (R, ()) = some (R2, ())) (hn : ∀ n ∈ R, n.k < 5 → n.cnt = 0) : (lisF zs (loF zs d) cnt cnt R i).2.1 = R2 := lis_rest (zs := zs) (fun R R2 i => lo_rest zs d m R R2 i) cnt cnt R R2 i hl hn
theorem suf_drop {ns R' : List Nod} {j : Nat} {P : List Nod} (hP : ns.drop j = P ++ R') : R' = ns.drop (ns.length - R'.length) := by
  have h : ns = (ns.take j ++ P) ++ R' := by rw [List.append_assoc, ← hP, List.take_append_drop]
  generalize ns.take j ++ P = Q at h
  subst h
  simp
end Go.Proofs.YtakkdniikhgpdaaGreatDoor

namespace Go.Proofs.YtakkdniikhgpdaaGreatDoor
open Go.RowKit

/-- The contract of l6loose for values at the depth d. -/
def LoOk (F : Nat) (v : Value) (zs : List Int) (t : Tre) (d : Nat) : Prop :=
  ∀ (j : Nat) (R2 : List Nod) (m : Bool) (i : Nat) (Γ : Gk) (w : World) (nv tv : Sv), j < t.nodes.length → walkL triv d m (t.nodes.drop j, ()) = some (R2, ()) → KS F v zs i Γ w → JN (Pre Γ) nv t.nodes → JC (Pre Γ) tv t.tail →
    Calls Tryz.prog 71 #[.agg #[nv.v, tv.v], .int .i64 j, .pointer (some ⟨F, 0, none⟩)] w fun e w' => e = .returned (.string (strOfNums (loF zs d (t.nodes.drop j) i).1)) ∧ KD F v zs Γ w (loF zs d (t.nodes.drop j) i).2.2 Γ w'

set_option maxHeartbeats 8000000 in
set_option maxRecDepth 100000 in
theorem loose_scal {F : Nat} {v : Value} {zs : List Int} (hz : Zk zs) (t : Tre) (hG : ∀ p ∈ t.nodes, Gx p) (hN : t.nodes.length ≤ 341) (d : Nat) (j i : Nat) (Γ : Gk) (w : World) (nv tv : Sv) (hj : j < t.nodes.length) (hk5 : t.nodes[j].k < 5) (hs : KS F v zs i Γ w) (hJN : JN (Pre Γ) nv t.nodes) (hJC : JC (Pre Γ) tv t.tail) :
    Calls Tryz.prog 71 #[.agg #[nv.v, tv.v], .int .i64 j, .pointer (some ⟨F, 0, none⟩)] w fun e w' => e = .returned (.string (strOfNums (loF zs (d + 1) (t.nodes.drop j) i).1)) ∧ KD F v zs Γ w (loF zs (d + 1) (t.nodes.drop j) i).2.2 Γ w' := by
  have hdr : t.nodes.drop j = t.nodes[j] :: t.nodes.drop (j + 1) := List.drop_eq_getElem_cons hj
  have hg := hG _ (List.getElem_mem hj)
  have HP : Hid (loF zs (d + 1) (t.nodes.drop j) i = if t.nodes[j].k = 4 then ((lqF zs t.nodes[j].units i).1, t.nodes.drop (j + 1), (lqF zs t.nodes[j].units i).2) else (scalW t.nodes[j], t.nodes.drop (j + 1), i)) := by
    unfold Hid
    rw [hdr]
    simp only [loF]
    by_cases h4 : t.nodes[j].k = 4
    · rw [if_pos h4, if_pos h4]
    · rw [if_neg h4, if_neg h4, if_pos hk5]
  have eT := hJC.len hs.mt
  obtain ⟨ta, tn, tcap⟩ := tv
  simp only at eT
  cases eT
  obtain ⟨b, off, cap, rfl, hc1, hc2, hFb, hbw, hat⟩ := hJN.base hs.mt (by omega)
  unfold maxLen at hc2
  obtain ⟨wA, hwA⟩ : ∃ wA, wA = w.alloc (Obj.cells #[.slice (some ⟨b, off, none⟩) t.nodes.length cap, .slice ta t.tail.length tcap] 100) := ⟨_, rfl⟩
  have gA : w.grownBy wA none := by rw [hwA]; exact World.grownBy_alloc _ _ _
  have hp : ∃ l y x u tl, Ndp Γ wA b (off + j * 8) t.nodes[j] l y x u tl := hat wA (hs.mt.grown gA (fun x e => by cases e)) j hj
  obtain ⟨l, y, x, u, tl, hp⟩ := hp
  have z0 := hp.k; have z1 := hp.lead; have z2 := hp.mem; have z3 := hp.key; have z4 := hp.text; have z5 := hp.units; have z6 := hp.cnt; have z7 := hp.tail
  obtain ⟨W3, hW3⟩ : ∃ W3, W3 = wA.alloc (Obj.cells #[.int .i64 t.nodes[j].k, .slice l.1 t.nodes[j].lead.length l.2, .bool t.nodes[j].mem, .slice y.1 t.nodes[j].key.length y.2, .slice x.1 t.nodes[j].text.length x.2, .slice u.1 t.nodes[j].units.length u.2, .int .i64 t.nodes[j].cnt, .slice tl.1 t.nodes[j].tail.length tl.2] 119) := ⟨_, rfl⟩
  have gg : w.grownBy W3 none := by rw [hW3]; exact grown_trans gA (World.grownBy_alloc _ _ _)
  have D3 := (KD.refl hs).keep gg
  have HD3 := hide D3
  by_cases h4 : t.nodes[j].k = 4
  · have HE := hide (HP.out.trans (if_pos h4))
    have HQ := hide (looseQuote_k D3.st hz (u.1, t.nodes[j].units.length, u.2) t.nodes[j].units hp.ju hg.l.units hg.g.b.units.1)
    simp only [Sv.v] at HQ ⊢
    rw [h4] at z0 hW3 hk5
    rw [hW3] at HQ
    subst hwA
    generalize t.nodes[j] = p at *
    have HW3 := hide hW3
    clear hs hJN hJC hat hp gA gg D3 HP hG hz hg hW3 h4 hdr
    go_enter Tryz.func71, Tryz.ntmps71
    go_wp2_with fail
    refine HQ.out.mono ?_
    rintro e w1 ⟨rfl, D1⟩
    rw [← HW3.out] at D1
    have HD := hide (HD3.out.trans D1)
    clear D1 HQ HD3
    go_wp2
    go_ret
    rw [HE.out]
    exact ⟨rfl, HD.out⟩
  · have HE := hide (HP.out.trans (if_neg h4))
    have hk0 := hg.g.k.1
    have HO := hide (lone_scal t j hj hk0 (by omega) hg.l.text hg.g.b.text _ _ W3 ⟨hJN.rd D3.st.mt, hJC.rd D3.st.mt⟩)
    have hne : (t.nodes[j].k == 4) = false := by simpa using h4
    have hlt : decide (t.nodes[j].k < 5) = true := by simpa using hk5
    simp only [Sv.v] at HO ⊢
    rw [hW3] at HO
    subst hwA
    have HW3 := hide hW3
    generalize t.nodes[j] = p at *
    clear hs hJN hJC hat hp gA gg D3 HP hG hz hg hW3 hdr
    go_enter Tryz.func71, Tryz.ntmps71
    go_wp2_with fail
    refine HO.out.mono ?_
    rintro e w1 ⟨v1, rfl, o1, g1⟩
    rw [← HW3.out] at g1
    have hcv := conv_rd o1.rd
    obtain ⟨a1, c1, hv1, _, _⟩ := o1.sl
    generalize (scalW p).length = LL at *
    subst hv1
    have HD := hide (HD3.out.keep g1)
    clear o1 g1 HO HD3
    go_wp2
    go_ret
    rw [HE.out]
    exact ⟨rfl, HD.out⟩
end Go.Proofs.YtakkdniikhgpdaaGreatDoor

