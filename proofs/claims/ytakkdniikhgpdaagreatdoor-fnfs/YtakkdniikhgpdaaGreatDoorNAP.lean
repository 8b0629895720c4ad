import Derived.Test.YtakkdniikhgpdaaGreatDoorNAE
import Derived.Test.YtakkdniikhgpdaaGreatDoorNAN
namespace Go.Proofs.YtakkdniikhgpdaaGreatDoor
open Go.RowKit
attribute [-go_sem] Builtin.append_

/-- A text that lies apart from block F. -/
def Ab (F : Nat) (w : World) (v : Value) (t : List Int) : Prop := Sl v t.length ∧ ∀ W, w.grownBy W (some F) → RdB W.heap.size W v t
theorem Ab.mono {F : Nat} {w w' : World} {v : Value} {t : List Int} (h : Ab F w v t) (g : w.grownBy w' (some F)) : Ab F w' v t := ⟨h.1, fun W hW => h.2 W (grown_two g hW)⟩
theorem Ab.rd {F : Nat} {w : World} {v : Value} {t : List Int} (h : Ab F w v t) : RdB w.heap.size w v t := h.2 w (World.grownBy.refl _ _)
theorem ab_own {F B : Nat} {w : World} {v : Value} {t : List Int} (h : OwB B w v t) (hB : F < B) : Ab F w v t := by
  refine ⟨h.sl, fun W g => ?_⟩
  have : OwB B W v t := World.ownsRow.kept h g (by
    cases hv : v.ownBlock with
    | none => exact .inl rfl
    | some k => exact .inr (fun e => by have := World.ownsRow.lt h _ hv; simp only [Option.some.injEq] at e; omega))
  exact this.rd
theorem ab_tx {F B : Nat} {w : World} {v : Value} {t : List Int} {g : Option Nat} (h : TxR B w g v t) (hB : F < B) : Ab F w v t := by
  obtain ⟨a, cap, hv, h1, h2, h3⟩ := h
  refine ⟨⟨a, cap, hv, h1, h2⟩, fun W gr => ⟨a, cap, hv, fun h0 => ?_⟩⟩
  obtain ⟨b, off, ha, hb, hc⟩ := h3 h0
  exact ⟨b, off, ha, Nat.lt_of_lt_of_le hb.2.1 gr.size, fun j hj => gr.cell (hc j hj) (by have := hb.1; simp; omega)⟩

theorem ab_bw {F B : Nat} {w : World} {v : Value} {t : List Int} (h : Bw B w v t) (hB : F < B) : Ab F w v t := by
  rcases h with h | ⟨g, rfl, h1, h2, h3, h4⟩
  · exact ab_own h hB
  · exact ⟨⟨_, _, rfl, Nat.le_refl _, by unfold maxLen; omega⟩, fun W gr => ⟨_, _, rfl, fun _ => ⟨g, 0, rfl, Nat.lt_of_lt_of_le h2 gr.size, fun j hj => by rw [Nat.zero_add]; exact gr.cell (h4 j hj) (by simp; omega)⟩⟩⟩

set_option maxHeartbeats 4000000 in
set_option maxRecDepth 100000 in
/-- spec.l1fill. -/
theorem fill_any (c : Int) (n : Nat) (w : World) (hn : n ≤ 100000) :
    Calls Tryz.prog 38 #[.int .u8 c, .int .i64 n] w fun e w' => ∃ v', e = .returned v' ∧ Bw w.heap.size w' v' (List.replicate n c) ∧ w.grownBy w' none := by
  go_enter Tryz.func38, Tryz.ntmps38
  go_wp2
  go_loopw [5, 6] (fun o i W => ∃ (k : Nat), k ≤ n ∧ i = .int .i64 k ∧ Bw w.heap.size W o (List.replicate k c) ∧ w.grownBy W none)
    (fun _ i _ => n - (intOf i).toNat)
  case atStart => exact ⟨0, Nat.zero_le _, rfl, Bw.nil _ _, World.grownBy.refl _ _⟩
  case round =>
    obtain ⟨k, hk, rfl, ho, hg⟩ := hrel
    obtain ⟨oa, oc, hov, _, _⟩ := ho.sl
    have hlk : (List.replicate k c).length = k := by simp
    rw [hlk] at hov
    by_cases hlt : k < n
    · have HO := hide ho
      subst hov
      clear ho
      obtain ⟨v2, w2, run2, o2, g2, a2, c2, hv2⟩ := bw_one w.heap.size wr (.slice oa k oc) (List.replicate k c) c HO.out hg.size (by omega)
      rw [hlk] at hv2
      have HO2 : Hid (Bw w.heap.size w2 v2 (List.replicate (k + 1) c)) := by unfold Hid; rw [List.replicate_succ']; exact o2
      have HG2 : Hid (w.grownBy w2 none) := grown_new hg g2 (fun j e => (HO.out.lt j e).1)
      subst hv2
      clear o2 g2
      go_wp2
      go_roundw
      case rel => exact ⟨k + 1, by omega, by go_num, HO2.out, HG2.out⟩
      case measure => simp [intOf]; omega
    · obtain rfl : k = n := by omega
      subst hov
      go_wp2
      go_ret
      exact ⟨_, rfl, ho, hg⟩
end Go.Proofs.YtakkdniikhgpdaaGreatDoor

namespace Go.Proofs.YtakkdniikhgpdaaGreatDoor
open Go.RowKit
attribute [-go_sem] Builtin.append_
attribute [-go_sem] run_index_string

def soupW : List Int := [123, 125, 91, 93, 58, 44, 47, 42, 39, 34, 92, 49, 46, 45, 97, 32, 10, 128]
def soupS : ByteArray := { data := #[123, 125, 91, 93, 58, 44, 47, 42, 39, 34, 92, 49, 46, 45, 97, 32, 10, 128] }
/-- The first i bytes of a text, with a fault at place a. -/
def mutP (s : List Int) (k : Int) (a : Nat) (c : Int) (i : Nat) : List Int :=
  if i ≤ a then s.take i else s.take a ++ ((if k = 0 then [] else if k = 2 then [c] else [c, s[a]?.getD 0]) ++ (s.drop (a + 1)).take (i - (a + 1)))
def mutR (s : List Int) (k : Int) (a : Nat) (c : Int) : List Int := if k = 1 ∧ a < s.length then s.take a else mutP s k a c s.length
def mutF (zs s : List Int) (i : Nat) : List Int × Nat :=
  (mutR s ((nx zs i).1 % 5) (if 0 < s.length then (((nx zs (nx zs i).2).1 * 256 + 1 + (nx zs (nx zs (nx zs i).2).2).1) % s.length).toNat else 0) (soupW.getD ((nx zs (nx zs (nx zs (nx zs i).2).2).2).1 % 18).toNat 0), (nx zs (nx zs (nx zs (nx zs i).2).2).2).2)
theorem mutP_low {s : List Int} {k : Int} {a : Nat} {c : Int} {i : Nat} (h : i < a) (hi : i < s.length) : mutP s k a c (i + 1) = mutP s k a c i ++ [s[i]?.getD 0] := by
  unfold mutP
  rw [if_pos (by omega), if_pos (by omega), List.take_add_one, List.getElem?_eq_getElem hi]
  rfl
theorem mutP_at {s : List Int} {k : Int} {a : Nat} {c : Int} : mutP s k a c (a + 1) = mutP s k a c a ++ (if k = 0 then [] else if k = 2 then [c] else [c, s[a]?.getD 0]) := by
  unfold mutP
  rw [if_neg (show ¬ a + 1 ≤ a by omega), if_pos (Nat.le_refl a)]
  simp
theorem mutP_high {s : List Int} {k : Int} {a : Nat} {c : Int} {i : Nat} (h : a < i) (hi : i < s.length) : mutP s k a c (i + 1) = mutP s k a c i ++ [s[i]?.getD 0] := by
  unfold mutP
  rw [if_neg (show ¬ i + 1 ≤ a by omega), if_neg (show ¬ i ≤ a by omega), show i + 1 - (a + 1) = (i - (a + 1)) + 1 by omega, List.take_add_one, List.getElem?_drop, show a + 1 + (i - (a + 1)) = i by omega, List.getElem?_eq_getElem hi]
  simp
theorem mutP_bl {s : List Int} {L : Nat} (hs : BL L s) (k : Int) (a : Nat) {c : Int} (hc : 0 ≤ c ∧ c ≤ 255) : BL (2 * L + 2) (mutP s k a c s.length) := by
  have hl := hs.1
  have ht : BL L (s.take a) := ⟨by simp; omega, fun z hz => hs.2 z (List.mem_of_mem_take hz)⟩
  unfold mutP
  split
  · exact ⟨by simp; omega, fun z hz => hs.2 z (List.mem_of_mem_take hz)⟩
  · refine ht.app (B := L + 2) (BL.app (A := 2) (B := L) ?_ ⟨by simp; omega, fun z hz => hs.2 z (List.mem_of_mem_drop (List.mem_of_mem_take hz))⟩ (by omega)) (by omega)
    split
    · exact bl_nil
    · split
      · exact (bl_one hc).up (by omega)
      · exact (bl_one hc).app (bl_one (hs.2.get a)) (by omega)
theorem soup_b (n : Nat) : 0 ≤ soupW.getD n 0 ∧ soupW.getD n 0 ≤ 255 := by
  by_cases hn : n < soupW.length
  · have : soupW.all (fun z => decide (0 ≤ z ∧ z ≤ 255)) = true := by decide
    have := List.all_eq_true.1 this _ (List.getElem_mem hn)
    rw [List.getD_eq_getElem?_getD, List.getElem?_eq_getElem hn]
    simpa using this
  · rw [List.getD_eq_getElem?_getD, List.getElem?_eq_none (by omega)]; simp
theorem mut_bl {zs s : List Int} (hs : BL 4000000 s) (i : Nat) : BL 8000002 (mutF zs s i).1 := by
  unfold mutF
  simp only
  generalize (if 0 < s.length then (((nx zs (nx zs i).2).1 * 256 + 1 + (nx zs (nx zs (nx zs i).2).2).1) % s.length).toNat else 0) = a
  unfold mutR
  split
  · exact ⟨by have := hs.1; simp; omega, fun z hz => hs.2 z (List.mem_of_mem_take hz)⟩
  · exact mutP_bl hs _ _ (soup_b _)
theorem soup_at (p : Int) (W : World) : (Instr.index 9 (.string soupS) (.int .i64 (p % 18))).run Tryz.prog W = .ok (.int .u8 (soupW.getD (p % 18).toNat 0)) W := by
  obtain ⟨n, hn⟩ := Int.eq_ofNat_of_zero_le (show 0 ≤ p % 18 by omega)
  have h : n < 18 := by omega
  rw [hn]
  rw [run_index_string W 9 soupS .i64 (n : Int) Tryz.underlying9]
  have hs : soupS.size = 18 := rfl
  rw [dif_pos ⟨by omega, by rw [hs]; omega⟩]
  congr 2
  match n, h with
  | 0, _ => rfl
  | 1, _ => rfl
  | 2, _ => rfl
  | 3, _ => rfl
  | 4, _ => rfl
  | 5, _ => rfl
  | 6, _ => rfl
  | 7, _ => rfl
  | 8, _ => rfl
  | 9, _ => rfl
  | 10, _ => rfl
  | 11, _ => rfl
  | 12, _ => rfl
  | 13, _ => rfl
  | 14, _ => rfl
  | 15, _ => rfl
  | 16, _ => rfl
  | 17, _ => rfl
  | n + 18, h => omega

set_option maxHeartbeats 8000000 in
set_option maxRecDepth 100000 in
/-- spec.l6mutate. -/
theorem mutate_k {F : Nat} {v : Value} {zs : List Int} (hz : Zk zs) (i : Nat) (Γ : Gk) (w : World) (hs : KS F v zs i Γ w) (sv : Value) (s : List Int) (hA : Ab F w sv s) (hl : s.length ≤ 4000000) :
    Calls Tryz.prog 63 #[sv, .pointer (some ⟨F, 0, none⟩)] w fun e w' => ∃ v', e = .returned v' ∧ Ab F w' v' (mutF zs s i).1 ∧ KD F v zs Γ w (mutF zs s i).2 Γ w' := by
  have HZ := hide hz
  have HP : Hid (mutF zs s i = (mutR s ((nx zs i).1 % 5) (if 0 < s.length then (((nx zs (nx zs i).2).1 * 256 + 1 + (nx zs (nx zs (nx zs i).2).2).1) % s.length).toNat else 0) (soupW.getD ((nx zs (nx zs (nx zs (nx zs i).2).2).2).1 % 18).toNat 0), (nx zs (nx zs (nx zs (nx zs i).2).2).2).2)) := rfl
  have HN1 := hide ((KD.refl hs).next hz)
  have hb1 := nx_bd hz.by' i
  have hb2 := nx_bd hz.by' (nx zs i).2
  have hb3 := nx_bd hz.by' (nx zs (nx zs i).2).2
  have hb4 := nx_bd hz.by' (nx zs (nx zs (nx zs i).2).2).2
  obtain ⟨a0, cap, hsv, hc1, hc2⟩ := hA.1
  have HA := hide hA
  have hFw := hs.lt
  subst hsv
  generalize hn1 : nx zs i = n1 at *
  have HN2' : Hid (∀ W, KD F v zs Γ w n1.2 Γ W → _) := fun W (D : KD F v zs Γ w n1.2 Γ W) => D.next hz
  generalize hn2 : nx zs n1.2 = n2 at *
  have HN3' : Hid (∀ W, KD F v zs Γ w n2.2 Γ W → _) := fun W (D : KD F v zs Γ w n2.2 Γ W) => D.next hz
  generalize hn3 : nx zs n2.2 = n3 at *
  have HN4' : Hid (∀ W, KD F v zs Γ w n3.2 Γ W → _) := fun W (D : KD F v zs Γ w n3.2 Γ W) => D.next hz
  generalize hn4 : nx zs n3.2 = n4 at *
  have hsp := fun W => soup_at n4.1 W
  unfold soupS at hsp
  have hcb := soup_b (n4.1 % 18).toNat
  generalize soupW.getD (n4.1 % 18).toNat 0 = c at *
  clear hs hz hA hn1 hn2 hn3 hn4
  go_enter Tryz.func63, Tryz.ntmps63
  go_wp2_with fail
  refine HN1.out.mono ?_
  rintro e w1 ⟨rfl, D1, _⟩
  have HN2 := hide (HN2'.out w1 D1)
  clear HN1 HN2' D1
  go_wp2_with fail
  refine HN2.out.mono ?_
  rintro e w2 ⟨rfl, D2, _⟩
  have HN3 := hide (HN3'.out w2 D2)
  clear HN2 HN3' D2
  go_wp2_with fail
  refine HN3.out.mono ?_
  rintro e w3 ⟨rfl, D3, _⟩
  have HN4 := hide (HN4'.out w3 D3)
  clear HN3 HN4' D3
  go_wp2_with fail
  refine HN4.out.mono ?_
  rintro e w4 ⟨rfl, D4, _⟩
  have HD4 := hide D4
  have HA4 := hide (HA.out.mono D4.gr).rd
  have hw4 := D4.gr.size
  clear HN4 D4 HA
  obtain ⟨a, ha⟩ : ∃ a : Nat, (if 0 < s.length then ((n2.1 * 256 + 1 + n3.1) % s.length).toNat else 0) = a := ⟨_, rfl⟩
  rw [ha] at HP
  obtain ⟨k, hk⟩ : ∃ k : Int, n1.1 % 5 = k := ⟨_, rfl⟩
  rw [hk] at HP ⊢
  have hkb : 0 ≤ k ∧ k < 5 := by omega
  by_cases hpos : 0 < s.length
  · rw [if_pos hpos] at ha
    have haz : (n2.1 * 256 + 1 + n3.1) % (s.length : Int) = (a : Int) := by
      have := Int.emod_nonneg (n2.1 * 256 + 1 + n3.1) (show (s.length : Int) ≠ 0 by omega)
      omega
    have hal : a < s.length := by
      have := Int.emod_lt_of_pos (n2.1 * 256 + 1 + n3.1) (show (0 : Int) < s.length by omega)
      omega
    have hne0 : ¬ (s.length : Int) = 0 := by omega
    have hpos' : (0 : Int) < s.length := by omega
    clear ha hk hb1
    have hkn : (k == 0) = decide (k = 0) := rfl
    go_wp2
    rw [haz]
    clear haz hsp hb2 hb3 hb4 hkn
    go_loopw [10, 11] (fun o i W => ∃ q : Nat, q ≤ s.length ∧ i = .int .i64 q ∧ (k = 1 → q ≤ a) ∧ Bw w4.heap.size W o (mutP s k a c q) ∧ w4.grownBy W none)
      (fun _ i _ => s.length - (intOf i).toNat)
    case atStart => exact ⟨0, Nat.zero_le _, rfl, fun _ => Nat.zero_le _, by rw [show mutP s k a c 0 = [] by simp [mutP]]; exact Bw.nil _ _, World.grownBy.refl _ _⟩
    case round =>
      obtain ⟨q, hq, rfl, hq1, ho, hg⟩ := hrel
      obtain ⟨oa, oc, hov, _, _⟩ := ho.sl
      have hml : (mutP s k a c q).length ≤ 8000002 := by
        unfold mutP
        split
        · simp; omega
        · simp only [List.length_append, List.length_take, List.length_drop]
          have : (if k = 0 then [] else if k = 2 then [c] else [c, s[a]?.getD 0] : List Int).length ≤ 2 := by split; simp; split <;> simp
          omega
      generalize hLL : (mutP s k a c q).length = LL at *
      by_cases hlt : q < s.length
      · obtain ⟨a', cap', e, hr⟩ := HA4.out.keep hg
        simp only [Value.slice.injEq, true_and] at e
        obtain ⟨rfl, rfl⟩ := e
        obtain ⟨b, off, rfl, hbb, hc⟩ := hr (fun e => by rw [e] at hlt; simp at hlt)
        have hck := hc q hlt
        have HLO := hide (fun h : q < a => mutP_low (s := s) (k := k) (c := c) h hlt)
        have HHI := hide (fun h : a < q => mutP_high (s := s) (k := k) (c := c) h hlt)
        have HAT := hide (mutP_at (s := s) (k := k) (a := a) (c := c))
        have HO := hide ho
        subst hov
        clear hr hc ho
        rcases Nat.lt_trichotomy q a with h | h | h
        · have HT := hide (HLO.out h)
          have hne : ((q : Int) == (a : Int)) = false := by simp; omega
          clear HLO HHI HAT
          generalize s[q]?.getD 0 = z at *
          obtain ⟨v2, w5, run2, o2, g2, a2, c2, hv2⟩ := bw_one w4.heap.size wr (.slice oa LL oc) (mutP s k a c q) z HO.out hg.size (by omega)
          have HO2 : Hid (Bw w4.heap.size w5 v2 (mutP s k a c (q + 1))) := by unfold Hid; rw [HT.out]; exact o2
          have HG2 : Hid (w4.grownBy w5 none) := grown_new hg g2 (fun j e => (HO.out.lt j e).1)
          rw [hLL] at hv2
          subst hv2
          clear o2 g2
          go_wp2
          go_roundw
          case rel => exact ⟨q + 1, by omega, by go_num, fun h => by omega, HO2.out, HG2.out⟩
          case measure => simp [intOf]; omega
        · subst h
          generalize s[q]?.getD 0 = z at *
          have hat := HAT.out
          clear HLO HHI HAT
          by_cases h0 : k = 0
          · rw [if_pos h0, List.append_nil] at hat
            have HO2 : Hid (Bw w4.heap.size wr (.slice oa LL oc) (mutP s k q c (q + 1))) := by unfold Hid; rw [hat]; exact HO.out
            have HG2 := hide hg
            clear hat HO
            subst h0
            go_wp2
            go_roundw
            case rel => exact ⟨q + 1, by omega, by go_num, fun h => by omega, HO2.out, HG2.out⟩
            case measure => simp [intOf]; omega
          by_cases h1 : k = 1
          · have HR : Hid (mutR s k q c = mutP s k q c q) := by unfold Hid mutR mutP; rw [if_pos ⟨h1, hlt⟩, if_pos (Nat.le_refl q)]
            have HG2 := hide hg
            have HKK := hide h1
            clear hat
            rw [h1]
            go_wp2
            go_ret
            rw [HP.out, HR.out]
            exact ⟨_, rfl, ab_bw HO.out (by omega), HD4.out.keep HG2.out⟩
          by_cases h2 : k = 2
          · rw [if_neg h0, if_pos h2] at hat
            have HT := hide hat
            clear hat
            obtain ⟨v2, w5, run2, o2, g2, a2, c2, hv2⟩ := bw_one w4.heap.size wr (.slice oa LL oc) (mutP s k q c q) c HO.out hg.size (by omega)
            have HO2 : Hid (Bw w4.heap.size w5 v2 (mutP s k q c (q + 1))) := by unfold Hid; rw [HT.out]; exact o2
            have HG2 : Hid (w4.grownBy w5 none) := grown_new hg g2 (fun j e => (HO.out.lt j e).1)
            rw [hLL] at hv2
            subst hv2
            clear o2 g2 HO HT
            subst h2
            go_wp2
            go_roundw
            case rel => exact ⟨q + 1, by omega, by go_num, fun h => by omega, HO2.out, HG2.out⟩
            case measure => simp [intOf]; omega
          · rw [if_neg h0, if_neg h2] at hat
            have HT := hide hat
            clear hat
            have b0 : (k == 0) = false := by simpa using h0
            have b1 : (k == 1) = false := by simpa using h1
            have b2 : (k == 2) = false := by simpa using h2
            obtain ⟨v2, w5, run2, o2, g2, a2, c2, hv2⟩ := bw_one w4.heap.size wr (.slice oa LL oc) (mutP s k q c q) c HO.out hg.size (by omega)
            have g5 : w4.grownBy w5 none := grown_new hg g2 (fun j e => (HO.out.lt j e).1)
            have hck5 : w5.cell? ⟨b, off + q, none⟩ = some (.int .u8 z) := g2.cell hck (fun e => by have := (HO.out.lt b e.symm).1; omega)
            obtain ⟨v3, w6, run3, o3, g3, a3, c3, hv3⟩ := bw_one w4.heap.size w5 v2 (mutP s k q c q ++ [c]) z o2 g5.size (by simp; omega)
            have HO2 : Hid (Bw w4.heap.size w6 v3 (mutP s k q c (q + 1))) := by unfold Hid; rw [HT.out]; rw [List.append_assoc] at o3; exact o3
            have HG2 : Hid (w4.grownBy w6 none) := grown_new g5 g3 (fun j e => (o2.lt j e).1)
            rw [hLL] at hv2
            rw [List.length_append, hLL, List.length_singleton] at hv3
            subst hv2 hv3
            clear o2 g2 HO HT o3 g3 g5
            go_wp2
            go_roundw
            case rel => exact ⟨q + 1, by omega, by go_num, fun h => by omega, HO2.out, HG2.out⟩
            case measure => simp [intOf]; omega
        · have HT := hide (HHI.out h)
          have hne : ((q : Int) == (a : Int)) = false := by simp; omega
          have hkq : k ≠ 1 := fun e => by have := hq1 e; omega
          clear HLO HHI HAT
          generalize s[q]?.getD 0 = z at *
          obtain ⟨v2, w5, run2, o2, g2, a2, c2, hv2⟩ := bw_one w4.heap.size wr (.slice oa LL oc) (mutP s k a c q) z HO.out hg.size (by omega)
          have HO2 : Hid (Bw w4.heap.size w5 v2 (mutP s k a c (q + 1))) := by unfold Hid; rw [HT.out]; exact o2
          have HG2 : Hid (w4.grownBy w5 none) := grown_new hg g2 (fun j e => (HO.out.lt j e).1)
          rw [hLL] at hv2
          subst hv2
          clear o2 g2
          go_wp2
          go_roundw
          case rel => exact ⟨q + 1, by omega, by go_num, fun h => by omega, HO2.out, HG2.out⟩
          case measure => simp [intOf]; omega
      · obtain rfl : q = s.length := by omega
        have HR : Hid (mutR s k a c = mutP s k a c s.length) := by
          unfold Hid mutR
          rw [if_neg (fun h => by have := hq1 h.1; omega)]
        have HO := hide ho
        have HG2 := hide hg
        subst hov
        clear ho hg
        go_wp2
        go_ret
        rw [HP.out, HR.out]
        exact ⟨_, rfl, ab_bw HO.out (by omega), HD4.out.keep HG2.out⟩
  · rw [if_neg hpos] at ha
    have hs0 : s = [] := by rw [← List.length_eq_zero_iff]; omega
    subst hs0
    subst ha
    have HR : Hid (mutR [] k 0 c = []) := by unfold Hid mutR mutP; simp
    clear hpos
    go_wp2
    go_loopw [10, 11] (fun o i W => i = .int .i64 0 ∧ o = .slice none 0 0 ∧ W = w4) (fun _ _ _ => 0)
    case atStart => exact ⟨rfl, rfl, rfl⟩
    case round =>
      obtain ⟨rfl, rfl, rfl⟩ := hrel
      go_wp2
      go_ret
      rw [HP.out, HR.out]
      exact ⟨_, rfl, ab_bw (Bw.nil (F + 1) _) (by omega), HD4.out⟩
end Go.Proofs.YtakkdniikhgpdaaGreatDoor

