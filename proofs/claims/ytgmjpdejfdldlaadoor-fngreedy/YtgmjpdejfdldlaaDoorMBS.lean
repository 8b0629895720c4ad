import Derived.Test.YtgmjpdejfdldlaaDoorMAA
import Derived.Test.YtgmjpdejfdldlaaDoorMBN
import Derived.Test.YtgmjpdejfdldlaaDoorMBO
import Derived.Test.YtgmjpdejfdldlaaDoorMBP
import Derived.Test.YtgmjpdejfdldlaaDoorMBQ
import Derived.Test.YtgmjpdejfdldlaaDoorMBR
namespace Go.Proofs.YtgmjpdejfdldlaaDoor
open Go.RowKit

theorem sameN_false_of {za zb : List Int} (k : Nat) (h : za[k]?.getD 0 ≠ zb[k]?.getD 0) : decide (za = zb) = false := by
  simp only [decide_eq_false_iff_not]; intro e; exact h (by rw [e])

set_option maxHeartbeats 400000 in
set_option maxRecDepth 100000 in
theorem sameN_any (va vb : Value) (za zb : List Int) (w : World) (ha : Rd .i64 w.heap.size w va za) (hb : Rd .i64 w.heap.size w vb zb) (hn : za.length ≤ 600000000) :
    Calls Tryd.prog 11 #[va, vb] w fun e w' => e = .returned (.bool (decide (za = zb))) ∧ ∃ m, w' = w.drewN m := by
  obtain ⟨a, capa, rfl, hra⟩ := ha
  obtain ⟨b, capb, rfl, hrb⟩ := hb
  by_cases hl : za.length = zb.length
  · have hne : ((za.length : Int) != (zb.length : Int)) = false := by simp [hl]
    have HL : Hid (za.length = zb.length) := hl
    clear hl
    go_enter Tryd.func11, Tryd.ntmps11
    go_wp2
    go_loopw [5] (fun i wr => ∃ k m : Nat, k ≤ za.length ∧ i = .int .i64 k ∧ za.take k = zb.take k ∧ wr = w.drewN m)
      (fun i _ => za.length - (intOf i).toNat)
    case atStart => exact ⟨0, 0, Nat.zero_le _, rfl, by simp, rfl⟩
    case round =>
      obtain ⟨k, m, hk, rfl, ht, hwr⟩ := hrel
      subst hwr
      by_cases hlt : k < za.length
      · have hlt2 : k < zb.length := by rw [← HL.out]; exact hlt
        obtain ⟨ba, offa, rfl, hba, hca⟩ := hra (fun h => by simp [h] at hlt)
        obtain ⟨bb, offb, rfl, hbb, hcb⟩ := hrb (fun h => by simp [h] at hlt2)
        have hxa := hca k hlt
        have hxb := hcb k hlt2
        have hta := take_snoc za k hlt
        have htb := take_snoc zb k hlt2
        have hla : (k : Int) < (za.length : Int) := by omega
        have hlb : (k : Int) < (zb.length : Int) := by omega
        clear hca hcb hra hrb
        by_cases hz : za[k]?.getD 0 = zb[k]?.getD 0
        · have HT : Hid (za.take (k + 1) = zb.take (k + 1)) := by unfold Hid; rw [hta, htb, ht, hz]
          clear hta htb ht
          rw [← hz] at hxb
          clear hz
          generalize za[k]?.getD 0 = z at hxa hxb
          go_wp2
          go_quiet (fail)
          go_wp2
          go_roundw
          case rel => exact ⟨k + 1, _, by omega, by go_num, HT.out, rfl⟩
          case measure => simp [intOf]; omega
        · have HF : Hid (decide (za = zb) = false) := sameN_false_of k hz
          generalize za[k]?.getD 0 = z at hxa hz
          generalize zb[k]?.getD 0 = z2 at hxb hz
          clear hta htb ht
          have hz2 : (z != z2) = true := by simp [hz]
          clear hz
          go_wp2
          go_quiet (fail)
          go_wp2
          go_ret
          exact ⟨by rw [HF.out]; rfl, m + nq, by rw [World.drewN_drewN]⟩
      · have HF : Hid (decide (za = zb) = true) := by
          unfold Hid
          rw [List.take_of_length_le (by omega), List.take_of_length_le (by have := HL.out; omega)] at ht
          simp [ht]
        clear ht
        go_wp2
        go_ret
        exact ⟨by rw [HF.out]; rfl, _, rfl⟩
  · have hne : ((za.length : Int) != (zb.length : Int)) = true := by simp; omega
    have HF : Hid (decide (za = zb) = false) := by
      unfold Hid
      simp only [decide_eq_false_iff_not]; intro e; exact hl (by rw [e])
    clear hl
    go_enter Tryd.func11, Tryd.ntmps11
    go_wp2
    go_ret
    exact ⟨by rw [HF.out]; rfl, 0, rfl⟩

theorem sameN_same (va vb : Value) (zs : List Int) (w : World) (ha : Rd .i64 w.heap.size w va zs) (hb : Rd .i64 w.heap.size w vb zs) (hn : zs.length ≤ 600000000) :
    Calls Tryd.prog 11 #[va, vb] w fun e w' => e = .returned (.bool true) ∧ w.grownBy w' none := by
  refine (sameN_any va vb zs zs w ha hb hn).mono ?_
  rintro e w' ⟨rfl, m, rfl⟩
  exact ⟨by simp, grown_drewN (World.grownBy.refl _ _) m⟩

end Go.Proofs.YtgmjpdejfdldlaaDoor

namespace Go.Proofs.YtgmjpdejfdldlaaDoor
open Go.RowKit

theorem rdP_part {B b off cap : Nat} {w : World} {doc : List Pc} (h : RdP B w (.slice (some ⟨b, off, none⟩) doc.length cap) doc) {a i : Nat} (hai : a < i) (hi : i ≤ doc.length) : RdP B w (.slice (some ⟨b, off + a * 3, none⟩) (i - a) (cap - a)) (subD doc a i) := by
  obtain ⟨a', cap', e, h1, h2, hh⟩ := h
  cases e
  have hl := sub_len (a := a) hi
  refine ⟨_, cap - a, by rw [hl], by rw [hl]; omega, by omega, fun _ => ?_⟩
  obtain ⟨b', off', ha, hb, hc⟩ := hh (fun e => by rw [e] at hi; simp at hi; omega)
  cases ha
  refine ⟨b, off + a * 3, rfl, hb, fun j p hp => ?_⟩
  have hjl := (List.getElem?_eq_some_iff.1 hp).1
  unfold subD at hp
  rw [List.getElem?_take, if_pos (by omega), List.getElem?_drop] at hp
  obtain ⟨tv, ht⟩ := hc (a + j) p hp
  exact ⟨tv, by rw [show off + a * 3 + j * 3 = off + (a + j) * 3 by omega]; exact ht⟩
theorem RdP.cap {B w a n cap doc} (h : RdP B w (.slice a n cap) doc) : doc.length ≤ cap ∧ cap ≤ maxLen := by
  obtain ⟨a', cap', e, h1, h2, _⟩ := h
  cases e
  exact ⟨h1, h2⟩
theorem psok_doc {doc : List Pc} (h : PsOk doc) : Doc doc := by
  have hl := mes_len doc
  have h1 := h.1
  refine ⟨by omega, fun p hp => by have := mes_mem doc p hp; omega, ?_, h.2⟩
  have : ∀ d : List Pc, sumT d ≤ mes d := fun d => by
    induction d with
    | nil => simp [sumT, mes]
    | cons p d ih => simp only [sumT, mes]; omega
  have := this doc
  omega
theorem sz_mes {doc : List Pc} {T : Tr} (h : bd doc [] = some [T]) : sz T ≤ mes doc := by
  have h1 := bd_sz doc [] [T] h
  have : ∀ d : List Pc, sumT d + d.length = mes d := fun d => by
    induction d with
    | nil => simp [sumT, mes]
    | cons p d ih => simp only [sumT, mes, List.length_cons]; omega
  have := this doc
  simp only [szs] at h1
  omega
theorem grp_inj {doc : List Pc} {i k : Nat} {p q : Pc} (hp : doc[i]? = some p) (hq : doc[k]? = some q) (h1 : p.k = 8) (h2 : q.k = 8) (h : grp doc i = grp doc k) : i = k := by
  obtain ⟨hi, hpi⟩ := List.getElem?_eq_some_iff.1 hp
  obtain ⟨hk, hqk⟩ := List.getElem?_eq_some_iff.1 hq
  have a1 := grp_succ doc i hi
  have a2 := grp_succ doc k hk
  rw [hpi, if_pos h1] at a1
  rw [hqk, if_pos h2] at a2
  rcases Nat.lt_trichotomy i k with hlt | heq | hlt
  · have := grp_mono doc (k - (i + 1)) (i + 1) (by omega)
    rw [show i + 1 + (k - (i + 1)) = k by omega] at this
    omega
  · exact heq
  · have := grp_mono doc (i - (k + 1)) (k + 1) (by omega)
    rw [show k + 1 + (i - (k + 1)) = i by omega] at this
    omega

set_option maxHeartbeats 1000000 in
set_option maxRecDepth 100000 in
theorem greedy_long (a : Option Addr) (cap : Nat) (zs : List Int) (w : World) (hm : 1048576 < zs.length) (hlc : zs.length ≤ cap) (hcm : cap ≤ 9223372036854775807) :
    Calls Tryd.prog 3 #[.slice a zs.length cap] w fun e w' => e = .returned (.bool true) ∧ Below w.heap.size w w' := by
  have h1 : (1048576 : Int) < (zs.length : Int) := by omega
  have hx := Nat.le_trans hlc hcm
  go_enter Tryd.func3, Tryd.ntmps3
  go_wp2
  go_ret
  exact ⟨rfl, Below.refl _ _⟩

set_option maxHeartbeats 1000000 in
set_option maxRecDepth 100000 in
theorem greedy_bad (a : Option Addr) (cap : Nat) (zs : List Int) (w : World) (hv : RdB w.heap.size w (.slice a zs.length cap) zs) (hm : zs.length ≤ 1048576) (hby : Bys zs) (hlc : zs.length ≤ cap) (hcm : cap ≤ 9223372036854775807) (hn : layoutR (dLay zs).1 (dLay zs).2 = none) :
    Calls Tryd.prog 3 #[.slice a zs.length cap] w fun e w' => e = .returned (.bool true) ∧ Below w.heap.size w w' := by
  have hd := psok_doc (dAny_ok (zs := zs.take 500) (nx_le (Nat.zero_le _)))
  have HD1 := hide (drawLayout_any a cap zs w hv hby hm hlc hcm)
  have HDoc : Hid (Doc (dLay zs).1) := hd
  have HN := hide hn
  generalize (dLay zs).1 = doc at *
  generalize (dLay zs).2 = wd at *
  have h1 : ¬ (1048576 : Int) < (zs.length : Int) := by omega
  clear hv hd hn
  go_enter Tryd.func3, Tryd.ntmps3
  go_wp2_with fail
  refine HD1.out.mono ?_
  rintro e w1 ⟨dv, rfl, r1, g1⟩
  have HL := hide (specLayout_any dv doc wd w1 r1 HDoc.out)
  rw [HN.out] at HL
  obtain ⟨da, dc, hdv, _⟩ := id r1
  subst hdv
  clear HD1 r1
  go_wp2_with fail
  refine HL.out.mono ?_
  rintro e w2 h
  obtain ⟨rfl, g2⟩ := h
  clear HL
  go_wp2
  go_ret
  exact ⟨rfl, below_of_grown (grown_trans g1 g2)⟩

set_option maxHeartbeats 1000000 in
set_option maxRecDepth 100000 in
theorem greedy_many (a : Option Addr) (cap : Nat) (zs : List Int) (w : World) (hv : RdB w.heap.size w (.slice a zs.length cap) zs) (hm : zs.length ≤ 1048576) (hby : Bys zs) (hlc : zs.length ≤ cap) (hcm : cap ≤ 9223372036854775807) {out met : List Int} (hn : layoutR (dLay zs).1 (dLay zs).2 = some (out, met)) (h40 : 40 < grp (dLay zs).1 (dLay zs).1.length) :
    Calls Tryd.prog 3 #[.slice a zs.length cap] w fun e w' => e = .returned (.bool true) ∧ Below w.heap.size w w' := by
  have hd := psok_doc (dAny_ok (zs := zs.take 500) (nx_le (Nat.zero_le _)))
  have HD1 := hide (drawLayout_any a cap zs w hv hby hm hlc hcm)
  have HDoc : Hid (Doc (dLay zs).1) := hd
  have HN := hide hn
  generalize (dLay zs).1 = doc at *
  generalize (dLay zs).2 = wd at *
  have h1 : ¬ (1048576 : Int) < (zs.length : Int) := by omega
  clear hv hd hn
  go_enter Tryd.func3, Tryd.ntmps3
  go_wp2_with fail
  refine HD1.out.mono ?_
  rintro e w1 ⟨dv, rfl, r1, g1⟩
  have HL := hide (specLayout_any dv doc wd w1 r1 HDoc.out)
  rw [HN.out] at HL
  have HR1 := hide r1
  obtain ⟨da, dc, hdv, _⟩ := id r1
  subst hdv
  clear HD1 r1
  go_wp2_with fail
  refine HL.out.mono ?_
  rintro e w2 h
  obtain ⟨ov, mv, rfl, o1, o2, _, g2⟩ := h
  have HG := hide (groupsTo_any _ doc doc.length w2 ((HR1.out.keep g2).wide g2.size) HDoc.out.len (Nat.le_refl _))
  have h40' : (40 : Int) < (grp doc doc.length : Int) := by omega
  obtain ⟨oa, oc, hov, _⟩ := o1.sl
  obtain ⟨ma, mc, hmv, _⟩ := o2.sl
  subst hov hmv
  generalize grp doc doc.length = N at *
  clear HL o1 o2
  go_wp2_with fail
  refine HG.out.mono ?_
  rintro e w3 ⟨rfl, rfl⟩
  clear HG
  go_wp2
  go_ret
  exact ⟨rfl, below_of_grown (grown_trans g1 g2)⟩

end Go.Proofs.YtgmjpdejfdldlaaDoor

