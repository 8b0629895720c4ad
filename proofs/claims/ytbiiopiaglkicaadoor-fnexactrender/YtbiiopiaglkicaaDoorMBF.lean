import Derived.Handy
import Derived.Deep.RegionWith
import Derived.Test.YtbiiopiaglkicaaDoorMAA
import Derived.Test.YtbiiopiaglkicaaDoorMAC
import Derived.Test.YtbiiopiaglkicaaDoorMBE
namespace Go.Proofs.YtbiiopiaglkicaaDoor
open Go.RowKit

def IndOk (it : Item) : Prop := okN it.T ∧ it.ind + nestT it.T ≤ 4000
theorem lay_out (width : Int) (given : Option (List Int)) : ∀ (f : Nat) (its : List Item) (out met : List Int) (col : Int) (o m : List Int), (∀ it ∈ its, IndOk it) → lay width given f its out met col = some (o, m) → o.length ≤ out.length + 4001 * szs (trs its)
  | 0, _, _, _, _, _, _, _, h => by simp [lay] at h
  | f + 1, [], out, met, col, o, m, _, h => by simp only [lay, Option.some.injEq, Prod.mk.injEq] at h; rw [h.1]; omega
  | f + 1, ⟨.leaf p, n, ind⟩ :: rest, out, met, col, o, m, hi, h => by
    simp only [lay] at h
    rw [trs_cons]
    simp only [szs, sz]
    have hr : ∀ it ∈ rest, IndOk it := fun it hit => hi it (List.mem_cons_of_mem _ hit)
    have h0 := (hi ⟨.leaf p, n, ind⟩ (by simp)).2
    simp only [nestT] at h0
    have hnl := newLine_len ind (by omega)
    split at h
    · have := lay_out width given f _ _ _ _ _ _ hr h
      rw [List.length_append] at this
      omega
    · split at h
      · have := lay_out width given f _ _ _ _ _ _ hr h
        simp only [List.length_append, List.length_cons, List.length_nil] at this
        omega
      · split at h
        · have := lay_out width given f _ _ _ _ _ _ hr h
          rw [List.length_append] at this
          omega
        · have := lay_out width given f _ _ _ _ _ _ hr h
          omega
  | f + 1, ⟨.bin p x y, n, ind⟩ :: rest, out, met, col, o, m, hi, h => by
    simp only [lay] at h
    rw [trs_cons]
    simp only [szs, sz]
    have hr : ∀ it ∈ rest, IndOk it := fun it hit => hi it (List.mem_cons_of_mem _ hit)
    have h0 := hi ⟨.bin p x y, n, ind⟩ (by simp)
    simp only [IndOk, okN, nestT] at h0
    have hx : IndOk ⟨x, n, ind⟩ := ⟨h0.1.1, by simp only; omega⟩
    have hy : IndOk ⟨y, n + cntG x, ind⟩ := ⟨h0.1.2, by simp only; omega⟩
    split at h
    · have := lay_out width given f _ _ _ _ _ _ (fun it hit => by
        rcases List.mem_cons.1 hit with rfl | hit
        · exact hx
        · rcases List.mem_cons.1 hit with rfl | hit
          · exact hy
          · exact hr it hit) h
      rw [trs_cons, trs_cons] at this
      simp only [szs] at this
      omega
    · have := lay_out width given f _ _ _ _ _ _ (fun it hit => by
        rcases List.mem_cons.1 hit with rfl | hit
        · exact hx
        · exact hr it hit) h
      rw [trs_cons] at this
      simp only [szs] at this
      omega
  | f + 1, ⟨.un p x, n, ind⟩ :: rest, out, met, col, o, m, hi, h => by
    simp only [lay] at h
    rw [trs_cons]
    simp only [szs, sz]
    have hr : ∀ it ∈ rest, IndOk it := fun it hit => hi it (List.mem_cons_of_mem _ hit)
    have h0 := hi ⟨.un p x, n, ind⟩ (by simp)
    simp only [IndOk, okN, nestT] at h0
    have hx1 : IndOk ⟨x, n, ind + p.n⟩ := ⟨h0.1.2, by simp only; omega⟩
    have hx : IndOk ⟨x, n, ind⟩ := ⟨h0.1.2, by simp only; omega⟩
    have hone : ∀ i, IndOk ⟨x, n, i⟩ → ∀ it ∈ (⟨x, n, i⟩ : Item) :: rest, IndOk it := fun i hh it hit => by
      rcases List.mem_cons.1 hit with rfl | hit
      · exact hh
      · exact hr it hit
    have fin1 : ∀ i (oo mm : List Int) (c : Int), IndOk ⟨x, n, i⟩ → lay width given f (⟨x, n, i⟩ :: rest) oo mm c = some (o, m) → oo.length ≤ out.length → o.length ≤ out.length + 4001 * (p.t.length + 1 + sz x + szs (trs rest)) := fun i oo mm c hh hq hl => by
      have := lay_out width given f _ _ _ _ _ _ (hone i hh) hq
      rw [trs_cons] at this
      simp only [szs] at this
      omega
    have fin2 : ∀ (text mm : List Int) (c : Int), flatT x [] = some text → lay width given f rest (out ++ text) mm c = some (o, m) → o.length ≤ out.length + 4001 * (p.t.length + 1 + sz x + szs (trs rest)) := fun text mm c hf hq => by
      have := lay_out width given f _ _ _ _ _ _ hr hq
      have hl := flatT_len x [] text hf
      simp only [List.length_append, List.length_nil] at this hl
      omega
    split at h
    · exact fin1 _ _ _ _ hx1 h (Nat.le_refl _)
    · cases given with
      | none =>
        simp only at h
        cases hf : flatT x [] with
        | none =>
          rw [hf] at h
          exact fin1 _ _ _ _ hx h (Nat.le_refl _)
        | some text =>
          rw [hf] at h
          simp only at h
          split at h
          · exact fin2 text _ _ hf h
          · exact fin1 _ _ _ _ hx h (Nat.le_refl _)
      | some gs =>
        simp only at h
        split at h
        · cases hf : flatT x [] with
          | none => rw [hf] at h; cases h
          | some text =>
            rw [hf] at h
            exact fin2 text _ _ hf h
        · split at h
          · exact fin1 _ _ _ _ hx h (Nat.le_refl _)
          · cases h

/-- What Layout answers: the text, the choices, the code. -/
def lR (r : Option (List Int × List Int)) : List Int × List Int × Int := match r with
  | some (o, m) => (o, m, 0)
  | none => ([], [], 1)
theorem layout_flat {w w' : World} {r : Option (List Int × List Int)} {e : Ending} (h : LayoutEnds w r e w') :
    ∃ ov mv, e = .returned (.tuple #[ov, mv, .int .i64 (lR r).2.2]) ∧ OwB w.heap.size w' ov (lR r).1 ∧ OwI w.heap.size w' mv (lR r).2.1 ∧ (∀ g, ov.ownBlock = some g → mv.ownBlock ≠ some g) ∧ w.grownBy w' none := by
  match r, h with
  | some (o, m), ⟨ov, mv, h1, h2, h3, h4, h5⟩ => exact ⟨ov, mv, h1, h2, h3, h4, h5⟩
  | none, ⟨h1, h2⟩ => exact ⟨.slice none 0 0, .slice none 0 0, h1, World.ownsRow_nil _ _ _ _, World.ownsRow_nil _ _ _ _, (fun g hg => by cases hg), h2⟩
theorem layout_len (doc : List Pc) (width : Int) (hl : doc.length ≤ 1048576) : (lR (layoutR doc width)).1.length ≤ 560140000 ∧ (lR (layoutR doc width)).2.1.length ≤ 1048576 := by
  unfold layoutR
  split
  · rename_i h
    rcases valid_eq doc with ⟨h1, _, T, n, h3, _, h5⟩ | ⟨h1, _⟩
    · rw [h3]
      simp only
      obtain ⟨f1, f2, _⟩ := spec_facts h1 h3
      have hsz := spec_sz doc h1 T h3
      cases hr : layL width none [⟨T, 0, 0⟩] [] (List.replicate (grp doc doc.length) 0) 0 with
      | none => simp [lR]
      | some om =>
        obtain ⟨o, m⟩ := om
        have a1 := lay_out width none _ _ _ _ _ _ _ (fun it hit => by simp at hit; subst hit; exact ⟨f1, by simpa using f2⟩) hr
        have a2 := lay_len width none _ _ _ _ _ _ _ hr
        have a3 := grp_le doc doc.length
        simp only [lR]
        simp [trs, szs] at a1 a2
        omega
    · rw [h1] at h; cases h.1
  · simp [lR]

end Go.Proofs.YtbiiopiaglkicaaDoor

namespace Go.Proofs.YtbiiopiaglkicaaDoor
open Go.RowKit

theorem eqByteS_false_of {za zb : List Int} (k : Nat) (h : za[k]?.getD 0 ≠ zb[k]?.getD 0) : decide (za = zb) = false := by
  simp only [decide_eq_false_iff_not]; intro e; exact h (by rw [e])

set_option maxHeartbeats 400000 in
set_option maxRecDepth 100000 in
theorem eqByteS_any (va vb : Value) (za zb : List Int) (w : World) (ha : Rd .u8 w.heap.size w va za) (hb : Rd .u8 w.heap.size w vb zb) (hn : za.length ≤ 600000000) :
    Calls Tryd.prog 13 #[va, vb] w fun e w' => e = .returned (.bool (decide (za = zb))) ∧ ∃ m, w' = w.drewN m := by
  obtain ⟨a, capa, rfl, hra⟩ := ha
  obtain ⟨b, capb, rfl, hrb⟩ := hb
  by_cases hl : za.length = zb.length
  · have hne : ((za.length : Int) != (zb.length : Int)) = false := by simp [hl]
    have HL : Hid (za.length = zb.length) := hl
    clear hl
    go_enter Tryd.func13, Tryd.ntmps13
    go_wp2
    go_loopw [5] (fun i wr => ∃ k m : Nat, k ≤ za.length ∧ i = .int .i64 k ∧ za.take k = zb.take k ∧ wr = w.drewN m)
      (fun i _ => za.length - (intOf i).toNat)
    case atStart => exact ⟨0, 0, Nat.zero_le _, rfl, by simp, rfl⟩
    case round =>
      obtain ⟨k, m, hk, rfl, ht, hwr⟩ := hrel
      subst hwr
      by_cases hlt : k < za.length
      · have hlt2 : k < zb.length := by rw [← HL.out]; exact hlt
        obtain ⟨ba, offa, rfl, hba, hca⟩ := hra (fun h => by simp [h] at hlt)
        obtain ⟨bb, offb, rfl, hbb, hcb⟩ := hrb (fun h => by simp [h] at hlt2)
        have hxa := hca k hlt
        have hxb := hcb k hlt2
        have hta := take_snoc za k hlt
        have htb := take_snoc zb k hlt2
        have hla : (k : Int) < (za.length : Int) := by omega
        have hlb : (k : Int) < (zb.length : Int) := by omega
        clear hca hcb hra hrb
        by_cases hz : za[k]?.getD 0 = zb[k]?.getD 0
        · have HT : Hid (za.take (k + 1) = zb.take (k + 1)) := by unfold Hid; rw [hta, htb, ht, hz]
          clear hta htb ht
          rw [← hz] at hxb
          clear hz
          generalize za[k]?.getD 0 = z at hxa hxb
          go_wp2
          go_quiet (fail)
          go_wp2
          go_roundw
          case rel => exact ⟨k + 1, _, by omega, by go_num, HT.out, rfl⟩
          case measure => simp [intOf]; omega
        · have HF : Hid (decide (za = zb) = false) := eqByteS_false_of k hz
          generalize za[k]?.getD 0 = z at hxa hz
          generalize zb[k]?.getD 0 = z2 at hxb hz
          clear hta htb ht
          have hz2 : (z != z2) = true := by simp [hz]
          clear hz
          go_wp2
          go_quiet (fail)
          go_wp2
          go_ret
          exact ⟨by rw [HF.out]; rfl, m + nq, by rw [World.drewN_drewN]⟩
      · have HF : Hid (decide (za = zb) = true) := by
          unfold Hid
          rw [List.take_of_length_le (by omega), List.take_of_length_le (by have := HL.out; omega)] at ht
          simp [ht]
        clear ht
        go_wp2
        go_ret
        exact ⟨by rw [HF.out]; rfl, _, rfl⟩
  · have hne : ((za.length : Int) != (zb.length : Int)) = true := by simp; omega
    have HF : Hid (decide (za = zb) = false) := by
      unfold Hid
      simp only [decide_eq_false_iff_not]; intro e; exact hl (by rw [e])
    clear hl
    go_enter Tryd.func13, Tryd.ntmps13
    go_wp2
    go_ret
    exact ⟨by rw [HF.out]; rfl, 0, rfl⟩

theorem eqByteS_same (va vb : Value) (zs : List Int) (w : World) (ha : Rd .u8 w.heap.size w va zs) (hb : Rd .u8 w.heap.size w vb zs) (hn : zs.length ≤ 600000000) :
    Calls Tryd.prog 13 #[va, vb] w fun e w' => e = .returned (.bool true) ∧ w.grownBy w' none := by
  refine (eqByteS_any va vb zs zs w ha hb hn).mono ?_
  rintro e w' ⟨rfl, m, rfl⟩
  exact ⟨by simp, grown_drewN (World.grownBy.refl _ _) m⟩

end Go.Proofs.YtbiiopiaglkicaaDoor

namespace Go.Proofs.YtbiiopiaglkicaaDoor
open Go.RowKit

set_option maxHeartbeats 1000000 in
set_option maxRecDepth 100000 in
theorem eqPiece_same (p : Pc) (ta tb : Value) (w : World) (ha : RdB w.heap.size w ta p.t) (hb : RdB w.heap.size w tb p.t) (hn : p.t.length ≤ 1048576) :
    Calls Tryd.prog 44 #[.agg #[.int .i64 p.k, ta, .int .i64 p.n], .agg #[.int .i64 p.k, tb, .int .i64 p.n]] w fun e w' => e = .returned (.bool true) ∧ w.grownBy w' none := by
  obtain ⟨a1, cap1, hva, _⟩ := id ha
  obtain ⟨a2, cap2, hvb, _⟩ := id hb
  have hg : ∀ o1 o2 : Obj, w.grownBy ((w.alloc o1).alloc o2) none := fun _ _ => grown_trans (World.grownBy_alloc _ _ _) (World.grownBy_alloc _ _ _)
  have hkk : (p.k != p.k) = false := by simp
  have hnn : (p.n != p.n) = false := by simp
  subst hva hvb
  go_enter Tryd.func44, Tryd.ntmps44
  go_wp2_with fail
  refine (eqByteS_any _ _ p.t p.t _ (ha.keep (hg _ _)).now (hb.keep (hg _ _)).now (by omega)).mono ?_
  rintro e w1 ⟨rfl, m, rfl⟩
  simp only [decide_true]
  go_wp2
  go_ret
  exact ⟨rfl, grown_drewN (hg _ _) m⟩

set_option maxHeartbeats 2000000 in
set_option maxRecDepth 100000 in
theorem eqPieceS_same (va vb : Value) (doc : List Pc) (w : World) (ha : RdP w.heap.size w va doc) (hb : RdP w.heap.size w vb doc) (hn : doc.length ≤ 1048576) (ht : ∀ p ∈ doc, p.t.length ≤ 1048576) :
    Calls Tryd.prog 15 #[va, vb] w fun e w' => e = .returned (.bool true) ∧ w.grownBy w' none := by
  obtain ⟨a1, cap1, hva, _⟩ := id ha
  obtain ⟨a2, cap2, hvb, _⟩ := id hb
  have hll : ((doc.length : Int) != (doc.length : Int)) = false := by simp
  subst hva hvb
  go_enter Tryd.func15, Tryd.ntmps15
  go_wp2
  go_loopw [5] (fun i wr => ∃ k : Nat, k ≤ doc.length ∧ i = .int .i64 k ∧ w.grownBy wr none) (fun i _ => doc.length - (intOf i).toNat)
  case atStart => exact ⟨0, Nat.zero_le _, rfl, World.grownBy.refl _ _⟩
  case round =>
    obtain ⟨k, hk, rfl, hgr⟩ := hrel
    by_cases hlt : k < doc.length
    · obtain ⟨b1, off1, cap1', tv1, hva1, hb1, hp1⟩ := (ha.keep hgr).at k hlt
      obtain ⟨b2, off2, cap2', tv2, hva2, hb2, hp2⟩ := (hb.keep hgr).at k hlt
      cases hva1
      cases hva2
      have k1 := hp1.k; have t1 := hp1.t; have n1 := hp1.n
      have k2 := hp2.k; have t2 := hp2.t; have n2 := hp2.n
      have rd1 := hp1.rd; have rd2 := hp2.rd
      obtain ⟨ta1, tcap1, htv1, _, _⟩ := hp1.sl
      obtain ⟨ta2, tcap2, htv2, _, _⟩ := hp2.sl
      have hpt := ht _ (List.getElem_mem hlt)
      have hgs := hgr.size
      clear ha hb hp1 hp2 ht
      subst htv1 htv2
      generalize doc[k] = p at k1 t1 n1 k2 t2 n2 rd1 rd2 hpt
      have H : Hid (∀ w' : World, wr.grownBy w' none → Calls Tryd.prog 44 #[.agg #[.int .i64 p.k, .slice ta1 p.t.length tcap1, .int .i64 p.n], .agg #[.int .i64 p.k, .slice ta2 p.t.length tcap2, .int .i64 p.n]] w' fun e w'' => e = .returned (.bool true) ∧ w'.grownBy w'' none) := by
        intro w' hg'
        exact eqPiece_same p _ _ w' (rd1.wide hgs |>.keep hg').now (rd2.wide hgs |>.keep hg').now hpt
      have HG : Hid (w.grownBy wr none) := hgr
      clear rd1 rd2 hgr
      go_wp2
      have HD : Hid (wr.grownBy wr.drew none) := ⟨rfl, rfl, rfl, Nat.le_refl _, fun _ _ _ => rfl⟩
      go_region_with (go_at_call 44; refine (H.out wr.drew HD.out).mono ?_; rintro e w1 ⟨rfl, g1⟩)
      all_goals
        go_wp2
        go_roundw
        case rel => exact ⟨k + 1, by omega, by go_num, grown_trans (grown_trans HG.out HD.out) g1⟩
        case measure => simp [intOf]; omega
    · go_wp2
      go_ret
      exact ⟨rfl, hgr⟩

end Go.Proofs.YtbiiopiaglkicaaDoor

namespace Go.Proofs.YtbiiopiaglkicaaDoor
open Go.RowKit

theorem eqIntS_false_of {za zb : List Int} (k : Nat) (h : za[k]?.getD 0 ≠ zb[k]?.getD 0) : decide (za = zb) = false := by
  simp only [decide_eq_false_iff_not]; intro e; exact h (by rw [e])

set_option maxHeartbeats 400000 in
set_option maxRecDepth 100000 in
theorem eqIntS_any (va vb : Value) (za zb : List Int) (w : World) (ha : Rd .i64 w.heap.size w va za) (hb : Rd .i64 w.heap.size w vb zb) (hn : za.length ≤ 600000000) :
    Calls Tryd.prog 14 #[va, vb] w fun e w' => e = .returned (.bool (decide (za = zb))) ∧ ∃ m, w' = w.drewN m := by
  obtain ⟨a, capa, rfl, hra⟩ := ha
  obtain ⟨b, capb, rfl, hrb⟩ := hb
  by_cases hl : za.length = zb.length
  · have hne : ((za.length : Int) != (zb.length : Int)) = false := by simp [hl]
    have HL : Hid (za.length = zb.length) := hl
    clear hl
    go_enter Tryd.func14, Tryd.ntmps14
    go_wp2
    go_loopw [5] (fun i wr => ∃ k m : Nat, k ≤ za.length ∧ i = .int .i64 k ∧ za.take k = zb.take k ∧ wr = w.drewN m)
      (fun i _ => za.length - (intOf i).toNat)
    case atStart => exact ⟨0, 0, Nat.zero_le _, rfl, by simp, rfl⟩
    case round =>
      obtain ⟨k, m, hk, rfl, ht, hwr⟩ := hrel
      subst hwr
      by_cases hlt : k < za.length
      · have hlt2 : k < zb.length := by rw [← HL.out]; exact hlt
        obtain ⟨ba, offa, rfl, hba, hca⟩ := hra (fun h => by simp [h] at hlt)
        obtain ⟨bb, offb, rfl, hbb, hcb⟩ := hrb (fun h => by simp [h] at hlt2)
        have hxa := hca k hlt
        have hxb := hcb k hlt2
        have hta := take_snoc za k hlt
        have htb := take_snoc zb k hlt2
        have hla : (k : Int) < (za.length : Int) := by omega
        have hlb : (k : Int) < (zb.length : Int) := by omega
        clear hca hcb hra hrb
        by_cases hz : za[k]?.getD 0 = zb[k]?.getD 0
        · have HT : Hid (za.take (k + 1) = zb.take (k + 1)) := by unfold Hid; rw [hta, htb, ht, hz]
          clear hta htb ht
          rw [← hz] at hxb
          clear hz
          generalize za[k]?.getD 0 = z at hxa hxb
          go_wp2
          go_quiet (fail)
          go_wp2
          go_roundw
          case rel => exact ⟨k + 1, _, by omega, by go_num, HT.out, rfl⟩
          case measure => simp [intOf]; omega
        · have HF : Hid (decide (za = zb) = false) := eqIntS_false_of k hz
          generalize za[k]?.getD 0 = z at hxa hz
          generalize zb[k]?.getD 0 = z2 at hxb hz
          clear hta htb ht
          have hz2 : (z != z2) = true := by simp [hz]
          clear hz
          go_wp2
          go_quiet (fail)
          go_wp2
          go_ret
          exact ⟨by rw [HF.out]; rfl, m + nq, by rw [World.drewN_drewN]⟩
      · have HF : Hid (decide (za = zb) = true) := by
          unfold Hid
          rw [List.take_of_length_le (by omega), List.take_of_length_le (by have := HL.out; omega)] at ht
          simp [ht]
        clear ht
        go_wp2
        go_ret
        exact ⟨by rw [HF.out]; rfl, _, rfl⟩
  · have hne : ((za.length : Int) != (zb.length : Int)) = true := by simp; omega
    have HF : Hid (decide (za = zb) = false) := by
      unfold Hid
      simp only [decide_eq_false_iff_not]; intro e; exact hl (by rw [e])
    clear hl
    go_enter Tryd.func14, Tryd.ntmps14
    go_wp2
    go_ret
    exact ⟨by rw [HF.out]; rfl, 0, rfl⟩

theorem eqIntS_same (va vb : Value) (zs : List Int) (w : World) (ha : Rd .i64 w.heap.size w va zs) (hb : Rd .i64 w.heap.size w vb zs) (hn : zs.length ≤ 600000000) :
    Calls Tryd.prog 14 #[va, vb] w fun e w' => e = .returned (.bool true) ∧ w.grownBy w' none := by
  refine (eqIntS_any va vb zs zs w ha hb hn).mono ?_
  rintro e w' ⟨rfl, m, rfl⟩
  exact ⟨by simp, grown_drewN (World.grownBy.refl _ _) m⟩

end Go.Proofs.YtbiiopiaglkicaaDoor

namespace Go.Proofs.YtbiiopiaglkicaaDoor
open Go.RowKit

set_option maxHeartbeats 400000 in
set_option maxRecDepth 100000 in
theorem toByteS_any (v : Value) (zs : List Int) (w : World) (hv : Rd .u8 w.heap.size w v zs) (hn : zs.length ≤ 4194304) :
    Calls Tryd.prog 65 #[v] w fun e w' => ∃ v', e = .returned v' ∧ Ow .u8 5 w.heap.size w' v' zs ∧ w.grownBy w' none := by
  obtain ⟨i0, hi, hz0, hz1, hz2⟩ := info_parts info5
  obtain ⟨a, cap, rfl, hr⟩ := hv
  go_enter Tryd.func65, Tryd.ntmps65
  go_wp2_with (at_make; refine wpList_make_full _ rfl _ _ 24 rfl w.heap.size 5 i0 (.int .u8 0) 1 Tryd.underlying24 hi hz0 hz1 _ _ _ _ zs.length rfl rfl (by omega) (by omega) ?b2 ?b3 (Nat.le_refl _) ?_)
  case b2 => rw [hz2]; omega
  case b3 => unfold maxLen; omega
  intro w0 hown0 hgrow0
  go_wp2
  go_loopw [4] (fun i wr => ∃ k : Nat, k ≤ zs.length ∧ i = .int .i64 k ∧ wr.ownsRow w.heap.size 5 1 (.slice (some ⟨w.heap.size, 0, none⟩) zs.length zs.length) zs.length ((zs.take k ++ List.replicate (zs.length - k) 0).map (Value.int .u8)) ∧ w.grownBy wr none)
    (fun i _ => zs.length - (intOf i).toNat)
  case atStart =>
    refine ⟨0, Nat.zero_le _, rfl, ?_, hgrow0⟩
    simpa [toList_madeCells_one, Value.cells] using hown0
  case round =>
    obtain ⟨k, hk, rfl, hown, hgr⟩ := hrel
    by_cases hlt : k < zs.length
    · obtain ⟨b, off, rfl, hb, hc⟩ := hr (fun h => by simp [h] at hlt)
      have hcx : wr.cell? ⟨b, off + k, none⟩ = some (.int .u8 (zs[k]?.getD 0)) := hgr.cell (hc k hlt) (by simp)
      have hoc : wr.cell? ⟨w.heap.size, k, none⟩ = some (.int .u8 0) := by
        rw [World.ownsRow.cellAt hown k (by omega)]; simp [List.getElem?_append, List.getElem?_replicate, Nat.min_eq_left hk]; omega
      have hof := World.ownsRow.frozenAt hown k
      have hst := World.ownsRow.stored hown k (.int .u8 (zs[k]?.getD 0))
      rw [copy_step _ zs k hlt] at hst
      have hg2 := grown_new hgr hst.2 (fun j hj => by cases hj; exact Nat.le_refl _)
      have hst1 := hst.1
      clear hst hc hr hown hb
      generalize zs[k]?.getD 0 = z at hcx hst1 hg2
      go_wp2
      go_roundw
      case rel => exact ⟨k + 1, by omega, by go_num, hst1, hg2⟩
      case measure => simp [intOf]; omega
    · go_wp2
      go_ret
      have hkn : k = zs.length := by omega
      subst hkn
      exact ⟨_, rfl, by unfold Ow; simpa using hown, hgr⟩

end Go.Proofs.YtbiiopiaglkicaaDoor

