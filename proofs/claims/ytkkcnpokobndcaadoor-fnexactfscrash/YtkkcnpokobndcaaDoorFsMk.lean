import Derived.Test.YtkkcnpokobndcaaDoorFsMark
import Derived.Test.YtkkcnpokobndcaaDoorOrdI
import Derived.Deep.RegionWith
namespace Go.Proofs.YtkkcnpokobndcaaDoor
open Go.RowKit

set_option maxHeartbeats 4000000 in
set_option maxRecDepth 100000 in
theorem markFsFileS_any (B H : Nat) (v : Value) (fs : List Fl) (s : Int) (w : World) (h : OwFH B H w v fs) (hn : fs.length ≤ 1048577) (ht : ∀ p ∈ fs, p.n.length ≤ 4194304 ∧ p.d.length ≤ 4194304) (hs0 : 0 ≤ s) (hs1 : s + totM fs ≤ 1000000000000) :
    Calls Tryd.prog 38 #[v, .int .i64 s] w fun e w' => e = .returned (.int .i64 (s + totM fs)) ∧ OwFH B H w' v (mkF s fs) ∧ FrP B H w w' := by
  obtain ⟨xs, hrow, htx, hgH, huH⟩ := h
  obtain ⟨a, cap, hv0, _⟩ := row_rd htx.len hrow (Nat.le_refl _) (fun j p x h1 h2 => by obtain ⟨q1, q2, _⟩ := htx.own j p x h1 h2; exact ⟨q1.rd, q1.sl, q2.rd, q2.sl⟩)
  have HT : Hid (∀ p ∈ fs, p.n.length ≤ 4194304 ∧ p.d.length ≤ 4194304) := ht
  have HU : Hid (∀ u ∈ pairs xs, ∀ g, u.ownBlock = some g → B ≤ g ∧ g < H) := fun u hu g hg => ⟨(htx.lt hu hg).1, huH u hu g hg⟩
  have HRB : Hid (∀ g, v.ownBlock = some g → B ≤ g ∧ g < H) := fun g hg => ⟨(World.ownsRow.lt hrow g hg).1, hgH g hg⟩
  have HH : Hid (∀ u ∈ pairs xs, ∀ g, u.ownBlock = some g → g < H) := huH
  subst hv0
  clear ht huH hgH
  go_enter Tryd.func38, Tryd.ntmps38
  go_wp2
  go_loopw [1, 5] (fun t i wr => ∃ k : Nat, k ≤ fs.length ∧ i = .int .i64 k ∧ t = .int .i64 (s + totM (fs.take k)) ∧ wr.ownsRow B 49 3 (.slice a fs.length cap) fs.length (cellsF (mixF s fs k) xs) ∧ TxF B wr (Value.slice a fs.length cap).ownBlock (mixF s fs k) xs ∧ FrP B H w wr) (fun _ i _ => fs.length - (intOf i).toNat)
  case atStart => exact ⟨0, Nat.zero_le _, rfl, by simp [totM], by simpa [mixF, mkF] using hrow, by simpa [mixF, mkF] using htx, FrP.refl _ _ _⟩
  case round =>
    obtain ⟨k, hk, rfl, rfl, hr, hx, hfr⟩ := hrel
    by_cases hlt : k < fs.length
    · obtain ⟨g, rfl⟩ : ∃ g, a = some ⟨g, 0, none⟩ := by
        rcases hr.2 with ⟨h', h2⟩ | ⟨g, cap', cur, h', _⟩
        · omega
        · simp only [Value.slice.injEq] at h'; exact ⟨g, h'.1⟩
      have hat := mix_at s fs k hlt
      have hml := mix_len s fs k
      obtain ⟨x, hxk, c0, c1, c2⟩ := cellsF_at (mixF s fs k) xs k fs[k] hx.len hat
      obtain ⟨o1, o2, o3⟩ := hx.own k fs[k] x hat hxk
      obtain ⟨pa1, pa2⟩ := pairs_at xs k x hxk
      have hu1 := HU.out x.1 (List.mem_of_getElem? pa1)
      have hu2 := HU.out x.2 (List.mem_of_getElem? pa2)
      have hrb := HRB.out
      have hpt := HT.out _ (List.getElem_mem hlt)
      have htk : fs.take (k + 1) = fs.take k ++ [fs[k]] := by rw [List.take_add_one]; simp [hlt]
      have htm : totM (fs.take (k + 1)) = totM (fs.take k) + (fs[k].n.length + fs[k].d.length + 1) := by rw [htk, totM_snoc]
      have htl := totM_take_le fs (k + 1)
      have hnn := totM_nonneg (fs.take k)
      have d0 : wr.cell? ⟨g, k * 3, none⟩ = some x.1 := by rw [World.ownsRow.cellAt hr (k * 3) (by omega)]; exact c0
      have M1 := hide (markByteS_any B x.1 fs[k].n (s + totM (fs.take k)) wr o1 hpt.1 (by omega) (by omega))
      -- behind the name
      have HK : Hid (∀ (w1 : World), wr.grownBy w1 x.1.ownBlock → OwB B w1 x.1 (upto (markB (s + totM (fs.take k))) fs[k].n.length) → w1.cell? ⟨g, k * 3 + 1, none⟩ = some x.2 ∧ OwB B w1 x.2 fs[k].d ∧ ∀ w2, w1.grownBy w2 x.2.ownBlock → OwB B w2 x.2 (upto (markB (s + totM (fs.take k) + fs[k].n.length)) fs[k].d.length) →
          (w2.cell? ⟨g, k * 3 + 2, none⟩ = some (.int .i64 fs[k].s) ∧ w2.frozen? ⟨g, k * 3 + 2, none⟩ = false) ∧ (w2.setCell ⟨g, k * 3 + 2, none⟩ (.int .i64 (s + totM (fs.take k) + fs[k].n.length + fs[k].d.length))).ownsRow B 49 3 (.slice (some ⟨g, 0, none⟩) fs.length cap) fs.length (cellsF (mixF s fs (k + 1)) xs) ∧ TxF B (w2.setCell ⟨g, k * 3 + 2, none⟩ (.int .i64 (s + totM (fs.take k) + fs[k].n.length + fs[k].d.length))) (some g) (mixF s fs (k + 1)) xs ∧ FrP B H w (w2.setCell ⟨g, k * 3 + 2, none⟩ (.int .i64 (s + totM (fs.take k) + fs[k].n.length + fs[k].d.length)))) := by
        intro w1 g1 n1
        have n1ne : (Value.slice (some ⟨g, 0, none⟩) fs.length cap).ownBlock = none ∨ (Value.slice (some ⟨g, 0, none⟩) fs.length cap).ownBlock ≠ x.1.ownBlock := .inr (fun e => (o3 g rfl).1 (by rw [← e]; rfl))
        have n2ne : (Value.slice (some ⟨g, 0, none⟩) fs.length cap).ownBlock = none ∨ (Value.slice (some ⟨g, 0, none⟩) fs.length cap).ownBlock ≠ x.2.ownBlock := .inr (fun e => (o3 g rfl).2 (by rw [← e]; rfl))
        have hr1 := World.ownsRow.kept hr g1 n1ne
        have hx1 := hx.name hat hxk g1 n1
        refine ⟨by rw [World.ownsRow.cellAt hr1 (k * 3 + 1) (by omega)]; exact c1, o2.apart g1 (apt_at hx.apart pa1 pa2 (by omega)), fun w2 g2 n2 => ?_⟩
        have hr2 := World.ownsRow.kept hr1 g2 n2ne
        have hat1 : ((mixF s fs k).set k ⟨upto (markB (s + totM (fs.take k))) fs[k].n.length, fs[k].d, fs[k].s⟩)[k]? = some ⟨upto (markB (s + totM (fs.take k))) fs[k].n.length, fs[k].d, fs[k].s⟩ := by simp [hml, hlt]
        have hx2 := hx1.data hat1 hxk g2 n2
        have hat2 : (((mixF s fs k).set k ⟨upto (markB (s + totM (fs.take k))) fs[k].n.length, fs[k].d, fs[k].s⟩).set k ⟨upto (markB (s + totM (fs.take k))) fs[k].n.length, upto (markB (s + totM (fs.take k) + fs[k].n.length)) fs[k].d.length, fs[k].s⟩)[k]? = some ⟨upto (markB (s + totM (fs.take k))) fs[k].n.length, upto (markB (s + totM (fs.take k) + fs[k].n.length)) fs[k].d.length, fs[k].s⟩ := by simp [hml, hlt]
        have hx3 := hx2.safe hat2 (s + totM (fs.take k) + fs[k].n.length + fs[k].d.length)
        simp only [List.set_set] at hx3
        have hx4 : TxF B w2 (some g) (mixF s fs (k + 1)) xs := by rw [← mix_step s fs k hlt]; exact hx3
        have hst := World.ownsRow.stored hr2 (k * 3 + 2) (.int .i64 (s + totM (fs.take k) + fs[k].n.length + fs[k].d.length))
        refine ⟨⟨by rw [World.ownsRow.cellAt hr2 (k * 3 + 2) (by omega)]; exact c2, World.ownsRow.frozenAt hr2 _⟩, ?_, hx4.set _ _, ?_⟩
        · have hce := cellsF_setS (mixF s fs k) xs k (marked (s + totM (fs.take k)) fs[k]) hx.len (by omega)
          rw [mix_step s fs k hlt] at hce
          rw [hce]
          exact hst.1
        · exact ((hfr.grown g1 hu1).grown g2 hu2).grown (grown_setF _ _ _) (fun j e => by cases e; exact hrb g rfl)
      obtain ⟨a1, cc1, e1, _⟩ := o1.rd
      obtain ⟨a2, cc2, e2, _⟩ := o2.rd
      have M2 : Hid (∀ w1, OwB B w1 x.2 fs[k].d → Calls Tryd.prog 16 #[x.2, .int .i64 (s + totM (fs.take k) + fs[k].n.length)] w1 fun e w' => e = .returned (.int .i64 (s + totM (fs.take k) + fs[k].n.length + fs[k].d.length)) ∧ OwB B w' x.2 (upto (markB (s + totM (fs.take k) + fs[k].n.length)) fs[k].d.length) ∧ w1.grownBy w' x.2.ownBlock) := fun w1 o => markByteS_any B x.2 fs[k].d _ w1 o hpt.2 (by omega) (by omega)
      have HTM : Hid (totM (fs.take (k + 1)) = totM (fs.take k) + (fs[k].n.length + fs[k].d.length + 1)) := htm
      have htb : s + (totM (fs.take k) + (fs[k].n.length + fs[k].d.length + 1)) ≤ 1000000000000 := by omega
      obtain ⟨x1, x2⟩ := x
      simp only at e1 e2
      subst e1 e2
      clear hr hx hfr o1 o2 o3 hu1 hu2 hrb htk htm htl hat hml hxk c0 c1 c2 pa1 pa2
      generalize fs[k] = p at *
      generalize totM (fs.take k) = T at *
      go_wp2_with fail
      refine M1.out.mono ?_
      rintro e w1 ⟨rfl, n1, g1⟩
      obtain ⟨d1, o2, hk2⟩ := HK.out w1 g1 n1
      have HK2 := hide hk2
      have HO2 := hide o2
      clear n1 g1 o2 hk2
      go_wp2_with fail
      refine (M2.out w1 HO2.out).mono ?_
      rintro e w2 ⟨rfl, n2, g2⟩
      obtain ⟨⟨d2, d3⟩, hr2, hx2, hf2⟩ := HK2.out w2 g2 n2
      have HR2 := hide hr2
      have HX2 := hide hx2
      have HF2 := hide hf2
      clear n2 g2 hr2 hx2 hf2
      go_wp2
      go_roundw
      case rel => exact ⟨k + 1, by omega, by go_num, by rw [HTM.out]; go_num, HR2.out, HX2.out, HF2.out⟩
      case measure => simp [intOf]; omega
    · have hkn : k = fs.length := by omega
      have hm : mixF s fs k = mkF s fs := by unfold mixF; rw [hkn]; simp
      have htt : totM (fs.take k) = totM fs := by rw [hkn, List.take_length]
      rw [hm] at hr hx
      have HR := hide hr
      have HX := hide hx
      have HF := hide hfr
      have HTT := hide htt
      clear hr hx hfr hm htt
      go_wp2
      go_ret
      exact ⟨by rw [← HTT.out]; rfl, ⟨xs, by rw [mkF_len]; exact HR.out, HX.out, fun g hg => (HRB.out g hg).2, HH.out⟩, HF.out⟩

set_option maxHeartbeats 1000000 in
theorem markFs_any (B H : Nat) (v : Value) (fs : List Fl) (s : Int) (w : World) (h : OwFH B H w v fs) (hn : fs.length ≤ 1048577) (ht : ∀ p ∈ fs, p.n.length ≤ 4194304 ∧ p.d.length ≤ 4194304) (hs0 : 0 ≤ s) (hs1 : s + totM fs ≤ 1000000000000) :
    Calls Tryd.prog 15 #[.agg #[v], .int .i64 s] w fun e w' => e = .returned (.int .i64 (s + totM fs)) ∧ OwFH B H w' v (mkF s fs) ∧ FrP B H w w' := by
  obtain ⟨a, cap, hv0, _⟩ := h.low.rd
  have HS : Hid (∀ o : Obj, Calls Tryd.prog 38 #[v, .int .i64 s] (w.alloc o) fun e w' => e = .returned (.int .i64 (s + totM fs)) ∧ OwFH B H w' v (mkF s fs) ∧ FrP B H w w') := by
    intro o
    refine (markFsFileS_any B H v fs s _ (h.later (World.grownBy_alloc w o none)) hn ht hs0 hs1).mono ?_
    rintro e w' ⟨h1, h2, h3⟩
    exact ⟨h1, h2, ⟨h3.os, h3.tape, h3.output, by have := h3.size; simp at this; omega, fun b hb hx => (h3.block b (by simp; omega) hx).trans (Below.heap_alloc w o b hb)⟩⟩
  subst hv0
  clear h
  generalize s + totM fs = r at *
  go_enter Tryd.func15, Tryd.ntmps15
  go_wp2_with fail
  refine (HS.out _).mono ?_
  rintro e w1 ⟨rfl, h1, h2⟩
  have H1 := hide h1
  have H2 := hide h2
  clear h1 h2
  go_wp2
  go_ret
  exact ⟨rfl, H1.out, H2.out⟩

set_option maxHeartbeats 4000000 in
set_option maxRecDepth 100000 in
theorem heldFsFileS_any (v : Value) (fs : List Fl) (s : Int) (w : World) (h : RdF w.heap.size w v (mkF s fs)) (hn : fs.length ≤ 1048577) (ht : ∀ p ∈ fs, p.n.length ≤ 4194304 ∧ p.d.length ≤ 4194304) (hs0 : 0 ≤ s) (hs1 : s + totM fs ≤ 1000000000000) :
    Calls Tryd.prog 42 #[v, .int .i64 s] w fun e w' => e = .returned (.int .i64 (s + totM fs)) ∧ w.grownBy w' none := by
  obtain ⟨a, cap, hv0, _⟩ := id h
  have HT : Hid (∀ p ∈ fs, p.n.length ≤ 4194304 ∧ p.d.length ≤ 4194304) := ht
  have HV : Hid (RdF w.heap.size w v (mkF s fs)) := h
  rw [mkF_len] at hv0
  subst hv0
  clear ht h
  go_enter Tryd.func42, Tryd.ntmps42
  go_wp2
  go_loopw [1, 5] (fun t i wr => ∃ k : Nat, k ≤ fs.length ∧ i = .int .i64 k ∧ t = .int .i64 (s + totM (fs.take k)) ∧ w.grownBy wr none) (fun _ i _ => fs.length - (intOf i).toNat)
  case atStart => exact ⟨0, Nat.zero_le _, rfl, by simp [totM], World.grownBy.refl _ _⟩
  case round =>
    obtain ⟨k, hk, rfl, rfl, hgr⟩ := hrel
    by_cases hlt : k < fs.length
    · obtain ⟨b, off, cap', x, hva, hb, hp⟩ := (HV.out.now hgr).at k (by rw [mkF_len]; exact hlt)
      have hmk : (mkF s fs)[k]'(by rw [mkF_len]; exact hlt) = marked (s + totM (fs.take k)) fs[k] := by
        have h1 : mkF s fs = mkF s (fs.take (k + 1) ++ fs.drop (k + 1)) := by rw [List.take_append_drop]
        have h2 : ∀ (s : Int) (A C : List Fl), mkF s (A ++ C) = mkF s A ++ mkF (s + totM A) C := by
          intro s A
          induction A generalizing s with
          | nil => intro C; simp [mkF, totM]
          | cons q A ih => intro C; simp only [List.cons_append, mkF, ih, totM]; rw [show s + (q.n.length + q.d.length + 1) + totM A = s + (q.n.length + q.d.length + 1 + totM A) by omega]
        have h3 : (mkF s fs)[k]? = some (marked (s + totM (fs.take k)) fs[k]) := by
          rw [h1, h2, List.take_add_one, List.getElem?_eq_getElem hlt]
          show (mkF s (fs.take k ++ [fs[k]]) ++ _)[k]? = _
          rw [mkF_snoc, List.append_assoc, List.getElem?_append_right (by simp [mkF_len]; omega)]
          simp [mkF_len, Nat.min_eq_left (Nat.le_of_lt hlt)]
        exact (List.getElem?_eq_some_iff.1 h3).2
      rw [hmk] at hp
      rw [mkF_len] at hva
      cases hva
      obtain ⟨nv, dv⟩ := x
      have z0 := hp.n; have z1 := hp.d; have z2 := hp.s
      have hpt := HT.out _ (List.getElem_mem hlt)
      have htk : fs.take (k + 1) = fs.take k ++ [fs[k]] := by rw [List.take_add_one]; simp [hlt]
      have htm : totM (fs.take (k + 1)) = totM (fs.take k) + (fs[k].n.length + fs[k].d.length + 1) := by rw [htk, totM_snoc]
      have htl := totM_take_le fs (k + 1)
      have hnn := totM_nonneg (fs.take k)
      have M1 := hide (heldByteS_any nv fs[k].n.length (s + totM (fs.take k)) wr hp.rn hpt.1 (by omega) (by omega))
      have M2 := hide (heldByteS_any dv fs[k].d.length (s + totM (fs.take k) + fs[k].n.length) wr hp.rd hpt.2 (by omega) (by omega))
      obtain ⟨na, ncap, hnv, _, _⟩ := hp.sn
      obtain ⟨da, dcap, hdv, _, _⟩ := hp.sd
      simp only [marked, upto_length] at hnv hdv z0 z1 z2
      have HTM : Hid (totM (fs.take (k + 1)) = totM (fs.take k) + (fs[k].n.length + fs[k].d.length + 1)) := htm
      have htb : s + (totM (fs.take k) + (fs[k].n.length + fs[k].d.length + 1)) ≤ 1000000000000 := by omega
      have hnss : ((s + totM (fs.take k) + fs[k].n.length + fs[k].d.length) != (s + totM (fs.take k) + fs[k].n.length + fs[k].d.length)) = false := by simp
      subst hnv hdv
      clear hp htk htm htl hmk
      generalize fs[k] = p at *
      generalize totM (fs.take k) = T at *
      go_wp2_with fail
      refine M1.out.mono ?_
      rintro e w1 ⟨rfl, rfl⟩
      go_wp2_with fail
      refine M2.out.mono ?_
      rintro e w1 ⟨rfl, rfl⟩
      go_wp2
      go_roundw
      case rel => exact ⟨k + 1, by omega, by go_num, by rw [HTM.out]; go_num, hgr⟩
      case measure => simp [intOf]; omega
    · have htt : totM (fs.take k) = totM fs := by rw [show k = fs.length by omega, List.take_length]
      have HTT := hide htt
      clear htt
      go_wp2
      go_ret
      exact ⟨by rw [← HTT.out]; rfl, hgr⟩

set_option maxHeartbeats 1000000 in
theorem heldFs_any (v : Value) (fs : List Fl) (s : Int) (w : World) (h : RdF w.heap.size w v (mkF s fs)) (hn : fs.length ≤ 1048577) (ht : ∀ p ∈ fs, p.n.length ≤ 4194304 ∧ p.d.length ≤ 4194304) (hs0 : 0 ≤ s) (hs1 : s + totM fs ≤ 1000000000000) :
    Calls Tryd.prog 20 #[.agg #[v], .int .i64 s] w fun e w' => e = .returned (.int .i64 (s + totM fs)) ∧ w.grownBy w' none := by
  obtain ⟨a, cap, hv0, _⟩ := id h
  have HS : Hid (∀ w', w.grownBy w' none → Calls Tryd.prog 42 #[v, .int .i64 s] w' fun e w'' => e = .returned (.int .i64 (s + totM fs)) ∧ w'.grownBy w'' none) := fun w' g => heldFsFileS_any v fs s w' (h.now g) hn ht hs0 hs1
  have hnn := totM_nonneg fs
  have hr0 : 0 ≤ s + totM fs := by omega
  subst hv0
  clear h hnn
  generalize s + totM fs = r at *
  go_enter Tryd.func20, Tryd.ntmps20
  go_wp2_with fail
  refine (HS.out _ (World.grownBy_alloc _ _ _)).mono ?_
  rintro e w1 ⟨rfl, g1⟩
  go_wp2
  go_ret
  exact ⟨rfl, grown_trans (World.grownBy_alloc _ _ _) g1⟩

end Go.Proofs.YtkkcnpokobndcaaDoor
