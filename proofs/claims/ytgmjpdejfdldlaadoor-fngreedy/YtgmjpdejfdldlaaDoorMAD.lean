import Derived.Test.YtgmjpdejfdldlaaDoorMAB
import Derived.Test.YtgmjpdejfdldlaaDoorMAC
namespace Go.Proofs.YtgmjpdejfdldlaaDoor
open Go.RowKit

theorem byte_cls (k d q : Nat) (hd : ∀ m : Nat, m < 256 → (m &&& k = q ↔ m / d = q / d)) (hk : k < 256) (z : Int) (h0 : 0 ≤ z) (h1 : z ≤ 255) :
    (bits .and .u8 z (k : Int) == (q : Int)) = decide (z / (d : Int) = ((q / d : Nat) : Int)) := by
  obtain ⟨n, rfl⟩ := Int.eq_ofNat_of_zero_le h0
  have h := hd n (by omega)
  rw [u8_and_nat n k (by omega) hk, Bool.eq_iff_iff]
  simp only [beq_iff_eq, decide_eq_true_eq]
  rw [← Int.natCast_ediv]
  omega
set_option maxRecDepth 10000 in
theorem cls4 (z : Int) (h0 : 0 ≤ z) (h1 : z ≤ 255) : (bits .and .u8 z 248 == 240) = decide (z / 8 = 30) := byte_cls 248 8 240 (by decide) (by omega) z h0 h1
set_option maxRecDepth 10000 in
theorem cls3 (z : Int) (h0 : 0 ≤ z) (h1 : z ≤ 255) : (bits .and .u8 z 240 == 224) = decide (z / 16 = 14) := byte_cls 240 16 224 (by decide) (by omega) z h0 h1
set_option maxRecDepth 10000 in
theorem cls2 (z : Int) (h0 : 0 ≤ z) (h1 : z ≤ 255) : (bits .and .u8 z 224 == 192) = decide (z / 32 = 6) := byte_cls 224 32 192 (by decide) (by omega) z h0 h1

theorem box_new (w : World) (p : Int) : Frm w.heap.size (w.alloc (.cells #[.int .i32 p, .int .i64 1, .bool false] 169)) p 1 false := heap_alloc_new w _
theorem below_box (w : World) (o : Obj) : Below w.heap.size w (w.alloc o) := (Below.refl _ _).alloc (Nat.le_refl _) _
theorem Rd.below {q : IntKind} {B : Nat} {w w' : World} {v : Value} {zs : List Int} (h : Rd q B w v zs) (hb : Below B w w') : Rd q B w' v zs := by
  obtain ⟨a, cap, hv, hr⟩ := h
  refine ⟨a, cap, hv, fun h0 => ?_⟩
  obtain ⟨b, off, ha, hlt, hc⟩ := hr h0
  exact ⟨b, off, ha, hlt, fun j hj => (hb.cell (p := ⟨b, off + j, none⟩) hlt).trans (hc j hj)⟩

set_option maxHeartbeats 1000000 in
set_option maxRecDepth 100000 in
theorem fp_4 (b off cap : Nat) (zs : List Int) (w : World) (hT : Tab w) (hv : RdB w.heap.size w (.slice (some ⟨b, off, none⟩) zs.length cap) zs) (hby : Bys zs) (hm : zs.length ≤ 4194304) (hne : 0 < zs.length) (hbw : b < w.heap.size)
    (hcx : w.cell? ⟨b, off, none⟩ = some (.int .u8 (zs[0]?.getD 0)))
    (hc : zs[0]?.getD 0 / 8 = 30) :
    Calls Tryd.prog 82 #[.slice (some ⟨b, off, none⟩) zs.length cap] w fun e w' => e = .returned (.tuple #[.int .i32 (fpP zs), .int .i64 (fsize zs)]) ∧ Below w.heap.size w w' := by
  have HC0 : Hid (zs[0]?.getD 0 / 8 = 30) := hc
  have hcb := hby.get 0
  generalize hcc : zs[0]?.getD 0 = c at hcx hcb hc
  have t4 : (bits .and .u8 c 248 == 240) = true := by rw [cls4 c hcb.1 hcb.2]; simp; omega
  have t3 : (bits .and .u8 c 240 == 224) = false := by rw [cls3 c hcb.1 hcb.2]; simp; omega
  have t2 : (bits .and .u8 c 224 == 192) = false := by rw [cls2 c hcb.1 hcb.2]; simp; omega
  have t1 : 128 ≤ c := by omega
  obtain ⟨hc0, hc1⟩ := hcb
  have HCC : Hid (zs[0]?.getD 0 = c) := hcc
  clear hc hcc
  have hpos : (0 : Int) < (zs.length : Int) := by omega
  have hcx2 : ∀ o, (w.alloc o).cell? ⟨b, off, none⟩ = some (.int .u8 c) := fun o => (World.cell?_alloc_past _ _ _ hbw).trans hcx
  go_enter Tryd.func82, Tryd.ntmps82
  go_wp2_with fail
  have f0 := box_new w c
  have B0 := below_box w (.cells #[.int .i32 c, .int .i64 1, .bool false] 169)
  have v0 := hv.below B0
  generalize w.alloc (.cells #[.int .i32 c, .int .i64 1, .bool false] 169) = W0 at f0 B0 v0
  by_cases g1 : goesOn zs 1
  · have hz1 := hby.get 1
    refine (readOn_go w.heap.size _ zs c 1 false W0 f0 v0 hby hm (by omega) g1.1 g1.2 (by omega) (by omega)).mono ?_
    rintro e W1 ⟨rfl, fn, bn⟩
    obtain ⟨x1, hx⟩ : ∃ x, x = c * 64 + zs[1]?.getD 0 % 64 := ⟨_, rfl⟩
    have f1 : Frm w.heap.size W1 x1 2 false := by rw [hx]; simpa using fn
    have v1 := v0.below bn
    have B1 := B0.trans bn
    have hxb1 : 0 ≤ x1 ∧ x1 < 16384 := by omega
    have HX1 : Hid (x1 = c * 64 + zs[1]?.getD 0 % 64) := hx
    clear hx fn f0 v0 B0 bn
    go_wp2_with fail
    by_cases g2 : goesOn zs 2
    · have hz2 := hby.get 2
      refine (readOn_go w.heap.size _ zs x1 2 false W1 f1 v1 hby hm (by omega) g2.1 g2.2 (by omega) (by omega)).mono ?_
      rintro e W2 ⟨rfl, fn, bn⟩
      obtain ⟨x2, hx⟩ : ∃ x, x = x1 * 64 + zs[2]?.getD 0 % 64 := ⟨_, rfl⟩
      have f2 : Frm w.heap.size W2 x2 3 false := by rw [hx]; simpa using fn
      have v2 := v1.below bn
      have B2 := B1.trans bn
      have hxb2 : 0 ≤ x2 ∧ x2 < 1048576 := by omega
      have HX2 : Hid (x2 = x1 * 64 + zs[2]?.getD 0 % 64) := hx
      clear hx fn f1 v1 B1 bn
      go_wp2_with fail
      by_cases g3 : goesOn zs 3
      · have hz3 := hby.get 3
        refine (readOn_go w.heap.size _ zs x2 3 false W2 f2 v2 hby hm (by omega) g3.1 g3.2 (by omega) (by omega)).mono ?_
        rintro e W3 ⟨rfl, fn, bn⟩
        obtain ⟨x3, hx⟩ : ∃ x, x = x2 * 64 + zs[3]?.getD 0 % 64 := ⟨_, rfl⟩
        have f3 : Frm w.heap.size W3 x3 4 false := by rw [hx]; simpa using fn
        have v3 := v2.below bn
        have B3 := B2.trans bn
        have hxb3 : 0 ≤ x3 ∧ x3 < 67108864 := by omega
        have HX3 : Hid (x3 = x2 * 64 + zs[3]?.getD 0 % 64) := hx
        clear hx fn f2 v2 B2 bn
        obtain ⟨y, hy⟩ : ∃ y, y = ((zs[0]?.getD 0 % 8 * 64 + zs[1]?.getD 0 % 64) * 64 + zs[2]?.getD 0 % 64) * 64 + zs[3]?.getD 0 % 64 := ⟨_, rfl⟩
        have hb0 := hby.get 0
        have hb1 := hby.get 1
        have hb2 := hby.get 2
        have hb3 := hby.get 3
        have h00 := HC0.out
        have hy0 : 0 ≤ y := by omega
        have hy1 : y < 2097152 := by omega
        have HLV : Hid (lv zs 4 = y) := by unfold Hid; rw [hy]; exact lv4 h00 g1 g2 g3
        have HY : Hid (y = ((zs[0]?.getD 0 % 8 * 64 + zs[1]?.getD 0 % 64) * 64 + zs[2]?.getD 0 % 64) * 64 + zs[3]?.getD 0 % 64) := hy
        clear hy h00 hb0 hb1 hb2 hb3
        have q0 := f3.c0
        have q1 := f3.c1
        have q2 := f3.c2
        have hT2 := hT.below B3 hT.pos
        have e1 := hT2.c4
        have e2 := hT2.c3
        clear f3 v3 hT hT2
        have hmask : bits .and .i32 x3 2097151 = y := by
          rw [show bits .and .i32 x3 2097151 = x3 % 2097152 by simpa using mask_i32 21 (by omega) x3 (by omega) (by omega)]
          have h0 := HC0.out
          have hcc := HCC.out
          rw [hcc] at h0
          rw [HY.out, hcc]
          have hb1 := hby.get 1
          have hx1 := HX1.out
          have hb2 := hby.get 2
          have hx2 := HX2.out
          have hb3 := hby.get 3
          have hx3 := HX3.out
          omega
        go_wp2
        go_quiet (fail)
        by_cases hlow : y < 65536
        · have hhit : ¬ hit zs 4 = true := fun h => ((need_iff4).1 ((hit_val HLV.out hy0).1 h)).1 hlow
          have HZ : Hid (fsize zs = 0) := by
            unfold Hid
            rw [fsize_only (n := 4) (by omega) (by omega) (fun m h1 h4 hne => hit_lead (lead_cls4 HC0.out m h1 h4 hne)), if_neg hhit]
          have HP : Hid (fpP zs = -1) := fp_none HZ.out
          clear hhit
          go_wp2
          go_ret2
          exact ⟨by rw [HP.out, HZ.out]; rfl, below_drewN B3 _⟩
        · cases ho : okPt y
          · have hhit : ¬ hit zs 4 = true := fun h => by
              have := ((need_iff4).1 ((hit_val HLV.out hy0).1 h)).2
              rw [ho] at this; cases this
            have HZ : Hid (fsize zs = 0) := by
              unfold Hid
              rw [fsize_only (n := 4) (by omega) (by omega) (fun m h1 h4 hne => hit_lead (lead_cls4 HC0.out m h1 h4 hne)), if_neg hhit]
            have HP : Hid (fpP zs = -1) := fp_none HZ.out
            clear hhit
            go_wp2_with (go_at_call 84; refine (hasForm_any _ _).mono ?_; rintro e w' ⟨rfl, rfl⟩; rw [ho])
            go_ret2
            exact ⟨by rw [HP.out, HZ.out]; rfl, below_drewN B3 _⟩
          · have hhit : hit zs 4 = true := (hit_val HLV.out hy0).2 ((need_iff4).2 ⟨hlow, ho⟩)
            have HZ : Hid (fsize zs = 4) := by
              unfold Hid
              rw [fsize_only (n := 4) (by omega) (by omega) (fun m h1 h4 hne => hit_lead (lead_cls4 HC0.out m h1 h4 hne)), if_pos hhit]
            have HP : Hid (fpP zs = y) := fp_some (by omega) HZ.out HLV.out
            clear hhit
            go_wp2_with (go_at_call 84; refine (hasForm_any _ _).mono ?_; rintro e w' ⟨rfl, rfl⟩; rw [ho])
            go_quiet (fail)
            go_wp2
            go_ret2
            exact ⟨by rw [HP.out, HZ.out]; rfl, below_drewN (below_drewN B3 _) _⟩
      · refine (readOn_cut w.heap.size _ zs x2 3 false W2 f2 v2 hby hm (by omega) (by by_cases h : zs.length ≤ 3; exact .inl h; exact .inr fun e => g3 ⟨by omega, e⟩)).mono ?_
        rintro e W3 ⟨rfl, f3, bn⟩
        have v3 := v2.below bn
        have B3 := B2.trans bn
        clear f2 v2 B2 bn
        have q2 := f3.c2
        clear f3 v3
        go_wp2
        go_ret2
        have HZ : fsize zs = 0 := by rw [fsize_only (n := 4) (by omega) (by omega) (fun m h1 h4 hne => hit_lead (lead_cls4 HC0.out m h1 h4 hne)), hit_neg (lv_cut 3 (by omega) (by omega) (fun j h1 h2 => by rcases (show j = 1 ∨ j = 2 by omega) with rfl | rfl <;> assumption) g3)]; rfl
        exact ⟨by rw [fp_none HZ, HZ]; rfl, B3⟩
    · refine (readOn_cut w.heap.size _ zs x1 2 false W1 f1 v1 hby hm (by omega) (by by_cases h : zs.length ≤ 2; exact .inl h; exact .inr fun e => g2 ⟨by omega, e⟩)).mono ?_
      rintro e W2 ⟨rfl, f2, bn⟩
      have v2 := v1.below bn
      have B2 := B1.trans bn
      clear f1 v1 B1 bn
      go_wp2_with fail
      refine (readOn_cut w.heap.size _ zs x1 2 true W2 f2 v2 hby hm (by omega) (by by_cases h : zs.length ≤ 2; exact .inl h; exact .inr fun e => g2 ⟨by omega, e⟩)).mono ?_
      rintro e W3 ⟨rfl, f3, bn⟩
      have v3 := v2.below bn
      have B3 := B2.trans bn
      clear f2 v2 B2 bn
      have q2 := f3.c2
      clear f3 v3
      go_wp2
      go_ret2
      have HZ : fsize zs = 0 := by rw [fsize_only (n := 4) (by omega) (by omega) (fun m h1 h4 hne => hit_lead (lead_cls4 HC0.out m h1 h4 hne)), hit_neg (lv_cut 2 (by omega) (by omega) (fun j h1 h2 => by rcases (show j = 1 by omega) with rfl; exact g1) g2)]; rfl
      exact ⟨by rw [fp_none HZ, HZ]; rfl, B3⟩
  · refine (readOn_cut w.heap.size _ zs c 1 false W0 f0 v0 hby hm (by omega) (by by_cases h : zs.length ≤ 1; exact .inl h; exact .inr fun e => g1 ⟨by omega, e⟩)).mono ?_
    rintro e W1 ⟨rfl, f1, bn⟩
    have v1 := v0.below bn
    have B1 := B0.trans bn
    clear f0 v0 B0 bn
    go_wp2_with fail
    refine (readOn_cut w.heap.size _ zs c 1 true W1 f1 v1 hby hm (by omega) (by by_cases h : zs.length ≤ 1; exact .inl h; exact .inr fun e => g1 ⟨by omega, e⟩)).mono ?_
    rintro e W2 ⟨rfl, f2, bn⟩
    have v2 := v1.below bn
    have B2 := B1.trans bn
    clear f1 v1 B1 bn
    go_wp2_with fail
    refine (readOn_cut w.heap.size _ zs c 1 true W2 f2 v2 hby hm (by omega) (by by_cases h : zs.length ≤ 1; exact .inl h; exact .inr fun e => g1 ⟨by omega, e⟩)).mono ?_
    rintro e W3 ⟨rfl, f3, bn⟩
    have v3 := v2.below bn
    have B3 := B2.trans bn
    clear f2 v2 B2 bn
    have q2 := f3.c2
    clear f3 v3
    go_wp2
    go_ret2
    have HZ : fsize zs = 0 := by rw [fsize_only (n := 4) (by omega) (by omega) (fun m h1 h4 hne => hit_lead (lead_cls4 HC0.out m h1 h4 hne)), hit_neg (lv_cut 1 (by omega) (by omega) (fun j h1 h2 => absurd h2 (by omega)) g1)]; rfl
    exact ⟨by rw [fp_none HZ, HZ]; rfl, B3⟩

set_option maxHeartbeats 1000000 in
set_option maxRecDepth 100000 in
theorem fp_3 (b off cap : Nat) (zs : List Int) (w : World) (hT : Tab w) (hv : RdB w.heap.size w (.slice (some ⟨b, off, none⟩) zs.length cap) zs) (hby : Bys zs) (hm : zs.length ≤ 4194304) (hne : 0 < zs.length) (hbw : b < w.heap.size)
    (hcx : w.cell? ⟨b, off, none⟩ = some (.int .u8 (zs[0]?.getD 0)))
    (hc : zs[0]?.getD 0 / 16 = 14) :
    Calls Tryd.prog 82 #[.slice (some ⟨b, off, none⟩) zs.length cap] w fun e w' => e = .returned (.tuple #[.int .i32 (fpP zs), .int .i64 (fsize zs)]) ∧ Below w.heap.size w w' := by
  have HC0 : Hid (zs[0]?.getD 0 / 16 = 14) := hc
  have hcb := hby.get 0
  generalize hcc : zs[0]?.getD 0 = c at hcx hcb hc
  have t4 : (bits .and .u8 c 248 == 240) = false := by rw [cls4 c hcb.1 hcb.2]; simp; omega
  have t3 : (bits .and .u8 c 240 == 224) = true := by rw [cls3 c hcb.1 hcb.2]; simp; omega
  have t2 : (bits .and .u8 c 224 == 192) = false := by rw [cls2 c hcb.1 hcb.2]; simp; omega
  have t1 : 128 ≤ c := by omega
  obtain ⟨hc0, hc1⟩ := hcb
  have HCC : Hid (zs[0]?.getD 0 = c) := hcc
  clear hc hcc
  have hpos : (0 : Int) < (zs.length : Int) := by omega
  have hcx2 : ∀ o, (w.alloc o).cell? ⟨b, off, none⟩ = some (.int .u8 c) := fun o => (World.cell?_alloc_past _ _ _ hbw).trans hcx
  go_enter Tryd.func82, Tryd.ntmps82
  go_wp2_with fail
  have f0 := box_new w c
  have B0 := below_box w (.cells #[.int .i32 c, .int .i64 1, .bool false] 169)
  have v0 := hv.below B0
  generalize w.alloc (.cells #[.int .i32 c, .int .i64 1, .bool false] 169) = W0 at f0 B0 v0
  by_cases g1 : goesOn zs 1
  · have hz1 := hby.get 1
    refine (readOn_go w.heap.size _ zs c 1 false W0 f0 v0 hby hm (by omega) g1.1 g1.2 (by omega) (by omega)).mono ?_
    rintro e W1 ⟨rfl, fn, bn⟩
    obtain ⟨x1, hx⟩ : ∃ x, x = c * 64 + zs[1]?.getD 0 % 64 := ⟨_, rfl⟩
    have f1 : Frm w.heap.size W1 x1 2 false := by rw [hx]; simpa using fn
    have v1 := v0.below bn
    have B1 := B0.trans bn
    have hxb1 : 0 ≤ x1 ∧ x1 < 16384 := by omega
    have HX1 : Hid (x1 = c * 64 + zs[1]?.getD 0 % 64) := hx
    clear hx fn f0 v0 B0 bn
    go_wp2_with fail
    by_cases g2 : goesOn zs 2
    · have hz2 := hby.get 2
      refine (readOn_go w.heap.size _ zs x1 2 false W1 f1 v1 hby hm (by omega) g2.1 g2.2 (by omega) (by omega)).mono ?_
      rintro e W2 ⟨rfl, fn, bn⟩
      obtain ⟨x2, hx⟩ : ∃ x, x = x1 * 64 + zs[2]?.getD 0 % 64 := ⟨_, rfl⟩
      have f2 : Frm w.heap.size W2 x2 3 false := by rw [hx]; simpa using fn
      have v2 := v1.below bn
      have B2 := B1.trans bn
      have hxb2 : 0 ≤ x2 ∧ x2 < 1048576 := by omega
      have HX2 : Hid (x2 = x1 * 64 + zs[2]?.getD 0 % 64) := hx
      clear hx fn f1 v1 B1 bn
      obtain ⟨y, hy⟩ : ∃ y, y = (zs[0]?.getD 0 % 16 * 64 + zs[1]?.getD 0 % 64) * 64 + zs[2]?.getD 0 % 64 := ⟨_, rfl⟩
      have hb0 := hby.get 0
      have hb1 := hby.get 1
      have hb2 := hby.get 2
      have h00 := HC0.out
      have hy0 : 0 ≤ y := by omega
      have hy1 : y < 65536 := by omega
      have HLV : Hid (lv zs 3 = y) := by unfold Hid; rw [hy]; exact lv3 h00 g1 g2
      have HY : Hid (y = (zs[0]?.getD 0 % 16 * 64 + zs[1]?.getD 0 % 64) * 64 + zs[2]?.getD 0 % 64) := hy
      clear hy h00 hb0 hb1 hb2
      have q0 := f2.c0
      have q1 := f2.c1
      have q2 := f2.c2
      have hT2 := hT.below B2 hT.pos
      have e1 := hT2.c3
      have e2 := hT2.c2
      clear f2 v2 hT hT2
      have hmask : bits .and .i32 x2 65535 = y := by
        rw [show bits .and .i32 x2 65535 = x2 % 65536 by simpa using mask_i32 16 (by omega) x2 (by omega) (by omega)]
        have h0 := HC0.out
        have hcc := HCC.out
        rw [hcc] at h0
        rw [HY.out, hcc]
        have hb1 := hby.get 1
        have hx1 := HX1.out
        have hb2 := hby.get 2
        have hx2 := HX2.out
        omega
      go_wp2
      go_quiet (fail)
      by_cases hlow : y < 2048
      · have hhit : ¬ hit zs 3 = true := fun h => ((need_iff3 hy1).1 ((hit_val HLV.out hy0).1 h)).1 hlow
        have HZ : Hid (fsize zs = 0) := by
          unfold Hid
          rw [fsize_only (n := 3) (by omega) (by omega) (fun m h1 h4 hne => hit_lead (lead_cls3 HC0.out m h1 h4 hne)), if_neg hhit]
        have HP : Hid (fpP zs = -1) := fp_none HZ.out
        clear hhit
        go_wp2
        go_ret2
        exact ⟨by rw [HP.out, HZ.out]; rfl, below_drewN B2 _⟩
      · cases ho : okPt y
        · have hhit : ¬ hit zs 3 = true := fun h => by
            have := ((need_iff3 hy1).1 ((hit_val HLV.out hy0).1 h)).2
            rw [ho] at this; cases this
          have HZ : Hid (fsize zs = 0) := by
            unfold Hid
            rw [fsize_only (n := 3) (by omega) (by omega) (fun m h1 h4 hne => hit_lead (lead_cls3 HC0.out m h1 h4 hne)), if_neg hhit]
          have HP : Hid (fpP zs = -1) := fp_none HZ.out
          clear hhit
          go_wp2_with (go_at_call 84; refine (hasForm_any _ _).mono ?_; rintro e w' ⟨rfl, rfl⟩; rw [ho])
          go_ret2
          exact ⟨by rw [HP.out, HZ.out]; rfl, below_drewN B2 _⟩
        · have hhit : hit zs 3 = true := (hit_val HLV.out hy0).2 ((need_iff3 hy1).2 ⟨hlow, ho⟩)
          have HZ : Hid (fsize zs = 3) := by
            unfold Hid
            rw [fsize_only (n := 3) (by omega) (by omega) (fun m h1 h4 hne => hit_lead (lead_cls3 HC0.out m h1 h4 hne)), if_pos hhit]
          have HP : Hid (fpP zs = y) := fp_some (by omega) HZ.out HLV.out
          clear hhit
          go_wp2_with (go_at_call 84; refine (hasForm_any _ _).mono ?_; rintro e w' ⟨rfl, rfl⟩; rw [ho])
          go_quiet (fail)
          go_wp2
          go_ret2
          exact ⟨by rw [HP.out, HZ.out]; rfl, below_drewN (below_drewN B2 _) _⟩
    · refine (readOn_cut w.heap.size _ zs x1 2 false W1 f1 v1 hby hm (by omega) (by by_cases h : zs.length ≤ 2; exact .inl h; exact .inr fun e => g2 ⟨by omega, e⟩)).mono ?_
      rintro e W2 ⟨rfl, f2, bn⟩
      have v2 := v1.below bn
      have B2 := B1.trans bn
      clear f1 v1 B1 bn
      have q2 := f2.c2
      clear f2 v2
      go_wp2
      go_ret2
      have HZ : fsize zs = 0 := by rw [fsize_only (n := 3) (by omega) (by omega) (fun m h1 h4 hne => hit_lead (lead_cls3 HC0.out m h1 h4 hne)), hit_neg (lv_cut 2 (by omega) (by omega) (fun j h1 h2 => by rcases (show j = 1 by omega) with rfl; exact g1) g2)]; rfl
      exact ⟨by rw [fp_none HZ, HZ]; rfl, B2⟩
  · refine (readOn_cut w.heap.size _ zs c 1 false W0 f0 v0 hby hm (by omega) (by by_cases h : zs.length ≤ 1; exact .inl h; exact .inr fun e => g1 ⟨by omega, e⟩)).mono ?_
    rintro e W1 ⟨rfl, f1, bn⟩
    have v1 := v0.below bn
    have B1 := B0.trans bn
    clear f0 v0 B0 bn
    go_wp2_with fail
    refine (readOn_cut w.heap.size _ zs c 1 true W1 f1 v1 hby hm (by omega) (by by_cases h : zs.length ≤ 1; exact .inl h; exact .inr fun e => g1 ⟨by omega, e⟩)).mono ?_
    rintro e W2 ⟨rfl, f2, bn⟩
    have v2 := v1.below bn
    have B2 := B1.trans bn
    clear f1 v1 B1 bn
    have q2 := f2.c2
    clear f2 v2
    go_wp2
    go_ret2
    have HZ : fsize zs = 0 := by rw [fsize_only (n := 3) (by omega) (by omega) (fun m h1 h4 hne => hit_lead (lead_cls3 HC0.out m h1 h4 hne)), hit_neg (lv_cut 1 (by omega) (by omega) (fun j h1 h2 => absurd h2 (by omega)) g1)]; rfl
    exact ⟨by rw [fp_none HZ, HZ]; rfl, B2⟩

set_option maxHeartbeats 1000000 in
set_option maxRecDepth 100000 in
theorem fp_2 (b off cap : Nat) (zs : List Int) (w : World) (hT : Tab w) (hv : RdB w.heap.size w (.slice (some ⟨b, off, none⟩) zs.length cap) zs) (hby : Bys zs) (hm : zs.length ≤ 4194304) (hne : 0 < zs.length) (hbw : b < w.heap.size)
    (hcx : w.cell? ⟨b, off, none⟩ = some (.int .u8 (zs[0]?.getD 0)))
    (hc : zs[0]?.getD 0 / 32 = 6) :
    Calls Tryd.prog 82 #[.slice (some ⟨b, off, none⟩) zs.length cap] w fun e w' => e = .returned (.tuple #[.int .i32 (fpP zs), .int .i64 (fsize zs)]) ∧ Below w.heap.size w w' := by
  have HC0 : Hid (zs[0]?.getD 0 / 32 = 6) := hc
  have hcb := hby.get 0
  generalize hcc : zs[0]?.getD 0 = c at hcx hcb hc
  have t4 : (bits .and .u8 c 248 == 240) = false := by rw [cls4 c hcb.1 hcb.2]; simp; omega
  have t3 : (bits .and .u8 c 240 == 224) = false := by rw [cls3 c hcb.1 hcb.2]; simp; omega
  have t2 : (bits .and .u8 c 224 == 192) = true := by rw [cls2 c hcb.1 hcb.2]; simp; omega
  have t1 : 128 ≤ c := by omega
  obtain ⟨hc0, hc1⟩ := hcb
  have HCC : Hid (zs[0]?.getD 0 = c) := hcc
  clear hc hcc
  have hpos : (0 : Int) < (zs.length : Int) := by omega
  have hcx2 : ∀ o, (w.alloc o).cell? ⟨b, off, none⟩ = some (.int .u8 c) := fun o => (World.cell?_alloc_past _ _ _ hbw).trans hcx
  go_enter Tryd.func82, Tryd.ntmps82
  go_wp2_with fail
  have f0 := box_new w c
  have B0 := below_box w (.cells #[.int .i32 c, .int .i64 1, .bool false] 169)
  have v0 := hv.below B0
  generalize w.alloc (.cells #[.int .i32 c, .int .i64 1, .bool false] 169) = W0 at f0 B0 v0
  by_cases g1 : goesOn zs 1
  · have hz1 := hby.get 1
    refine (readOn_go w.heap.size _ zs c 1 false W0 f0 v0 hby hm (by omega) g1.1 g1.2 (by omega) (by omega)).mono ?_
    rintro e W1 ⟨rfl, fn, bn⟩
    obtain ⟨x1, hx⟩ : ∃ x, x = c * 64 + zs[1]?.getD 0 % 64 := ⟨_, rfl⟩
    have f1 : Frm w.heap.size W1 x1 2 false := by rw [hx]; simpa using fn
    have v1 := v0.below bn
    have B1 := B0.trans bn
    have hxb1 : 0 ≤ x1 ∧ x1 < 16384 := by omega
    have HX1 : Hid (x1 = c * 64 + zs[1]?.getD 0 % 64) := hx
    clear hx fn f0 v0 B0 bn
    obtain ⟨y, hy⟩ : ∃ y, y = zs[0]?.getD 0 % 32 * 64 + zs[1]?.getD 0 % 64 := ⟨_, rfl⟩
    have hb0 := hby.get 0
    have hb1 := hby.get 1
    have h00 := HC0.out
    have hy0 : 0 ≤ y := by omega
    have hy1 : y < 2048 := by omega
    have HLV : Hid (lv zs 2 = y) := by unfold Hid; rw [hy]; exact lv2 h00 g1
    have HY : Hid (y = zs[0]?.getD 0 % 32 * 64 + zs[1]?.getD 0 % 64) := hy
    clear hy h00 hb0 hb1
    have q0 := f1.c0
    have q1 := f1.c1
    have q2 := f1.c2
    have hT2 := hT.below B1 hT.pos
    have e1 := hT2.c2
    have e2 := hT2.c1
    clear f1 v1 hT hT2
    have hmask : bits .and .i32 x1 2047 = y := by
      rw [show bits .and .i32 x1 2047 = x1 % 2048 by simpa using mask_i32 11 (by omega) x1 (by omega) (by omega)]
      have h0 := HC0.out
      have hcc := HCC.out
      rw [hcc] at h0
      rw [HY.out, hcc]
      have hb1 := hby.get 1
      have hx1 := HX1.out
      omega
    go_wp2
    go_quiet (fail)
    by_cases hlow : y < 128
    · have hhit : ¬ hit zs 2 = true := fun h => ((need_iff2 hy1).1 ((hit_val HLV.out hy0).1 h)).1 hlow
      have HZ : Hid (fsize zs = 0) := by
        unfold Hid
        rw [fsize_only (n := 2) (by omega) (by omega) (fun m h1 h4 hne => hit_lead (lead_cls2 HC0.out m h1 h4 hne)), if_neg hhit]
      have HP : Hid (fpP zs = -1) := fp_none HZ.out
      clear hhit
      go_wp2
      go_ret2
      exact ⟨by rw [HP.out, HZ.out]; rfl, below_drewN B1 _⟩
    · cases ho : okPt y
      · have hhit : ¬ hit zs 2 = true := fun h => by
          have := ((need_iff2 hy1).1 ((hit_val HLV.out hy0).1 h)).2
          rw [ho] at this; cases this
        have HZ : Hid (fsize zs = 0) := by
          unfold Hid
          rw [fsize_only (n := 2) (by omega) (by omega) (fun m h1 h4 hne => hit_lead (lead_cls2 HC0.out m h1 h4 hne)), if_neg hhit]
        have HP : Hid (fpP zs = -1) := fp_none HZ.out
        clear hhit
        go_wp2_with (go_at_call 84; refine (hasForm_any _ _).mono ?_; rintro e w' ⟨rfl, rfl⟩; rw [ho])
        go_ret2
        exact ⟨by rw [HP.out, HZ.out]; rfl, below_drewN B1 _⟩
      · have hhit : hit zs 2 = true := (hit_val HLV.out hy0).2 ((need_iff2 hy1).2 ⟨hlow, ho⟩)
        have HZ : Hid (fsize zs = 2) := by
          unfold Hid
          rw [fsize_only (n := 2) (by omega) (by omega) (fun m h1 h4 hne => hit_lead (lead_cls2 HC0.out m h1 h4 hne)), if_pos hhit]
        have HP : Hid (fpP zs = y) := fp_some (by omega) HZ.out HLV.out
        clear hhit
        go_wp2_with (go_at_call 84; refine (hasForm_any _ _).mono ?_; rintro e w' ⟨rfl, rfl⟩; rw [ho])
        go_quiet (fail)
        go_wp2
        go_ret2
        exact ⟨by rw [HP.out, HZ.out]; rfl, below_drewN (below_drewN B1 _) _⟩
  · refine (readOn_cut w.heap.size _ zs c 1 false W0 f0 v0 hby hm (by omega) (by by_cases h : zs.length ≤ 1; exact .inl h; exact .inr fun e => g1 ⟨by omega, e⟩)).mono ?_
    rintro e W1 ⟨rfl, f1, bn⟩
    have v1 := v0.below bn
    have B1 := B0.trans bn
    clear f0 v0 B0 bn
    have q2 := f1.c2
    clear f1 v1
    go_wp2
    go_ret2
    have HZ : fsize zs = 0 := by rw [fsize_only (n := 2) (by omega) (by omega) (fun m h1 h4 hne => hit_lead (lead_cls2 HC0.out m h1 h4 hne)), hit_neg (lv_cut 1 (by omega) (by omega) (fun j h1 h2 => absurd h2 (by omega)) g1)]; rfl
    exact ⟨by rw [fp_none HZ, HZ]; rfl, B1⟩

set_option maxHeartbeats 1000000 in
set_option maxRecDepth 100000 in
theorem fp_one (b off cap : Nat) (zs : List Int) (w : World) (hT : Tab w) (_hv : RdB w.heap.size w (.slice (some ⟨b, off, none⟩) zs.length cap) zs) (hby : Bys zs) (hm : zs.length ≤ 4194304) (hne : 0 < zs.length) (hbw : b < w.heap.size)
    (hcx : w.cell? ⟨b, off, none⟩ = some (.int .u8 (zs[0]?.getD 0)))
    (hc : zs[0]?.getD 0 < 128) :
    Calls Tryd.prog 82 #[.slice (some ⟨b, off, none⟩) zs.length cap] w fun e w' => e = .returned (.tuple #[.int .i32 (fpP zs), .int .i64 (fsize zs)]) ∧ Below w.heap.size w w' := by
  have hcb := hby.get 0
  have hlv : lv zs 1 = zs[0]?.getD 0 := by
    rw [lv_fold (by omega) (by rw [lead_one _ hc]; omega), lead_one _ hc]; rfl
  have hok : okPt (zs[0]?.getD 0) = true := by simp [okPt]; omega
  have hneed : need (zs[0]?.getD 0) = 1 := by unfold need; rw [if_pos hok, if_pos hc]
  have hhit : hit zs 1 = true := (hit_val hlv hcb.1).2 hneed
  have HZ : Hid (fsize zs = 1) := by
    unfold Hid
    rw [fsize_only (n := 1) (by omega) (by omega) (fun m h1 h4 hne => hit_lead (lead_cls1 hcb.1 hc m h1 h4 hne)), if_pos hhit]
  have HP : Hid (fpP zs = zs[0]?.getD 0) := fp_some (by omega) HZ.out hlv
  clear hlv hneed hhit
  generalize zs[0]?.getD 0 = c at hcx hcb hc hok HP
  have t4 : (bits .and .u8 c 248 == 240) = false := by rw [cls4 c hcb.1 hcb.2]; simp; omega
  have t3 : (bits .and .u8 c 240 == 224) = false := by rw [cls3 c hcb.1 hcb.2]; simp; omega
  have t2 : (bits .and .u8 c 224 == 192) = false := by rw [cls2 c hcb.1 hcb.2]; simp; omega
  have t1 : c < 128 := hc
  obtain ⟨hc0, hc1⟩ := hcb
  have hpos : (0 : Int) < (zs.length : Int) := by omega
  have hcx2 : ∀ o, (w.alloc o).cell? ⟨b, off, none⟩ = some (.int .u8 c) := fun o => (World.cell?_alloc_past _ _ _ hbw).trans hcx
  have f0 := box_new w c
  have B0 := below_box w (.cells #[.int .i32 c, .int .i64 1, .bool false] 169)
  have q0 := f0.c0
  have q1 := f0.c1
  have q2 := f0.c2
  have hT2 := hT.below B0 hT.pos
  have e1 := hT2.c1
  have e2 := hT2.c0
  clear f0 hT2 hT hc
  have hmask : bits .and .i32 c 127 = c := by
    rw [show bits .and .i32 c 127 = c % 128 by simpa using mask_i32 7 (by omega) c (by omega) (by omega)]
    omega
  go_enter Tryd.func82, Tryd.ntmps82
  go_wp2_with fail
  go_quiet (fail)
  go_wp2_with (go_at_call 84; refine (hasForm_any _ _).mono ?_; rintro e w' ⟨rfl, rfl⟩; rw [hok])
  go_quiet (fail)
  go_wp2
  go_ret2
  exact ⟨by rw [HP.out, HZ.out]; rfl, below_drewN (below_drewN B0 _) _⟩

set_option maxHeartbeats 1000000 in
set_option maxRecDepth 100000 in
theorem fp_odd (b off cap : Nat) (zs : List Int) (w : World) (_hT : Tab w) (_hv : RdB w.heap.size w (.slice (some ⟨b, off, none⟩) zs.length cap) zs) (hby : Bys zs) (_hm : zs.length ≤ 4194304) (hne : 0 < zs.length) (hbw : b < w.heap.size)
    (hcx : w.cell? ⟨b, off, none⟩ = some (.int .u8 (zs[0]?.getD 0)))
    (hc : (128 : Int) ≤ zs[0]?.getD 0) (hc2 : ¬ zs[0]?.getD 0 / 32 = 6) (hc3 : ¬ zs[0]?.getD 0 / 16 = 14) (hc4 : ¬ zs[0]?.getD 0 / 8 = 30) :
    Calls Tryd.prog 82 #[.slice (some ⟨b, off, none⟩) zs.length cap] w fun e w' => e = .returned (.tuple #[.int .i32 (fpP zs), .int .i64 (fsize zs)]) ∧ Below w.heap.size w w' := by
  have hcb := hby.get 0
  have HZ : Hid (fsize zs = 0) := fsize_zero (fun m h1 h4 => hit_lead (lead_cls0 hc hc2 hc3 hc4 m h1 h4))
  have HP : Hid (fpP zs = -1) := fp_none HZ.out
  generalize zs[0]?.getD 0 = c at hcx hcb hc hc2 hc3 hc4
  have t4 : (bits .and .u8 c 248 == 240) = false := by rw [cls4 c hcb.1 hcb.2]; simp; omega
  have t3 : (bits .and .u8 c 240 == 224) = false := by rw [cls3 c hcb.1 hcb.2]; simp; omega
  have t2 : (bits .and .u8 c 224 == 192) = false := by rw [cls2 c hcb.1 hcb.2]; simp; omega
  have t1 : 128 ≤ c := by omega
  obtain ⟨hc0, hc1⟩ := hcb
  clear hc hc2 hc3 hc4
  have hpos : (0 : Int) < (zs.length : Int) := by omega
  have hcx2 : ∀ o, (w.alloc o).cell? ⟨b, off, none⟩ = some (.int .u8 c) := fun o => (World.cell?_alloc_past _ _ _ hbw).trans hcx
  have B0 := below_box w (.cells #[.int .i32 c, .int .i64 1, .bool true] 169)
  go_enter Tryd.func82, Tryd.ntmps82
  go_wp2
  go_ret2
  exact ⟨by rw [HP.out, HZ.out]; rfl, B0⟩

theorem firstPoint_any (v : Value) (zs : List Int) (w : World) (hT : Tab w) (hv : RdB w.heap.size w v zs) (hby : Bys zs) (hm : zs.length ≤ 4194304) (hne : 0 < zs.length) :
    Calls Tryd.prog 82 #[v] w fun e w' => e = .returned (.tuple #[.int .i32 (fpP zs), .int .i64 (fsize zs)]) ∧ Below w.heap.size w w' := by
  obtain ⟨a, cap, hveq, hr⟩ := hv
  obtain ⟨b, off, ha, hb, hc⟩ := hr (fun h => by simp [h] at hne)
  subst ha
  subst hveq
  have hv : RdB w.heap.size w (.slice (some ⟨b, off, none⟩) zs.length cap) zs := ⟨_, cap, rfl, hr⟩
  have hcx : w.cell? ⟨b, off, none⟩ = some (.int .u8 (zs[0]?.getD 0)) := by simpa using hc 0 hne
  by_cases c1 : zs[0]?.getD 0 < 128
  · exact fp_one b off cap zs w hT hv hby hm hne hb hcx c1
  · by_cases c2 : zs[0]?.getD 0 / 32 = 6
    · exact fp_2 b off cap zs w hT hv hby hm hne hb hcx c2
    · by_cases c3 : zs[0]?.getD 0 / 16 = 14
      · exact fp_3 b off cap zs w hT hv hby hm hne hb hcx c3
      · by_cases c4 : zs[0]?.getD 0 / 8 = 30
        · exact fp_4 b off cap zs w hT hv hby hm hne hb hcx c4
        · exact fp_odd b off cap zs w hT hv hby hm hne hb hcx (by omega) c2 c3 c4

end Go.Proofs.YtgmjpdejfdldlaaDoor

