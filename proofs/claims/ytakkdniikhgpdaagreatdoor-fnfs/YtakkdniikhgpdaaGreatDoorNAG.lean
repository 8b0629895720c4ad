import Derived.Handy
import Derived.Maps.AppendAt
import Derived.Test.YtakkdniikhgpdaaGreatDoorMAF
import Derived.Test.YtakkdniikhgpdaaGreatDoorNAC
import Derived.Test.YtakkdniikhgpdaaGreatDoorNAF
namespace Go.Proofs.YtakkdniikhgpdaaGreatDoor
open Go.RowKit

/-- A row of one's own, cut. -/
theorem row_cut {B : Nat} {w : World} {e : TypeId} {size n m : Nat} {g cap : Nat} {xs : List Value} (h : w.ownsRow B e size (.slice (some ⟨g, 0, none⟩) n cap) n xs) (hm : m ≤ n) :
    w.ownsRow B e size (.slice (some ⟨g, 0, none⟩) m cap) m (xs.take (m * size)) := by
  rcases h.2 with ⟨h', _⟩ | ⟨g', cap', cur, h', hb, hg, hnc, hcm, hcs, htake⟩
  · simp at h'
  · simp only [Value.slice.injEq, Option.some.injEq, Addr.mk.injEq, and_true, true_and] at h'
    obtain ⟨rfl, rfl⟩ := h'
    have hle : m * size ≤ n * size := Nat.mul_le_mul_right _ hm
    refine ⟨by rw [List.length_take, h.1]; omega, .inr ⟨g, cap, cur, rfl, hb, hg, by omega, hcm, hcs, ?_⟩⟩
    rw [← htake, List.take_take, Nat.min_eq_left hle]

/-- The slice value of a row of one's own, written out. -/
theorem row_form {B : Nat} {w : World} {e : TypeId} {size n : Nat} {v : Value} {xs : List Value} (h : w.ownsRow B e size v n xs) : ∃ a cap, v = .slice a n cap ∧ n ≤ cap ∧ cap ≤ maxLen := by
  rcases h.2 with ⟨hv, hn⟩ | ⟨g, cap, cur, hv, hb, hg, hnc, hcm, hcs, ht⟩
  · exact ⟨_, 0, by rw [hv, hn], by omega, by unfold maxLen; omega⟩
  · exact ⟨_, cap, hv, hnc, hcm⟩

/-- Two rows of one's own: an append onto the one leaves the other, and they stay apart. -/
theorem two_rows {B : Nat} {w w' : World} {e : TypeId} {size m : Nat} {ov C v' : Value} {ys : List Value} {o : Obj} (hO : w.ownsRow B e size ov m ys) (hap : ∀ g, ov.ownBlock = some g → C.ownBlock ≠ some g)
    (hg : (w.alloc o).grownBy w' C.ownBlock) (hat : v'.ownBlock = C.ownBlock ∨ v'.ownBlock = some (w.alloc o).heap.size) : w'.ownsRow B e size ov m ys ∧ ∀ g, ov.ownBlock = some g → v'.ownBlock ≠ some g := by
  refine ⟨World.ownsRow.kept (hO.alloc o) hg ?_, fun g h1 h2 => ?_⟩
  · cases h : ov.ownBlock with
    | none => exact .inl rfl
    | some g => exact .inr (fun e => hap g h e.symm)
  · rcases hat with h | h
    · exact hap g h1 (by rw [← h, h2])
    · have := World.ownsRow.lt hO g h1
      rw [h2] at h
      simp at h
      omega

theorem op_take (op : List Int) (n : Nat) : op.reverse.take (op.length - n) = (op.drop n).reverse := by
  rw [List.reverse_drop]
theorem op_at (op : List Int) (n : Nat) (h0 : 0 < n) (hn : n ≤ op.length) : op.reverse[op.length - n]?.getD 0 = op[n - 1]?.getD 0 := by
  rw [List.getElem?_reverse (by omega)]
  congr 2
  omega

theorem stGo_bad (doc : List Pc) (k : Nat) (hk : k < doc.length) (op out : List Int) (h : op.length < ar doc[k].k) : stGo (doc.drop k) k op out = (out, op) := by
  rw [List.drop_eq_getElem_cons hk]; simp only [stGo]; rw [if_pos h]
theorem stGo_go (doc : List Pc) (k : Nat) (hk : k < doc.length) (op out : List Int) (h : ¬ op.length < ar doc[k].k) (s : Int) (hs : s = if ar doc[k].k = 0 then (k : Int) else op[ar doc[k].k - 1]?.getD 0) :
    stGo (doc.drop k) k op out = stGo (doc.drop (k + 1)) (k + 1) (s :: op.drop (ar doc[k].k)) (out ++ [s]) := by
  rw [List.drop_eq_getElem_cons hk]; simp only [stGo]; rw [if_neg h, hs]

set_option maxHeartbeats 2000000 in
set_option maxRecDepth 100000 in
theorem l2starts_any (v : Value) (doc : List Pc) (w : World) (hv : RdP w.heap.size w v doc) (hn : doc.length ≤ 1048576) :
    Calls Tryz.prog 87 #[v] w fun e w' => ∃ v', e = .returned v' ∧ OwI w.heap.size w' v' (startsOf doc) ∧ w.grownBy w' none := by
  obtain ⟨i0, hi, hz0, hz1, hz2⟩ := info_parts info3
  obtain ⟨a, cap, hv0, _⟩ := id hv
  subst hv0
  go_enter Tryz.func87, Tryz.ntmps87
  go_wp2
  go_loopw [3, 4, 5] (fun ov pv i wr => ∃ (k : Nat) (op out : List Int), k ≤ doc.length ∧ i = .int .i64 k ∧ OwI w.heap.size wr ov out ∧ OwI w.heap.size wr pv op.reverse ∧ (∀ g, ov.ownBlock = some g → pv.ownBlock ≠ some g) ∧ op.length ≤ k ∧ out.length ≤ k ∧ Hid (stGo (doc.drop k) k op out = stGo doc 0 [] []) ∧ w.grownBy wr none)
    (fun _ _ i _ => doc.length - (intOf i).toNat)
  case atStart => exact ⟨0, [], [], Nat.zero_le _, rfl, World.ownsRow_nil _ _ _ _, World.ownsRow_nil _ _ _ _, (fun g h => by simp [Value.ownBlock] at h), Nat.le_refl _, Nat.le_refl _, rfl, World.grownBy.refl _ _⟩
  case round =>
    obtain ⟨k, op, out, hk, rfl, hO, hP, hap, hol, hul, HS, hgr⟩ := hrel
    obtain ⟨pa, pcap, hpv, hpc, hpm⟩ := row_form hP
    obtain ⟨oa, ocap, hov, hoc, hom⟩ := row_form hO
    rw [List.length_reverse] at hpv
    by_cases hlt : k < doc.length
    · obtain ⟨b, off, cap', tv, hva, hb, hp⟩ := (hv.keep hgr).at k hlt
      cases hva
      have hk0 := hp.k
      have ha := l2arity_any doc[k].k wr
      have hbad := stGo_bad doc k hlt op out
      have hgo := stGo_go doc k hlt op out
      have har := ar_cases doc[k].k
      generalize ar doc[k].k = n at ha hbad hgo har
      generalize doc[k].k = kk at hk0 ha
      clear hv hp
      by_cases hb2 : op.length < n
      · have HB : Hid (stGo doc 0 [] [] = (out, op)) := by unfold Hid; rw [← HS.out]; exact hbad hb2
        clear hbad hgo har HS
        by_cases h1 : op.length = 1
        · have e1 : ((op.length : Int) != 1) = false := by simp; omega
          have HF : Hid (startsOf doc = out) := by unfold Hid startsOf; rw [HB.out, if_pos h1]
          clear h1
          subst hpv hov
          go_wp2_with fail
          refine ha.mono ?_
          rintro e w1 ⟨rfl, rfl⟩
          go_wp2
          go_ret
          exact ⟨.slice oa out.length ocap, rfl, by rw [HF.out]; exact hO, hgr⟩
        · have e1 : ((op.length : Int) != 1) = true := by simp; omega
          have HF : Hid (startsOf doc = []) := by unfold Hid startsOf; rw [HB.out, if_neg h1]
          clear h1
          subst hpv hov
          go_wp2_with fail
          refine ha.mono ?_
          rintro e w1 ⟨rfl, rfl⟩
          go_wp2
          go_ret
          exact ⟨_, rfl, by rw [HF.out]; exact World.ownsRow_nil _ _ _ _, hgr⟩
      · obtain ⟨m, hm⟩ : ∃ m, op.length = m + n := ⟨op.length - n, by omega⟩
        have hgo2 := hgo hb2
        rcases hP.2 with ⟨hpn, hp0⟩ | ⟨g, cp, cur, hpg, hpb, hpx, hpnc, hpcm, hpcs, hpt⟩
        · have h00 : op = [] := by simpa using hp0
          subst h00
          have hn0 : n = 0 := by simp at hm; omega
          subst hn0
          have HS2 : Hid (stGo (doc.drop (k + 1)) (k + 1) [(k : Int)] (out ++ [(k : Int)]) = stGo doc 0 [] []) := by
            unfold Hid; rw [← HS.out, hgo2 k (by simp)]; rfl
          have HC : Hid ([] ++ [(k : Int)] = [(k : Int)].reverse) := rfl
          have HL : Hid (([] : List Int).length ≤ k) := Nat.zero_le _
          subst hpn hov
          have hC : OwI w.heap.size wr (.slice none 0 0) [] := World.ownsRow_nil _ _ _ _
          clear hbad hgo hgo2 har HS hP hpv hm hp0
          have hgs := hgr.size
          go_wp2_with fail
          refine ha.mono ?_
          rintro e w1 ⟨rfl, rfl⟩
          clear ha
          go_wp2_with (first
            | (at_builtin; refine wpList_append_own_at _ rfl (.tmp 39) (.tmp 41) 71 rfl w.heap.size 3 i0 (.int .i64 0) 1 8 Tryz.underlying71 hi hz0 hz1 hz2 rfl (by decide) _ _ _ rfl (World.ownsRow.alloc hC _) ⟨wr.heap.size, 0, none⟩ 1 1 [.int .i64 k] rfl rfl (cell_one_new _ _ _) (by intro u hu; simp at hu; subst hu; rfl) (by unfold maxLen; omega) (by omega) (by simp; omega) ?_; intro v2 w2 nw2 gw2 _ aw2; obtain ⟨P2, B2⟩ := own_app (q := .i64) (xs := [k]) _ hgs hC nw2 (by simp) gw2; obtain ⟨O2, hap2⟩ := two_rows hO hap gw2 aw2; clear nw2 gw2 aw2; have G2 := B2.size)
            | (at_builtin; refine wpList_append_own_at _ rfl (.tmp 43) (.tmp 45) 71 rfl w.heap.size 3 i0 (.int .i64 0) 1 8 Tryz.underlying71 hi hz0 hz1 hz2 rfl (by decide) _ _ _ rfl (World.ownsRow.alloc O2 _) ⟨w2.heap.size, 0, none⟩ 1 1 [.int .i64 k] rfl rfl (cell_one_new _ _ _) (by intro u hu; simp at hu; subst hu; rfl) (by unfold maxLen; omega) (by omega) (by simp; omega) ?_; intro v3 w3 nw3 gw3 _ aw3; obtain ⟨O3, B3⟩ := own_app (q := .i64) (xs := [k]) _ (Nat.le_trans hgs G2) O2 nw3 (by simp) gw3; obtain ⟨P3, hap3⟩ := two_rows P2 (fun g h1 h2 => hap2 g h2 h1) gw3 aw3; clear nw3 gw3 aw3 P2 O2 hap2))
          go_roundw
          case rel => exact ⟨k + 1, _, _, by omega, by go_num, O3, HC.out ▸ P3, fun g h1 h2 => hap3 g h2 h1, by have := HL.out; simp <;> omega, by simp <;> omega, HS2, grown_of_below ((below_of_grown hgr).trans (B2.trans B3))⟩
          case measure => simp [intOf]; omega
        · have hpl : op.reverse.length = op.length := by simp
          rw [hpl] at hpg
          rw [hpg] at hP hap
          have hPl : wr.ownsRow w.heap.size 3 1 (.slice (some ⟨g, 0, none⟩) op.length cp) op.length (op.reverse.map (Value.int .i64)) := by have := hP; unfold OwI Ow at this; rw [hpl] at this; exact this
          have hcut := row_cut hPl (m := m) (by omega)
          have e1 : (op.drop n).reverse.length = m := by simp; omega
          have hC : OwI w.heap.size wr (.slice (some ⟨g, 0, none⟩) m cp) (op.drop n).reverse := by
            unfold OwI Ow
            rw [e1, ← op_take op n, show op.length - n = m by omega, List.map_take]
            simpa using hcut
          have hap1 : ∀ g', (Value.slice oa out.length ocap).ownBlock = some g' → (Value.slice (some ⟨g, 0, none⟩) m cp).ownBlock ≠ some g' := fun g' h => hap g' (by rw [hov]; exact h)
          clear hap
          have hap := hap1
          have hcx : 0 < n → wr.cell? ⟨g, m, none⟩ = some (.int .i64 (op[n - 1]?.getD 0)) := by
            intro hn0
            rw [World.ownsRow.cellAt hPl m (by omega), List.getElem?_map, ← op_at op n hn0 (by omega), show op.length - n = m by omega]
            have : m < op.reverse.length := by simp; omega
            rw [List.getElem?_eq_getElem this]
            rfl
          have hdl : (op.drop n).reverse.length ≤ m := Nat.le_of_eq e1
          have hmk : m ≤ k := by omega
          have hmc : m + n ≤ cp := by rw [hpl] at hpnc; omega
          have hmc2 : m ≤ cp := by omega
          clear hpnc
          have hnm : ((m + n : Nat) : Int) = (m : Int) + n := by omega
          rw [hm] at hpg
          clear hap1 hpx hpt hpcs hpv e1 hP hPl hcut hpl
          unfold maxLen at hpcm
          by_cases h0 : n = 0
          · subst h0
            have HS2 : Hid (stGo (doc.drop (k + 1)) (k + 1) ((k : Int) :: op.drop 0) (out ++ [(k : Int)]) = stGo doc 0 [] []) := by
              unfold Hid; rw [← HS.out, hgo2 k (by simp)]
            have HC : Hid ((op.drop 0).reverse ++ [(k : Int)] = ((k : Int) :: op.drop 0).reverse) := by unfold Hid; simp
            have HL : Hid ((op.drop 0).length ≤ m) := by unfold Hid; simpa using hdl
            clear hbad hgo hgo2 har HS hcx hm hol hb2 hnm
            generalize (op.drop 0) = oq at *
            subst hpg hov
            have hgs := hgr.size
            go_wp2_with fail
            refine ha.mono ?_
            rintro e w1 ⟨rfl, rfl⟩
            clear ha
            go_wp2_with (first
              | (at_builtin; refine wpList_append_own_at _ rfl (.tmp 39) (.tmp 41) 71 rfl w.heap.size 3 i0 (.int .i64 0) 1 8 Tryz.underlying71 hi hz0 hz1 hz2 rfl (by decide) _ _ _ rfl (World.ownsRow.alloc hC _) ⟨wr.heap.size, 0, none⟩ 1 1 [.int .i64 k] rfl rfl (cell_one_new _ _ _) (by intro u hu; simp at hu; subst hu; rfl) (by unfold maxLen; omega) (by omega) (by simp; omega) ?_; intro v2 w2 nw2 gw2 _ aw2; obtain ⟨P2, B2⟩ := own_app (q := .i64) (xs := [k]) _ hgs hC nw2 (by simp) gw2; obtain ⟨O2, hap2⟩ := two_rows hO hap gw2 aw2; clear nw2 gw2 aw2; have G2 := B2.size)
              | (at_builtin; refine wpList_append_own_at _ rfl (.tmp 43) (.tmp 45) 71 rfl w.heap.size 3 i0 (.int .i64 0) 1 8 Tryz.underlying71 hi hz0 hz1 hz2 rfl (by decide) _ _ _ rfl (World.ownsRow.alloc O2 _) ⟨w2.heap.size, 0, none⟩ 1 1 [.int .i64 k] rfl rfl (cell_one_new _ _ _) (by intro u hu; simp at hu; subst hu; rfl) (by unfold maxLen; omega) (by omega) (by simp; omega) ?_; intro v3 w3 nw3 gw3 _ aw3; obtain ⟨O3, B3⟩ := own_app (q := .i64) (xs := [k]) _ (Nat.le_trans hgs G2) O2 nw3 (by simp) gw3; obtain ⟨P3, hap3⟩ := two_rows P2 (fun g h1 h2 => hap2 g h2 h1) gw3 aw3; clear nw3 gw3 aw3 P2 O2 hap2))
            go_roundw
            case rel => exact ⟨k + 1, _, _, by omega, by go_num, O3, HC.out ▸ P3, fun g h1 h2 => hap3 g h2 h1, by have := HL.out; simp <;> omega, by simp <;> omega, HS2, grown_of_below ((below_of_grown hgr).trans (B2.trans B3))⟩
            case measure => simp [intOf]; omega
          · have hcx1 := hcx (by omega)
            have HS2 : Hid (stGo (doc.drop (k + 1)) (k + 1) (op[n - 1]?.getD 0 :: op.drop n) (out ++ [op[n - 1]?.getD 0]) = stGo doc 0 [] []) := by
              unfold Hid; rw [← HS.out, hgo2 (op[n - 1]?.getD 0) (by rw [if_neg h0])]
            have HC : Hid ((op.drop n).reverse ++ [op[n - 1]?.getD 0] = (op[n - 1]?.getD 0 :: op.drop n).reverse) := by unfold Hid; simp
            have HL : Hid ((op.drop n).length ≤ m) := by unfold Hid; simpa using hdl
            clear hbad hgo hgo2 HS hcx hm hol hb2 hnm
            generalize (op.drop n) = oq at *
            generalize op[n - 1]?.getD 0 = s at *
            rcases har with rfl | rfl | rfl
            · exact absurd rfl h0
            · clear h0
              subst hpg hov
              have hgs := hgr.size
              go_wp2_with fail
              refine ha.mono ?_
              rintro e w1 ⟨rfl, rfl⟩
              clear ha
              go_wp2_with (first
                | (at_builtin; refine wpList_append_own_at _ rfl (.tmp 39) (.tmp 41) 71 rfl w.heap.size 3 i0 (.int .i64 0) 1 8 Tryz.underlying71 hi hz0 hz1 hz2 rfl (by decide) _ _ _ rfl (World.ownsRow.alloc hC _) ⟨wr.heap.size, 0, none⟩ 1 1 [.int .i64 s] rfl rfl (cell_one_new _ _ _) (by intro u hu; simp at hu; subst hu; rfl) (by unfold maxLen; omega) (by omega) (by simp; omega) ?_; intro v2 w2 nw2 gw2 _ aw2; obtain ⟨P2, B2⟩ := own_app (q := .i64) (xs := [s]) _ hgs hC nw2 (by simp) gw2; obtain ⟨O2, hap2⟩ := two_rows hO hap gw2 aw2; clear nw2 gw2 aw2; have G2 := B2.size)
                | (at_builtin; refine wpList_append_own_at _ rfl (.tmp 43) (.tmp 45) 71 rfl w.heap.size 3 i0 (.int .i64 0) 1 8 Tryz.underlying71 hi hz0 hz1 hz2 rfl (by decide) _ _ _ rfl (World.ownsRow.alloc O2 _) ⟨w2.heap.size, 0, none⟩ 1 1 [.int .i64 s] rfl rfl (cell_one_new _ _ _) (by intro u hu; simp at hu; subst hu; rfl) (by unfold maxLen; omega) (by omega) (by simp; omega) ?_; intro v3 w3 nw3 gw3 _ aw3; obtain ⟨O3, B3⟩ := own_app (q := .i64) (xs := [s]) _ (Nat.le_trans hgs G2) O2 nw3 (by simp) gw3; obtain ⟨P3, hap3⟩ := two_rows P2 (fun g h1 h2 => hap2 g h2 h1) gw3 aw3; clear nw3 gw3 aw3 P2 O2 hap2))
              go_roundw
              case rel => exact ⟨k + 1, _, _, by omega, by go_num, O3, HC.out ▸ P3, fun g h1 h2 => hap3 g h2 h1, by have := HL.out; simp <;> omega, by simp <;> omega, HS2, grown_of_below ((below_of_grown hgr).trans (B2.trans B3))⟩
              case measure => simp [intOf]; omega
            · clear h0
              subst hpg hov
              have hgs := hgr.size
              go_wp2_with fail
              refine ha.mono ?_
              rintro e w1 ⟨rfl, rfl⟩
              clear ha
              go_wp2_with (first
                | (at_builtin; refine wpList_append_own_at _ rfl (.tmp 39) (.tmp 41) 71 rfl w.heap.size 3 i0 (.int .i64 0) 1 8 Tryz.underlying71 hi hz0 hz1 hz2 rfl (by decide) _ _ _ rfl (World.ownsRow.alloc hC _) ⟨wr.heap.size, 0, none⟩ 1 1 [.int .i64 s] rfl rfl (cell_one_new _ _ _) (by intro u hu; simp at hu; subst hu; rfl) (by unfold maxLen; omega) (by omega) (by simp; omega) ?_; intro v2 w2 nw2 gw2 _ aw2; obtain ⟨P2, B2⟩ := own_app (q := .i64) (xs := [s]) _ hgs hC nw2 (by simp) gw2; obtain ⟨O2, hap2⟩ := two_rows hO hap gw2 aw2; clear nw2 gw2 aw2; have G2 := B2.size)
                | (at_builtin; refine wpList_append_own_at _ rfl (.tmp 43) (.tmp 45) 71 rfl w.heap.size 3 i0 (.int .i64 0) 1 8 Tryz.underlying71 hi hz0 hz1 hz2 rfl (by decide) _ _ _ rfl (World.ownsRow.alloc O2 _) ⟨w2.heap.size, 0, none⟩ 1 1 [.int .i64 s] rfl rfl (cell_one_new _ _ _) (by intro u hu; simp at hu; subst hu; rfl) (by unfold maxLen; omega) (by omega) (by simp; omega) ?_; intro v3 w3 nw3 gw3 _ aw3; obtain ⟨O3, B3⟩ := own_app (q := .i64) (xs := [s]) _ (Nat.le_trans hgs G2) O2 nw3 (by simp) gw3; obtain ⟨P3, hap3⟩ := two_rows P2 (fun g h1 h2 => hap2 g h2 h1) gw3 aw3; clear nw3 gw3 aw3 P2 O2 hap2))
              go_roundw
              case rel => exact ⟨k + 1, _, _, by omega, by go_num, O3, HC.out ▸ P3, fun g h1 h2 => hap3 g h2 h1, by have := HL.out; simp <;> omega, by simp <;> omega, HS2, grown_of_below ((below_of_grown hgr).trans (B2.trans B3))⟩
              case measure => simp [intOf]; omega
    · have hkn : k = doc.length := by omega
      have HB : Hid (stGo doc 0 [] [] = (out, op)) := by unfold Hid; rw [← HS.out, hkn]; simp [stGo]
      by_cases h1 : op.length = 1
      · have e1 : ((op.length : Int) != 1) = false := by simp; omega
        have HF : Hid (startsOf doc = out) := by unfold Hid startsOf; rw [HB.out, if_pos h1]
        clear h1
        subst hpv hov
        go_wp2
        go_ret
        exact ⟨_, rfl, by rw [HF.out]; exact hO, hgr⟩
      · have e1 : ((op.length : Int) != 1) = true := by simp; omega
        have HF : Hid (startsOf doc = []) := by unfold Hid startsOf; rw [HB.out, if_neg h1]
        clear h1
        subst hpv hov
        go_wp2
        go_ret
        exact ⟨_, rfl, by rw [HF.out]; exact World.ownsRow_nil _ _ _ _, hgr⟩

end Go.Proofs.YtakkdniikhgpdaaGreatDoor

namespace Go.Proofs.YtakkdniikhgpdaaGreatDoor
open Go.RowKit

theorem nestS_bd : ∀ (T : Tr), okN T → 0 ≤ nestS T ∧ nestS T ≤ 8000
  | .leaf _, _ => by simp [nestS]
  | .un p x, h => by
    have := nestS_bd x h.2; have := h.1
    simp only [nestS]
    split <;> omega
  | .bin _ x y, h => by
    have := nestS_bd x h.1; have := nestS_bd y h.2
    simp only [nestS]
    split <;> omega

theorem seg_at {doc : List Pc} {j : Nat} {p : Pc} (h : doc[j]? = some p) : ∃ hj : j < doc.length, doc[j] = p := by
  obtain ⟨hj, h⟩ := List.getElem?_eq_some_iff.1 h; exact ⟨hj, h⟩

theorem rd_at {B : Nat} {w : World} {v : Value} {st : List Int} {j : Nat} {x : Int} (h : RdI B w v st) (hx : st[j]? = some x) : ∃ b off cap, v = .slice (some ⟨b, off, none⟩) st.length cap ∧ w.cell? ⟨b, off + j, none⟩ = some (.int .i64 x) := by
  obtain ⟨hj, hx2⟩ := List.getElem?_eq_some_iff.1 hx
  obtain ⟨a, cap, hv, hr⟩ := h
  obtain ⟨b, off, ha, hb, hc⟩ := hr (fun e => by rw [e] at hj; simp at hj)
  have := hc j hj
  rw [hx] at this
  exact ⟨b, off, cap, by rw [hv, ha], this⟩

end Go.Proofs.YtakkdniikhgpdaaGreatDoor

namespace Go.Proofs.YtakkdniikhgpdaaGreatDoor
open Go.RowKit

end Go.Proofs.YtakkdniikhgpdaaGreatDoor

namespace Go.Proofs.YtakkdniikhgpdaaGreatDoor
open Go.RowKit

theorem no10_snoc (t : List Int) (k : Nat) (hk : k < t.length) (h : (t.take k).contains 10 = false) (hp : ¬ t[k]?.getD 0 = 10) : (t.take (k + 1)).contains 10 = false := by
  rw [take_snoc t k hk, List.contains_append, h]
  simp only [List.contains_cons, List.contains_nil, Bool.or_false, Bool.false_or, beq_eq_false_iff_ne, ne_eq]
  exact fun e => hp e.symm

end Go.Proofs.YtakkdniikhgpdaaGreatDoor

namespace Go.Proofs.YtakkdniikhgpdaaGreatDoor
open Go.RowKit

/-- What is left of 'left' behind n; below nought: -1. -/
def szBP (n : Nat) (left : Int) : Int := if left - n < 0 then -1 else left - n

theorem szBP_bd (n : Nat) (left : Int) (h1 : left ≤ 1048576) : -1 ≤ szBP n left ∧ szBP n left ≤ 1048576 := by
  unfold szBP; split <;> omega

def szF : List Pc → Int → Int
  | [], l => l
  | p :: ps, l => if szBP p.t.length l < 0 then -1 else szF ps (szBP p.t.length l)
def szDoc (doc : List Pc) (left : Int) : Int := if left - doc.length < 0 then -1 else szF doc (left - doc.length)

theorem szF_go (doc : List Pc) (k : Nat) (hk : k < doc.length) (l : Int) (h : ¬ szBP doc[k].t.length l < 0) : szF (doc.drop k) l = szF (doc.drop (k + 1)) (szBP doc[k].t.length l) := by
  rw [List.drop_eq_getElem_cons hk]; simp only [szF]; rw [if_neg h]
theorem szF_bad (doc : List Pc) (k : Nat) (hk : k < doc.length) (l : Int) (h : szBP doc[k].t.length l < 0) : szF (doc.drop k) l = -1 := by
  rw [List.drop_eq_getElem_cons hk]; simp only [szF]; rw [if_pos h]

theorem szF_le : ∀ (doc : List Pc) (l : Int), 0 ≤ l → (∀ l', szF doc l = l' → l' < 0 → l' = -1) ∧ (0 ≤ szF doc l → sumT doc ≤ l)
  | [], l, h => by refine ⟨fun l' h1 h2 => ?_, fun h => ?_⟩ <;> simp only [szF, sumT] at * <;> omega
  | p :: ps, l, h => by
    simp only [szF, sumT]
    by_cases hb : szBP p.t.length l < 0
    · rw [if_pos hb]; exact ⟨fun l' h1 _ => h1.symm, fun h => by omega⟩
    · rw [if_neg hb]
      have := szF_le ps (szBP p.t.length l) (by omega)
      refine ⟨this.1, fun h2 => ?_⟩
      have h3 := this.2 h2
      unfold szBP at h3 hb
      split at h3 <;> omega

theorem szDoc_le (doc : List Pc) (h : 0 ≤ szDoc doc 1048576) : (doc.length : Int) + sumT doc ≤ 1048576 := by
  unfold szDoc at h
  split at h
  · omega
  · have := (szF_le doc (1048576 - doc.length) (by omega)).2 h
    omega

theorem sum_mem : ∀ (doc : List Pc) (p : Pc), p ∈ doc → (p.t.length : Int) ≤ sumT doc ∧ 0 ≤ sumT doc
  | [], _, h => by cases h
  | q :: ps, p, h => by
    have h0 : ∀ qs : List Pc, 0 ≤ sumT qs := by
      intro qs
      induction qs with
      | nil => simp [sumT]
      | cons q qs ih => simp only [sumT]; omega
    have := h0 ps
    simp only [sumT]
    rcases List.mem_cons.1 h with rfl | h
    · omega
    · have := sum_mem ps p h; omega

end Go.Proofs.YtakkdniikhgpdaaGreatDoor

namespace Go.Proofs.YtakkdniikhgpdaaGreatDoor
open Go.RowKit

/-- What the law knows of its argument. -/
structure Doc (doc : List Pc) : Prop where
  len : doc.length ≤ 1048576
  tlen : ∀ p ∈ doc, p.t.length ≤ 1048576
  sum : sumT doc ≤ 1048576
  bys : ∀ p ∈ doc, Bys p.t

theorem sumT_snocL : ∀ (doc : List Pc) (k : Nat) (hk : k < doc.length), sumT (doc.take (k + 1)) = sumT (doc.take k) + doc[k].t.length
  | p :: ps, 0, _ => by simp [sumT]
  | p :: ps, k + 1, hk => by
    have := sumT_snocL ps k (by simpa using hk)
    simp only [List.take_succ_cons, sumT, this, List.getElem_cons_succ]
    omega
theorem sumT_take : ∀ (doc : List Pc) (k : Nat), 0 ≤ sumT (doc.take k) ∧ sumT (doc.take k) ≤ sumT doc
  | [], k => by simp [sumT]
  | p :: ps, 0 => by
    have := (sumT_take ps 0)
    have h0 : ∀ qs : List Pc, 0 ≤ sumT qs := by
      intro qs
      induction qs with
      | nil => simp [sumT]
      | cons q qs ih => simp only [sumT]; omega
    have := h0 ps
    simp only [List.take_zero, sumT]
    omega
  | p :: ps, k + 1 => by
    have := (sumT_take ps k)
    simp only [List.take_succ_cons, sumT]
    omega
theorem allOK_snoc (doc : List Pc) (k : Nat) (hk : k < doc.length) (h : (doc.take k).all pcOK = true) (hp : pcOK doc[k] = true) : (doc.take (k + 1)).all pcOK = true := by
  rw [List.take_add_one, List.all_append, h]; simp [hk, hp]
theorem allOK_not (doc : List Pc) (k : Nat) (hk : k < doc.length) (hp : pcOK doc[k] = false) : doc.all pcOK = false := by
  rw [List.all_eq_false]; exact ⟨doc[k], List.getElem_mem hk, by simp [hp]⟩

end Go.Proofs.YtakkdniikhgpdaaGreatDoor

