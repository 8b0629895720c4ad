import Derived.Test.YtkkcnpokobndcaaDoorFsICr
namespace Go.Proofs.YtkkcnpokobndcaaDoor
open Go.RowKit

set_option maxHeartbeats 8000000 in
set_option maxRecDepth 100000 in
theorem afterCrash_any (v : Value) (fs : List Fl) (keep : Int) (ka a0 a1 a2 : Addr) (w : World) (hv : RdF w.heap.size w v fs) (hd : Fss fs) (hk2 : keep ≤ 9223372036854775807) (hka : w.cell? ka = some (.int .i64 keep)) (he : Errs w a0 a1 a2) :
    Calls Tryd.prog 40 #[.agg #[v], .func (.func 41) #[] #[.pointer (some ka)]] w fun e w' => ∃ v', e = .returned (.tuple #[.agg #[v'], .int .i64 (craC fs keep)]) ∧ OwF w.heap.size w' v' (craF fs keep) ∧ w.grownBy w' none := by
  obtain ⟨a, cap, hv0, _⟩ := id hv
  have HVa := hide (fun (w' : World) (g : w.grownBy w' none) => implValid_any v fs w' (hv.now g) hd)
  by_cases hval : validF fs = true
  · rw [hval] at HVa
    have HCp := hide (fun (w' : World) (g : w.grownBy w' none) => copyFiles_any v fs w' (hv.now g) hd)
    have HE := hide he
    have HKA := hide hka
    have HVl := hide hval
    have HD := hide hd
    subst hv0
    clear hv hval he hd hka
    go_enter Tryd.func40, Tryd.ntmps40
    go_wp2_with fail
    have CX0 := hide (FsCtx.start w (.slice a fs.length cap))
    refine (HVa.out _ CX0.out.g).mono ?_
    rintro e w1 ⟨rfl, g1⟩
    have CX := hide (CX0.out.later g1)
    have cp := CX.out.p
    clear g1 CX0
    go_wp2_with fail
    refine (HCp.out _ CX.out.g).mono ?_
    rintro e w2 ⟨wr, u, rfl, o2, g2, rfl⟩
    have gA := World.grownBy_alloc wr (Obj.cells #[u] 80) none
    have G2 : Hid (w1.grownBy (wr.alloc (Obj.cells #[u] 80)) none) := grown_trans g2 gA
    have O2 := hide (o2.later gA)
    have HU : Hid (∀ j, u.ownBlock = some j → j ≠ wr.heap.size) := fun j hj => by
      obtain ⟨xs, ho, _⟩ := o2
      have := World.ownsRow.lt ho j hj
      omega
    have hcu : (wr.alloc (Obj.cells #[u] 80)).cell? ⟨wr.heap.size, 0, none⟩ = some u := by simp [go_sem]
    have HS1 := hide CX.out.s
    clear o2 g2 gA
    by_cases hk0 : 0 ≤ keep
    · have HC : Hid (craC fs keep = 0) := by unfold Hid craC; rw [HVl.out, decide_eq_true hk0]; rfl
      have HL : Hid (craF fs keep = crashF keep fs) := by unfold Hid craF; rw [HVl.out, decide_eq_true hk0]; rfl
      have HCl := hide (closure_ok wr.heap.size u ka fs keep (wr.alloc (Obj.cells #[u] 80)) (w1.heap.size + 1) ((grown_trans CX.out.g G2.out).cell HKA.out (by simp)) hcu O2.out HU.out HD.out hk0 hk2 HVl.out)
      go_wp2_with fail
      refine HCl.out.mono ?_
      rintro e w3 ⟨rfl, c3, o3, g3⟩
      have g13 : w1.grownBy w3 none := g3 w1 G2.out (by omega)
      have CX3 := hide (CX.out.later g13)
      obtain ⟨ua, uc, hu0, _⟩ := o3.rd
      have O3 := hide o3
      have HCo := hide (codeOf_nil w3)
      subst hu0
      clear o3 g3 g13
      go_wp2_with fail
      refine HCo.out.mono ?_; rintro e w4 ⟨rfl, rfl⟩
      have rr := CX3.out.r
      have rf := CX3.out.f
      have HSt := hide (state_any wr.heap.size ua (crashF keep fs).length uc w3 c3)
      go_wp2_with fail
      refine HSt.out.mono ?_; rintro e w5 ⟨rfl, g5⟩
      have CX5 := hide (CX3.out.later g5)
      have O5 := hide (O3.out.later g5)
      have rr := CX5.out.r
      have rf := CX5.out.f
      clear g5
      go_wp2
      refine bodyPost_ret (v := .tuple #[.agg #[(.slice ua (crashF keep fs).length uc)], .int .i64 0]) (by simp [results, Tryd.results40, go_sem, rr]) rfl ?_
      exact ⟨_, by rw [HC.out], by rw [HL.out]; exact (CX5.out.ends O5.out (by have := HS1.out; omega) _).1, (CX5.out.ends O5.out (by have := HS1.out; omega) _).2⟩
    · have HC : Hid (craC fs keep = 1) := by unfold Hid craC; rw [decide_eq_false hk0]; simp
      have HL : Hid (craF fs keep = []) := by unfold Hid craF; rw [decide_eq_false hk0]; simp
      have HE3 := hide (HE.out.keep (grown_trans CX.out.g G2.out))
      have HCl := hide (closure_bad (.iface 56 (.pointer (some ⟨wr.heap.size, 0, none⟩))) ka a0 keep (wr.alloc (Obj.cells #[u] 80)) ((grown_trans CX.out.g G2.out).cell HKA.out (by simp)) HE3.out.g0 (by omega))
      have HCo := hide (codeOf_bad _ a0 a1 a2 HE3.out)
      have CX3 := hide (CX.out.later G2.out)
      go_wp2_with fail
      refine HCl.out.mono ?_
      rintro e w3 ⟨rfl, rfl⟩
      go_wp2_with fail
      refine HCo.out.mono ?_; rintro e w4 ⟨rfl, rfl⟩
      have rr := CX3.out.r
      have rf := CX3.out.f
      go_wp2
      refine bodyPost_ret (v := .tuple #[.agg #[(.slice none 0 0)], .int .i64 1]) (by simp [results, Tryd.results40, go_sem, rr]) rfl ?_
      exact ⟨_, by rw [HC.out], by rw [HL.out]; exact (CX3.out.ends (OwF.nil (w.heap.size + 2) _) (Nat.le_refl _) _).1, (CX3.out.ends (OwF.nil (w.heap.size + 2) _) (Nat.le_refl _) _).2⟩
  · rw [show validF fs = false by simpa using hval] at HVa
    have h1b : validF fs = false := by simpa using hval
    have HC : Hid (craC fs keep = 1) := by unfold Hid craC; rw [h1b]; simp
    have HL : Hid (craF fs keep = []) := by unfold Hid craF; rw [h1b]; simp
    subst hv0
    clear hv hval he hd hka
    go_enter Tryd.func40, Tryd.ntmps40
    go_wp2_with fail
    have CX0 := hide (FsCtx.start w (.slice a fs.length cap))
    refine (HVa.out _ CX0.out.g).mono ?_
    rintro e w1 ⟨rfl, g1⟩
    have CX := hide (CX0.out.later g1)
    have rr := CX.out.r
    have rf := CX.out.f
    clear g1 CX0
    go_wp2
    refine bodyPost_ret (v := .tuple #[.agg #[(.slice none 0 0)], .int .i64 1]) (by simp [results, Tryd.results40, go_sem, rr]) rfl ?_
    exact ⟨_, by rw [HC.out], by rw [HL.out]; exact (CX.out.ends (OwF.nil (w.heap.size + 2) _) (Nat.le_refl _) _).1, (CX.out.ends (OwF.nil (w.heap.size + 2) _) (Nat.le_refl _) _).2⟩

set_option maxHeartbeats 8000000 in
set_option maxRecDepth 100000 in
theorem implCrash_any (v : Value) (fs : List Fl) (keep : Int) (a0 a1 a2 : Addr) (w : World) (hv : RdF w.heap.size w v fs) (hd : Fss fs) (hk2 : keep ≤ 9223372036854775807) (he : Errs w a0 a1 a2) :
    Calls Tryd.prog 19 #[.agg #[v], .int .i64 keep] w fun e w' => ∃ v', e = .returned (.tuple #[.agg #[v'], .int .i64 (craC fs keep)]) ∧ OwF w.heap.size w' v' (craF fs keep) ∧ w.grownBy w' none := by
  obtain ⟨a, cap, hv0, _⟩ := id hv
  have g0 : w.grownBy (((w.alloc (Obj.cells #[v] 31)).alloc (Obj.cells #[.int .i64 keep] 3)).alloc (Obj.cells #[.slice none 0 0] 31)) none := grown_trans (grown_trans (World.grownBy_alloc _ _ _) (World.grownBy_alloc _ _ _)) (World.grownBy_alloc _ _ _)
  have HA := hide (afterCrash_any v fs keep ⟨w.heap.size + 1, 0, none⟩ a0 a1 a2 _ (hv.now g0) hd hk2 (by simp [go_sem]) (he.keep g0))
  have r0 : (((w.alloc (Obj.cells #[v] 31)).alloc (Obj.cells #[.int .i64 keep] 3)).alloc (Obj.cells #[.slice none 0 0] 31)).cell? ⟨w.heap.size + 1 + 1, 0, none⟩ = some (.slice none 0 0) := by simp [go_sem]
  have f0 : (((w.alloc (Obj.cells #[v] 31)).alloc (Obj.cells #[.int .i64 keep] 3)).alloc (Obj.cells #[.slice none 0 0] 31)).frozen? ⟨w.heap.size + 1 + 1, 0, none⟩ = false := by simp [go_sem]
  have hs0 : (((w.alloc (Obj.cells #[v] 31)).alloc (Obj.cells #[.int .i64 keep] 3)).alloc (Obj.cells #[.slice none 0 0] 31)).heap.size = w.heap.size + 3 := by simp
  have HG0 := hide g0
  have HR0 := hide r0
  have HF0 := hide f0
  have HS0 := hide hs0
  subst hv0
  clear hv hd he g0 r0 f0 hs0
  go_enter Tryd.func19, Tryd.ntmps19
  go_wp2_with fail
  refine HA.out.mono ?_
  rintro e w1 ⟨v1, rfl, o1, g1⟩
  obtain ⟨rr, rf⟩ := grown_bothF g1 HR0.out HF0.out
  obtain ⟨ua, uc, hu0, _⟩ := o1.rd
  rw [HS0.out] at o1
  have HO := hide (o1.setLow ⟨w.heap.size + 1 + 1, 0, none⟩ v1 (by simp))
  have HG : Hid (w.grownBy (w1.setCell ⟨w.heap.size + 1 + 1, 0, none⟩ v1) none) := grown_of_below ((below_of_grown (grown_trans HG0.out g1)).setCell (by simp; omega) _)
  subst hu0
  clear o1 g1
  go_wp2
  refine bodyPost_ret (v := .tuple #[.agg #[(.slice ua (craF fs keep).length uc)], .int .i64 (craC fs keep)]) (by simp [results, Tryd.results19, go_sem, rr]) rfl ?_
  exact ⟨_, rfl, HO.out.base (by omega), HG.out⟩

theorem implFsCrash (w : World) (a0 a1 a2 : Addr) (he : Errs w a0 a1 a2) : ImplFsCrash w := fun fs z1 hd hz _ u w' hbel hu => implCrash_any u fs z1 a0 a1 a2 w' hu hd hz (he.below hbel)

end Go.Proofs.YtkkcnpokobndcaaDoor
