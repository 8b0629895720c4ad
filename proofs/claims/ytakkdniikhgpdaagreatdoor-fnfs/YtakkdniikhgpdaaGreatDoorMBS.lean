import Derived.Test.YtakkdniikhgpdaaGreatDoorMBR
namespace Go.Proofs.YtakkdniikhgpdaaGreatDoor
open Go.RowKit
attribute [-go_sem] Builtin.append_

theorem FsCtx.loose {w W : World} {pv v : Value} {X : List Fl} {B : Nat} (h : FsCtx w W pv) (o : LoF B W v X) (hB : w.heap.size + 2 ≤ B) (u : Value) : LoF w.heap.size (W.setCell ⟨w.heap.size + 1, 0, none⟩ u) v X ∧ w.grownBy (W.setCell ⟨w.heap.size + 1, 0, none⟩ u) none :=
  ⟨(o.setLow _ _ (by simp; omega)).base (by omega), grown_of_below ((below_of_grown h.g).setCell (by simp) _)⟩
theorem LoF.sl {B : Nat} {w : World} {v : Value} {fs : List Fl} (h : LoF B w v fs) : ∃ a c, v = .slice a fs.length c := by
  obtain ⟨a, c, e, _⟩ := h.rd
  exact ⟨a, c, e⟩

set_option maxHeartbeats 8000000 in
set_option maxRecDepth 100000 in
theorem afterFsWrite_ok (v c0 c1 : Value) (fs : List Fl) (P : List Fl → Prop) (a0 a1 a2 : Addr) (w : World) (hv : RdF w.heap.size w v fs) (hd : Fss fs) (hval : validF fs = true) (he : Errs w a0 a1 a2)
    (HCL : ∀ (B h : Nat) (u : Value) (W : World), w.grownBy W none → w.heap.size ≤ B → HL B h W u fs → Calls Tryz.prog 27 #[.iface 59 (.pointer (some ⟨h, 0, none⟩)), c0, c1] W fun e W' => e = .returned (.nilIface) ∧ ∃ fs', P fs' ∧ Lft B h W fs' W') :
    Calls Tryz.prog 26 #[.agg #[v], .func (.func 27) #[] #[c0, c1]] w fun e w' => ∃ v' fs', e = .returned (.tuple #[.agg #[v'], .int .i64 0]) ∧ P fs' ∧ LoF w.heap.size w' v' fs' ∧ w.grownBy w' none := by
  obtain ⟨a, cap, hv0, _⟩ := id hv
  have HVa := hide (fun (w' : World) (g : w.grownBy w' none) => implValid_any v fs w' (hv.now g) hd)
  rw [hval] at HVa
  have HCp := hide (fun (w' : World) (g : w.grownBy w' none) => copyFiles_any v fs w' (hv.now g) hd)
  have HC := hide HCL
  have HE := hide he
  subst hv0
  clear hv hval hd HCL he
  go_enter Tryz.func26, Tryz.ntmps26
  go_wp2_with fail
  have CX0 := hide (FsCtx.start w (.slice a fs.length cap))
  refine (HVa.out _ CX0.out.g).mono ?_
  rintro e w1 ⟨rfl, g1⟩
  have CX := hide (CX0.out.later g1)
  have cp := CX.out.p
  clear g1 CX0
  go_wp2_with fail
  refine (HCp.out _ CX.out.g).mono ?_
  rintro e w2 ⟨wr, u, rfl, o2, g2, rfl⟩
  have gA := World.grownBy_alloc wr (Obj.cells #[u] 81) none
  have G2 : Hid (w1.grownBy (wr.alloc (Obj.cells #[u] 81)) none) := grown_trans g2 gA
  have hs1 := CX.out.s
  have hB := g2.size
  have HH : HL w1.heap.size wr.heap.size (wr.alloc (Obj.cells #[u] 81)) u fs := ⟨heap_alloc_new wr _, (o2.later gA).lo.base (by omega), hB⟩
  have HCl := hide (HC.out w1.heap.size wr.heap.size u _ (grown_trans CX.out.g G2.out) (by omega) HH)
  clear o2 g2 gA HH
  go_wp2_with fail
  refine HCl.out.mono ?_
  rintro e w3 ⟨rfl, fs', hP, ⟨u', H3⟩, b3⟩
  have HP := hide hP
  clear hP
  have g13 : w1.grownBy w3 none := grown_of_below ((below_of_grown G2.out).trans (b3.mono (by omega)))
  have CX3 := hide (CX.out.later g13)
  have c3 := H3.cell
  obtain ⟨ua, uc, hu0⟩ := H3.lo.sl
  have O3 := hide H3.lo
  have HCo := hide (codeOf_nil w3)
  subst hu0
  clear H3 b3 g13
  go_wp2_with fail
  refine HCo.out.mono ?_; rintro e w4 ⟨rfl, rfl⟩
  have rr := CX3.out.r
  have rf := CX3.out.f
  have HSt := hide (state_any wr.heap.size ua fs'.length uc w3 c3)
  go_wp2_with fail
  refine HSt.out.mono ?_; rintro e w5 ⟨rfl, g5⟩
  have CX5 := hide (CX3.out.later g5)
  have O5 := hide (O3.out.later g5)
  have rr := CX5.out.r
  have rf := CX5.out.f
  clear g5
  go_wp2
  refine bodyPost_ret (v := .tuple #[.agg #[(.slice ua fs'.length uc)], .int .i64 0]) (by simp [results, Tryz.results26, go_sem, rr]) rfl ?_
  exact ⟨_, fs', rfl, HP.out, CX5.out.loose O5.out (by omega) _⟩

set_option maxHeartbeats 8000000 in
set_option maxRecDepth 100000 in
theorem afterFsSync_ok (v c0 : Value) (fs : List Fl) (P : List Fl → Prop) (a0 a1 a2 : Addr) (w : World) (hv : RdF w.heap.size w v fs) (hd : Fss fs) (hval : validF fs = true) (he : Errs w a0 a1 a2)
    (HCL : ∀ (B h : Nat) (u : Value) (W : World), w.grownBy W none → w.heap.size ≤ B → HL B h W u fs → Calls Tryz.prog 33 #[.iface 59 (.pointer (some ⟨h, 0, none⟩)), c0] W fun e W' => e = .returned (.nilIface) ∧ ∃ fs', P fs' ∧ Lft B h W fs' W') :
    Calls Tryz.prog 26 #[.agg #[v], .func (.func 33) #[] #[c0]] w fun e w' => ∃ v' fs', e = .returned (.tuple #[.agg #[v'], .int .i64 0]) ∧ P fs' ∧ LoF w.heap.size w' v' fs' ∧ w.grownBy w' none := by
  obtain ⟨a, cap, hv0, _⟩ := id hv
  have HVa := hide (fun (w' : World) (g : w.grownBy w' none) => implValid_any v fs w' (hv.now g) hd)
  rw [hval] at HVa
  have HCp := hide (fun (w' : World) (g : w.grownBy w' none) => copyFiles_any v fs w' (hv.now g) hd)
  have HC := hide HCL
  have HE := hide he
  subst hv0
  clear hv hval hd HCL he
  go_enter Tryz.func26, Tryz.ntmps26
  go_wp2_with fail
  have CX0 := hide (FsCtx.start w (.slice a fs.length cap))
  refine (HVa.out _ CX0.out.g).mono ?_
  rintro e w1 ⟨rfl, g1⟩
  have CX := hide (CX0.out.later g1)
  have cp := CX.out.p
  clear g1 CX0
  go_wp2_with fail
  refine (HCp.out _ CX.out.g).mono ?_
  rintro e w2 ⟨wr, u, rfl, o2, g2, rfl⟩
  have gA := World.grownBy_alloc wr (Obj.cells #[u] 81) none
  have G2 : Hid (w1.grownBy (wr.alloc (Obj.cells #[u] 81)) none) := grown_trans g2 gA
  have hs1 := CX.out.s
  have hB := g2.size
  have HH : HL w1.heap.size wr.heap.size (wr.alloc (Obj.cells #[u] 81)) u fs := ⟨heap_alloc_new wr _, (o2.later gA).lo.base (by omega), hB⟩
  have HCl := hide (HC.out w1.heap.size wr.heap.size u _ (grown_trans CX.out.g G2.out) (by omega) HH)
  clear o2 g2 gA HH
  go_wp2_with fail
  refine HCl.out.mono ?_
  rintro e w3 ⟨rfl, fs', hP, ⟨u', H3⟩, b3⟩
  have HP := hide hP
  clear hP
  have g13 : w1.grownBy w3 none := grown_of_below ((below_of_grown G2.out).trans (b3.mono (by omega)))
  have CX3 := hide (CX.out.later g13)
  have c3 := H3.cell
  obtain ⟨ua, uc, hu0⟩ := H3.lo.sl
  have O3 := hide H3.lo
  have HCo := hide (codeOf_nil w3)
  subst hu0
  clear H3 b3 g13
  go_wp2_with fail
  refine HCo.out.mono ?_; rintro e w4 ⟨rfl, rfl⟩
  have rr := CX3.out.r
  have rf := CX3.out.f
  have HSt := hide (state_any wr.heap.size ua fs'.length uc w3 c3)
  go_wp2_with fail
  refine HSt.out.mono ?_; rintro e w5 ⟨rfl, g5⟩
  have CX5 := hide (CX3.out.later g5)
  have O5 := hide (O3.out.later g5)
  have rr := CX5.out.r
  have rf := CX5.out.f
  clear g5
  go_wp2
  refine bodyPost_ret (v := .tuple #[.agg #[(.slice ua fs'.length uc)], .int .i64 0]) (by simp [results, Tryz.results26, go_sem, rr]) rfl ?_
  exact ⟨_, fs', rfl, HP.out, CX5.out.loose O5.out (by omega) _⟩

set_option maxHeartbeats 8000000 in
set_option maxRecDepth 100000 in
theorem afterFsRename_ok (v c0 c1 : Value) (fs : List Fl) (P : List Fl → Prop) (a0 a1 a2 : Addr) (w : World) (hv : RdF w.heap.size w v fs) (hd : Fss fs) (hval : validF fs = true) (he : Errs w a0 a1 a2)
    (HCL : ∀ (B h : Nat) (u : Value) (W : World), w.grownBy W none → w.heap.size ≤ B → HL B h W u fs → Calls Tryz.prog 34 #[.iface 59 (.pointer (some ⟨h, 0, none⟩)), c0, c1] W fun e W' => e = .returned (.nilIface) ∧ ∃ fs', P fs' ∧ Lft B h W fs' W') :
    Calls Tryz.prog 26 #[.agg #[v], .func (.func 34) #[] #[c0, c1]] w fun e w' => ∃ v' fs', e = .returned (.tuple #[.agg #[v'], .int .i64 0]) ∧ P fs' ∧ LoF w.heap.size w' v' fs' ∧ w.grownBy w' none := by
  obtain ⟨a, cap, hv0, _⟩ := id hv
  have HVa := hide (fun (w' : World) (g : w.grownBy w' none) => implValid_any v fs w' (hv.now g) hd)
  rw [hval] at HVa
  have HCp := hide (fun (w' : World) (g : w.grownBy w' none) => copyFiles_any v fs w' (hv.now g) hd)
  have HC := hide HCL
  have HE := hide he
  subst hv0
  clear hv hval hd HCL he
  go_enter Tryz.func26, Tryz.ntmps26
  go_wp2_with fail
  have CX0 := hide (FsCtx.start w (.slice a fs.length cap))
  refine (HVa.out _ CX0.out.g).mono ?_
  rintro e w1 ⟨rfl, g1⟩
  have CX := hide (CX0.out.later g1)
  have cp := CX.out.p
  clear g1 CX0
  go_wp2_with fail
  refine (HCp.out _ CX.out.g).mono ?_
  rintro e w2 ⟨wr, u, rfl, o2, g2, rfl⟩
  have gA := World.grownBy_alloc wr (Obj.cells #[u] 81) none
  have G2 : Hid (w1.grownBy (wr.alloc (Obj.cells #[u] 81)) none) := grown_trans g2 gA
  have hs1 := CX.out.s
  have hB := g2.size
  have HH : HL w1.heap.size wr.heap.size (wr.alloc (Obj.cells #[u] 81)) u fs := ⟨heap_alloc_new wr _, (o2.later gA).lo.base (by omega), hB⟩
  have HCl := hide (HC.out w1.heap.size wr.heap.size u _ (grown_trans CX.out.g G2.out) (by omega) HH)
  clear o2 g2 gA HH
  go_wp2_with fail
  refine HCl.out.mono ?_
  rintro e w3 ⟨rfl, fs', hP, ⟨u', H3⟩, b3⟩
  have HP := hide hP
  clear hP
  have g13 : w1.grownBy w3 none := grown_of_below ((below_of_grown G2.out).trans (b3.mono (by omega)))
  have CX3 := hide (CX.out.later g13)
  have c3 := H3.cell
  obtain ⟨ua, uc, hu0⟩ := H3.lo.sl
  have O3 := hide H3.lo
  have HCo := hide (codeOf_nil w3)
  subst hu0
  clear H3 b3 g13
  go_wp2_with fail
  refine HCo.out.mono ?_; rintro e w4 ⟨rfl, rfl⟩
  have rr := CX3.out.r
  have rf := CX3.out.f
  have HSt := hide (state_any wr.heap.size ua fs'.length uc w3 c3)
  go_wp2_with fail
  refine HSt.out.mono ?_; rintro e w5 ⟨rfl, g5⟩
  have CX5 := hide (CX3.out.later g5)
  have O5 := hide (O3.out.later g5)
  have rr := CX5.out.r
  have rf := CX5.out.f
  clear g5
  go_wp2
  refine bodyPost_ret (v := .tuple #[.agg #[(.slice ua fs'.length uc)], .int .i64 0]) (by simp [results, Tryz.results26, go_sem, rr]) rfl ?_
  exact ⟨_, fs', rfl, HP.out, CX5.out.loose O5.out (by omega) _⟩

set_option maxHeartbeats 8000000 in
set_option maxRecDepth 100000 in
theorem afterFsRemove_ok (v c0 : Value) (fs : List Fl) (P : List Fl → Prop) (a0 a1 a2 : Addr) (w : World) (hv : RdF w.heap.size w v fs) (hd : Fss fs) (hval : validF fs = true) (he : Errs w a0 a1 a2)
    (HCL : ∀ (B h : Nat) (u : Value) (W : World), w.grownBy W none → w.heap.size ≤ B → HL B h W u fs → Calls Tryz.prog 35 #[.iface 59 (.pointer (some ⟨h, 0, none⟩)), c0] W fun e W' => e = .returned (.nilIface) ∧ ∃ fs', P fs' ∧ Lft B h W fs' W') :
    Calls Tryz.prog 26 #[.agg #[v], .func (.func 35) #[] #[c0]] w fun e w' => ∃ v' fs', e = .returned (.tuple #[.agg #[v'], .int .i64 0]) ∧ P fs' ∧ LoF w.heap.size w' v' fs' ∧ w.grownBy w' none := by
  obtain ⟨a, cap, hv0, _⟩ := id hv
  have HVa := hide (fun (w' : World) (g : w.grownBy w' none) => implValid_any v fs w' (hv.now g) hd)
  rw [hval] at HVa
  have HCp := hide (fun (w' : World) (g : w.grownBy w' none) => copyFiles_any v fs w' (hv.now g) hd)
  have HC := hide HCL
  have HE := hide he
  subst hv0
  clear hv hval hd HCL he
  go_enter Tryz.func26, Tryz.ntmps26
  go_wp2_with fail
  have CX0 := hide (FsCtx.start w (.slice a fs.length cap))
  refine (HVa.out _ CX0.out.g).mono ?_
  rintro e w1 ⟨rfl, g1⟩
  have CX := hide (CX0.out.later g1)
  have cp := CX.out.p
  clear g1 CX0
  go_wp2_with fail
  refine (HCp.out _ CX.out.g).mono ?_
  rintro e w2 ⟨wr, u, rfl, o2, g2, rfl⟩
  have gA := World.grownBy_alloc wr (Obj.cells #[u] 81) none
  have G2 : Hid (w1.grownBy (wr.alloc (Obj.cells #[u] 81)) none) := grown_trans g2 gA
  have hs1 := CX.out.s
  have hB := g2.size
  have HH : HL w1.heap.size wr.heap.size (wr.alloc (Obj.cells #[u] 81)) u fs := ⟨heap_alloc_new wr _, (o2.later gA).lo.base (by omega), hB⟩
  have HCl := hide (HC.out w1.heap.size wr.heap.size u _ (grown_trans CX.out.g G2.out) (by omega) HH)
  clear o2 g2 gA HH
  go_wp2_with fail
  refine HCl.out.mono ?_
  rintro e w3 ⟨rfl, fs', hP, ⟨u', H3⟩, b3⟩
  have HP := hide hP
  clear hP
  have g13 : w1.grownBy w3 none := grown_of_below ((below_of_grown G2.out).trans (b3.mono (by omega)))
  have CX3 := hide (CX.out.later g13)
  have c3 := H3.cell
  obtain ⟨ua, uc, hu0⟩ := H3.lo.sl
  have O3 := hide H3.lo
  have HCo := hide (codeOf_nil w3)
  subst hu0
  clear H3 b3 g13
  go_wp2_with fail
  refine HCo.out.mono ?_; rintro e w4 ⟨rfl, rfl⟩
  have rr := CX3.out.r
  have rf := CX3.out.f
  have HSt := hide (state_any wr.heap.size ua fs'.length uc w3 c3)
  go_wp2_with fail
  refine HSt.out.mono ?_; rintro e w5 ⟨rfl, g5⟩
  have CX5 := hide (CX3.out.later g5)
  have O5 := hide (O3.out.later g5)
  have rr := CX5.out.r
  have rf := CX5.out.f
  clear g5
  go_wp2
  refine bodyPost_ret (v := .tuple #[.agg #[(.slice ua fs'.length uc)], .int .i64 0]) (by simp [results, Tryz.results26, go_sem, rr]) rfl ?_
  exact ⟨_, fs', rfl, HP.out, CX5.out.loose O5.out (by omega) _⟩

set_option maxHeartbeats 8000000 in
set_option maxRecDepth 100000 in
theorem afterFsRemove_none (v c0 : Value) (fs : List Fl) (P : List Fl → Prop) (a0 a1 a2 : Addr) (w : World) (hv : RdF w.heap.size w v fs) (hd : Fss fs) (hval : validF fs = true) (he : Errs w a0 a1 a2)
    (HCL : ∀ (B h : Nat) (u : Value) (W : World), w.grownBy W none → w.heap.size ≤ B → HL B h W u fs → Calls Tryz.prog 35 #[.iface 59 (.pointer (some ⟨h, 0, none⟩)), c0] W fun e W' => e = .returned (Er a1) ∧ ∃ fs', P fs' ∧ Lft B h W fs' W') :
    Calls Tryz.prog 26 #[.agg #[v], .func (.func 35) #[] #[c0]] w fun e w' => ∃ v' fs', e = .returned (.tuple #[.agg #[v'], .int .i64 5]) ∧ P fs' ∧ LoF w.heap.size w' v' fs' ∧ w.grownBy w' none := by
  obtain ⟨a, cap, hv0, _⟩ := id hv
  have HVa := hide (fun (w' : World) (g : w.grownBy w' none) => implValid_any v fs w' (hv.now g) hd)
  rw [hval] at HVa
  have HCp := hide (fun (w' : World) (g : w.grownBy w' none) => copyFiles_any v fs w' (hv.now g) hd)
  have HC := hide HCL
  have HE := hide he
  subst hv0
  clear hv hval hd HCL he
  go_enter Tryz.func26, Tryz.ntmps26
  go_wp2_with fail
  have CX0 := hide (FsCtx.start w (.slice a fs.length cap))
  refine (HVa.out _ CX0.out.g).mono ?_
  rintro e w1 ⟨rfl, g1⟩
  have CX := hide (CX0.out.later g1)
  have cp := CX.out.p
  clear g1 CX0
  go_wp2_with fail
  refine (HCp.out _ CX.out.g).mono ?_
  rintro e w2 ⟨wr, u, rfl, o2, g2, rfl⟩
  have gA := World.grownBy_alloc wr (Obj.cells #[u] 81) none
  have G2 : Hid (w1.grownBy (wr.alloc (Obj.cells #[u] 81)) none) := grown_trans g2 gA
  have hs1 := CX.out.s
  have hB := g2.size
  have HH : HL w1.heap.size wr.heap.size (wr.alloc (Obj.cells #[u] 81)) u fs := ⟨heap_alloc_new wr _, (o2.later gA).lo.base (by omega), hB⟩
  have HCl := hide (HC.out w1.heap.size wr.heap.size u _ (grown_trans CX.out.g G2.out) (by omega) HH)
  clear o2 g2 gA HH
  go_wp2_with fail
  refine HCl.out.mono ?_
  rintro e w3 ⟨rfl, fs', hP, ⟨u', H3⟩, b3⟩
  have HP := hide hP
  clear hP
  have g13 : w1.grownBy w3 none := grown_of_below ((below_of_grown G2.out).trans (b3.mono (by omega)))
  have CX3 := hide (CX.out.later g13)
  have c3 := H3.cell
  obtain ⟨ua, uc, hu0⟩ := H3.lo.sl
  have O3 := hide H3.lo
  have HCo := hide (codeOf_none w3 a0 a1 a2 (HE.out.keep (grown_trans CX.out.g g13)))
  subst hu0
  clear H3 b3 g13
  go_wp2_with fail
  refine HCo.out.mono ?_; rintro e w4 ⟨rfl, rfl⟩
  have rr := CX3.out.r
  have rf := CX3.out.f
  have HSt := hide (state_any wr.heap.size ua fs'.length uc w3 c3)
  go_wp2_with fail
  refine HSt.out.mono ?_; rintro e w5 ⟨rfl, g5⟩
  have CX5 := hide (CX3.out.later g5)
  have O5 := hide (O3.out.later g5)
  have rr := CX5.out.r
  have rf := CX5.out.f
  clear g5
  go_wp2
  refine bodyPost_ret (v := .tuple #[.agg #[(.slice ua fs'.length uc)], .int .i64 5]) (by simp [results, Tryz.results26, go_sem, rr]) rfl ?_
  exact ⟨_, fs', rfl, HP.out, CX5.out.loose O5.out (by omega) _⟩
end Go.Proofs.YtakkdniikhgpdaaGreatDoor

