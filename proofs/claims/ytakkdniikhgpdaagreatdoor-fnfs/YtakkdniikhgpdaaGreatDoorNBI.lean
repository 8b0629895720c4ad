import Derived.Test.YtakkdniikhgpdaaGreatDoorMAA
import Derived.Test.YtakkdniikhgpdaaGreatDoorNAW
import Derived.Test.YtakkdniikhgpdaaGreatDoorNBB
import Derived.Test.YtakkdniikhgpdaaGreatDoorNBC
import Derived.Test.YtakkdniikhgpdaaGreatDoorNBG
import Derived.Test.YtakkdniikhgpdaaGreatDoorNBH
namespace Go.Proofs.YtakkdniikhgpdaaGreatDoor
open Go.RowKit
attribute [-go_sem] Builtin.append_

theorem remove_yes (B h : Nat) (v nv : Value) (fs : List Fl) (n : List Int) (a0 a1 a2 : Addr) (w : World) (H : HL B h w v fs) (hd : Fss fs) (hval : validF fs = true) (hn : RdB w.heap.size w nv n) (hs : Sl nv n.length) (hb : Byt n) (hok : nameOK n = true) (hno : findF fs n ≠ none) (he : Errs w a0 a1 a2) :
    Calls Tryz.prog 121 #[.pointer (some ⟨h, 0, none⟩), nv] w fun e w' => e = .returned .nilIface ∧ ∃ (i : Nat) (hi : i < fs.length), fs[i].n = n ∧ Lft B h w (fs.take i ++ fs.drop (i + 1)) w' := by
  refine (remove_any B h v nv fs n a0 a1 a2 w H hd hval hn hs hb hok he).mono ?_
  rintro e w' (⟨hf, _⟩ | ⟨i, hi, _, hp, rfl, hL⟩)
  · exact absurd hf hno
  · exact ⟨rfl, i, hi, hp, hL⟩
theorem remove_no (B h : Nat) (v nv : Value) (fs : List Fl) (n : List Int) (a0 a1 a2 : Addr) (w : World) (H : HL B h w v fs) (hd : Fss fs) (hval : validF fs = true) (hn : RdB w.heap.size w nv n) (hs : Sl nv n.length) (hb : Byt n) (hok : nameOK n = true) (hno : findF fs n = none) (he : Errs w a0 a1 a2) :
    Calls Tryz.prog 121 #[.pointer (some ⟨h, 0, none⟩), nv] w fun e w' => e = .returned (Er a1) ∧ Lft B h w fs w' := by
  refine (remove_any B h v nv fs n a0 a1 a2 w H hd hval hn hs hb hok he).mono ?_
  rintro e w' (⟨_, rfl, hL⟩ | ⟨i, hi, _, hp, rfl, hL⟩)
  · exact ⟨rfl, hL⟩
  · exact absurd hp (find_noneF hno _ (List.getElem_mem hi))

set_option maxHeartbeats 4000000 in
set_option maxRecDepth 100000 in
theorem clWrite (B h : Nat) (u nv dv : Value) (ka kd : Addr) (fs : List Fl) (n d : List Int) (a0 a1 a2 : Addr) (W : World) (hk0 : W.cell? ka = some nv) (hk1 : W.cell? kd = some dv) (H : HL B h W u fs) (hd : Fss fs) (hval : validF fs = true) (hn : RdB W.heap.size W nv n) (hs : Sl nv n.length) (hb : Byt n) (hok : nameOK n = true) (hdd : RdB W.heap.size W dv d) (hsd : Sl dv d.length) (hno : findF fs n = none) (hl : fs.length < 50) (hdl : d.length ≤ 4194304) (he : ∀ W', Below B W W' → Errs W' a0 a1 a2) :
    Calls Tryz.prog 27 #[.iface 59 (.pointer (some ⟨h, 0, none⟩)), .pointer (some ka), .pointer (some kd)] W fun e W' => e = .returned (.nilIface) ∧ ∃ fs', (∃ i, Pos fs n i ∧ fs' = fs.take i ++ (⟨n, d, 0⟩ : Fl) :: fs.drop i) ∧ Lft B h W fs' W' := by
  have HW := hide (write_new B h u nv dv fs n d a0 a1 a2 W H hd hval hn hs hdd hsd hb hok hno hl hdl (he W (Below.refl _ _)))
  obtain ⟨na, nc, hnv0, _, _⟩ := id hs
  obtain ⟨da, dc, hdv0, _, _⟩ := id hsd
  subst hnv0 hdv0
  clear H hd hval hn hs he hdd hsd
  go_enter Tryz.func27, Tryz.ntmps27
  go_wp2_with fail
  refine HW.out.mono ?_
  rintro e w1 ⟨rfl, i, hp, hL⟩
  have HP := hide hp
  have HL := hide hL
  clear hL
  go_wp2
  go_ret
  exact ⟨rfl, _, ⟨i, HP.out, rfl⟩, HL.out⟩

set_option maxHeartbeats 8000000 in
set_option maxRecDepth 100000 in
theorem implWrite (v nv dv : Value) (fs : List Fl) (n d : List Int) (a0 a1 a2 : Addr) (w : World) (hv : RdF w.heap.size w v fs) (hd : Fss fs) (hval : validF fs = true) (hn : RdB w.heap.size w nv n) (hs : Sl nv n.length) (hb : Byt n) (hok : nameOK n = true) (hdd : RdB w.heap.size w dv d) (hsd : Sl dv d.length) (hno : findF fs n = none) (hl : fs.length < 50) (hdl : d.length ≤ 4194304) (he : Errs w a0 a1 a2) :
    Calls Tryz.prog 9 #[.agg #[v], nv, dv] w fun e w' => ∃ v' fs', e = .returned (.tuple #[.agg #[v'], .int .i64 0]) ∧ (∃ i, Pos fs n i ∧ fs' = fs.take i ++ (⟨n, d, 0⟩ : Fl) :: fs.drop i) ∧ RdF w'.heap.size w' v' fs' ∧ w.grownBy w' none := by
  obtain ⟨a, cap, hv0, _⟩ := id hv
  obtain ⟨na, nc, hnv0, _, _⟩ := id hs
  obtain ⟨da, dc, hdv0, _, _⟩ := id hsd
  subst hv0 hnv0 hdv0
  obtain ⟨w0, hw0⟩ : ∃ w0, w0 = (((w.alloc (Obj.cells #[.slice a fs.length cap] 25)).alloc (Obj.cells #[.slice na n.length nc] 22)).alloc (Obj.cells #[.slice da d.length dc] 22)).alloc (Obj.cells #[.slice none 0 0] 25) := ⟨_, rfl⟩
  have g0 : w.grownBy w0 none := by rw [hw0]; exact grown_trans (grown_trans (grown_trans (World.grownBy_alloc _ _ _) (World.grownBy_alloc _ _ _)) (World.grownBy_alloc _ _ _)) (World.grownBy_alloc _ _ _)
  have hk0 : w0.cell? ⟨w.heap.size + 1, 0, none⟩ = some (.slice na n.length nc) := by rw [hw0]; simp [go_sem]
  have hk1 : w0.cell? ⟨w.heap.size + 1 + 1, 0, none⟩ = some (.slice da d.length dc) := by rw [hw0]; simp [go_sem]
  have r0 : w0.cell? ⟨w.heap.size + 1 + 1 + 1, 0, none⟩ = some (.slice none 0 0) := by rw [hw0]; simp [go_sem]
  have f0 : w0.frozen? ⟨w.heap.size + 1 + 1 + 1, 0, none⟩ = false := by rw [hw0]; simp [go_sem]
  have s0 : w0.heap.size = w.heap.size + 4 := by rw [hw0]; simp
  have HN : Hid (∀ W : World, w.grownBy W none → RdB W.heap.size W (.slice na n.length nc) n) := fun W g => (hn.keep g).wideF g.size
  have HD : Hid (∀ W : World, w.grownBy W none → RdB W.heap.size W (.slice da d.length dc) d) := fun W g => (hdd.keep g).wideF g.size
  have HA := hide (afterFsWrite_ok (.slice a fs.length cap) (.pointer (some ⟨w.heap.size + 1, 0, none⟩)) (.pointer (some ⟨w.heap.size + 1 + 1, 0, none⟩)) fs (fun fs' => (∃ i, Pos fs n i ∧ fs' = fs.take i ++ (⟨n, d, 0⟩ : Fl) :: fs.drop i)) a0 a1 a2 w0 (hv.now g0) hd hval (he.keep g0) (fun B h u W gW hB H => clWrite B h u (.slice na n.length nc) (.slice da d.length dc) ⟨w.heap.size + 1, 0, none⟩ ⟨w.heap.size + 1 + 1, 0, none⟩ fs n d a0 a1 a2 W (gW.cell hk0 (by simp)) (gW.cell hk1 (by simp)) H hd hval (HN.out W (grown_trans g0 gW)) hs hb hok (HD.out W (grown_trans g0 gW)) hsd hno hl hdl (fun W' hb => he.below ((below_of_grown (grown_trans g0 gW)).trans (hb.mono (by have := g0.size; omega))))))
  have HG0 := hide g0
  have HW0 := hide hw0
  rw [hw0] at HA
  clear hv hd hval he hn hs hdd hsd hk0 hk1 hw0
  go_enter Tryz.func9, Tryz.ntmps9
  go_wp2_with fail
  refine HA.out.mono ?_
  rintro e w1 ⟨v1, fs', rfl, hP, o1, g1⟩
  have HP := hide hP
  rw [← HW0.out] at o1 g1
  obtain ⟨rr, rf⟩ := grown_bothF g1 r0 f0
  obtain ⟨ua, uc, hu0⟩ := o1.sl
  have HO := hide (o1.setLow ⟨w.heap.size + 1 + 1 + 1, 0, none⟩ v1 (by rw [s0]; show w.heap.size + 1 + 1 + 1 < _; omega))
  have HG : Hid (w.grownBy (w1.setCell ⟨w.heap.size + 1 + 1 + 1, 0, none⟩ v1) none) := grown_of_below ((below_of_grown (grown_trans HG0.out g1)).setCell (by show w.heap.size ≤ w.heap.size + 1 + 1 + 1; omega) _)
  subst hu0
  clear o1 g1 hP r0 f0
  go_wp2
  refine bodyPost_ret (v := .tuple #[.agg #[(.slice ua fs'.length uc)], .int .i64 0]) (by simp [results, Tryz.results9, go_sem, rr]) rfl ?_
  exact ⟨_, fs', rfl, HP.out, HO.out.rd, HG.out⟩

set_option maxHeartbeats 4000000 in
set_option maxRecDepth 100000 in
theorem clSync (B h : Nat) (u nv : Value) (ka : Addr) (fs : List Fl) (n : List Int) (a0 a1 a2 : Addr) (W : World) (hk0 : W.cell? ka = some nv) (H : HL B h W u fs) (hd : Fss fs) (hval : validF fs = true) (hn : RdB W.heap.size W nv n) (hs : Sl nv n.length) (hb : Byt n) (hok : nameOK n = true) (hno : findF fs n ≠ none) (he : ∀ W', Below B W W' → Errs W' a0 a1 a2) :
    Calls Tryz.prog 33 #[.iface 59 (.pointer (some ⟨h, 0, none⟩)), .pointer (some ka)] W fun e W' => e = .returned (.nilIface) ∧ ∃ fs', (∃ (i : Nat) (hi : i < fs.length), fs[i].n = n ∧ fs' = fs.set i { fs[i] with s := (fs[i].d.length : Int) }) ∧ Lft B h W fs' W' := by
  have HW := hide (sync_yes B h u nv fs n a0 a1 a2 W H hd hval hn hs hb hok hno (he W (Below.refl _ _)))
  obtain ⟨na, nc, hnv0, _, _⟩ := id hs
  subst hnv0
  clear H hd hval hn hs he
  go_enter Tryz.func33, Tryz.ntmps33
  go_wp2_with fail
  refine HW.out.mono ?_
  rintro e w1 ⟨rfl, i, hi, _, hp, hL⟩
  have HP := hide hp
  have HL := hide hL
  clear hL
  go_wp2
  go_ret
  exact ⟨rfl, _, ⟨i, hi, HP.out, rfl⟩, HL.out⟩

set_option maxHeartbeats 8000000 in
set_option maxRecDepth 100000 in
theorem implSync (v nv : Value) (fs : List Fl) (n : List Int) (a0 a1 a2 : Addr) (w : World) (hv : RdF w.heap.size w v fs) (hd : Fss fs) (hval : validF fs = true) (hn : RdB w.heap.size w nv n) (hs : Sl nv n.length) (hb : Byt n) (hok : nameOK n = true) (hno : findF fs n ≠ none) (he : Errs w a0 a1 a2) :
    Calls Tryz.prog 13 #[.agg #[v], nv] w fun e w' => ∃ v' fs', e = .returned (.tuple #[.agg #[v'], .int .i64 0]) ∧ (∃ (i : Nat) (hi : i < fs.length), fs[i].n = n ∧ fs' = fs.set i { fs[i] with s := (fs[i].d.length : Int) }) ∧ RdF w'.heap.size w' v' fs' ∧ w.grownBy w' none := by
  obtain ⟨a, cap, hv0, _⟩ := id hv
  obtain ⟨na, nc, hnv0, _, _⟩ := id hs
  subst hv0 hnv0
  obtain ⟨w0, hw0⟩ : ∃ w0, w0 = ((w.alloc (Obj.cells #[.slice a fs.length cap] 25)).alloc (Obj.cells #[.slice na n.length nc] 22)).alloc (Obj.cells #[.slice none 0 0] 25) := ⟨_, rfl⟩
  have g0 : w.grownBy w0 none := by rw [hw0]; exact grown_trans (grown_trans (World.grownBy_alloc _ _ _) (World.grownBy_alloc _ _ _)) (World.grownBy_alloc _ _ _)
  have hk0 : w0.cell? ⟨w.heap.size + 1, 0, none⟩ = some (.slice na n.length nc) := by rw [hw0]; simp [go_sem]
  have r0 : w0.cell? ⟨w.heap.size + 1 + 1, 0, none⟩ = some (.slice none 0 0) := by rw [hw0]; simp [go_sem]
  have f0 : w0.frozen? ⟨w.heap.size + 1 + 1, 0, none⟩ = false := by rw [hw0]; simp [go_sem]
  have s0 : w0.heap.size = w.heap.size + 3 := by rw [hw0]; simp
  have HN : Hid (∀ W : World, w.grownBy W none → RdB W.heap.size W (.slice na n.length nc) n) := fun W g => (hn.keep g).wideF g.size
  have HA := hide (afterFsSync_ok (.slice a fs.length cap) (.pointer (some ⟨w.heap.size + 1, 0, none⟩)) fs (fun fs' => (∃ (i : Nat) (hi : i < fs.length), fs[i].n = n ∧ fs' = fs.set i { fs[i] with s := (fs[i].d.length : Int) })) a0 a1 a2 w0 (hv.now g0) hd hval (he.keep g0) (fun B h u W gW hB H => clSync B h u (.slice na n.length nc) ⟨w.heap.size + 1, 0, none⟩ fs n a0 a1 a2 W (gW.cell hk0 (by simp)) H hd hval (HN.out W (grown_trans g0 gW)) hs hb hok hno (fun W' hb => he.below ((below_of_grown (grown_trans g0 gW)).trans (hb.mono (by have := g0.size; omega))))))
  have HG0 := hide g0
  have HW0 := hide hw0
  rw [hw0] at HA
  clear hv hd hval he hn hs hk0 hw0
  go_enter Tryz.func13, Tryz.ntmps13
  go_wp2_with fail
  refine HA.out.mono ?_
  rintro e w1 ⟨v1, fs', rfl, hP, o1, g1⟩
  have HP := hide hP
  rw [← HW0.out] at o1 g1
  obtain ⟨rr, rf⟩ := grown_bothF g1 r0 f0
  obtain ⟨ua, uc, hu0⟩ := o1.sl
  have HO := hide (o1.setLow ⟨w.heap.size + 1 + 1, 0, none⟩ v1 (by rw [s0]; show w.heap.size + 1 + 1 < _; omega))
  have HG : Hid (w.grownBy (w1.setCell ⟨w.heap.size + 1 + 1, 0, none⟩ v1) none) := grown_of_below ((below_of_grown (grown_trans HG0.out g1)).setCell (by show w.heap.size ≤ w.heap.size + 1 + 1; omega) _)
  subst hu0
  clear o1 g1 hP r0 f0
  go_wp2
  refine bodyPost_ret (v := .tuple #[.agg #[(.slice ua fs'.length uc)], .int .i64 0]) (by simp [results, Tryz.results13, go_sem, rr]) rfl ?_
  exact ⟨_, fs', rfl, HP.out, HO.out.rd, HG.out⟩

set_option maxHeartbeats 4000000 in
set_option maxRecDepth 100000 in
theorem clRename (B h : Nat) (u nv dv : Value) (ka kd : Addr) (fs : List Fl) (n d : List Int) (a0 a1 a2 : Addr) (W : World) (hk0 : W.cell? ka = some nv) (hk1 : W.cell? kd = some dv) (H : HL B h W u fs) (hd : Fss fs) (hval : validF fs = true) (hn : RdB W.heap.size W nv n) (hs : Sl nv n.length) (hb : Byt n) (hok : nameOK n = true) (hdd : RdB W.heap.size W dv d) (hsd : Sl dv d.length) (hbd : Byt d) (hokd : nameOK d = true) (hfr : findF fs n ≠ none) (hto : findF fs d = none) (he : ∀ W', Below B W W' → Errs W' a0 a1 a2) :
    Calls Tryz.prog 34 #[.iface 59 (.pointer (some ⟨h, 0, none⟩)), .pointer (some ka), .pointer (some kd)] W fun e W' => e = .returned (.nilIface) ∧ ∃ fs', (∃ (i k : Nat) (hi : i < fs.length), fs[i].n = n ∧ Pos (fs.take i ++ fs.drop (i + 1)) d k ∧ fs' = (fs.take i ++ fs.drop (i + 1)).take k ++ { fs[i] with n := d } :: (fs.take i ++ fs.drop (i + 1)).drop k) ∧ Lft B h W fs' W' := by
  have HW := hide (rename_new B h u nv dv fs n d a0 a1 a2 W H hd hval hn hs hb hok hdd hsd hbd hokd hfr hto he)
  obtain ⟨na, nc, hnv0, _, _⟩ := id hs
  obtain ⟨da, dc, hdv0, _, _⟩ := id hsd
  subst hnv0 hdv0
  clear H hd hval hn hs he hdd hsd
  go_enter Tryz.func34, Tryz.ntmps34
  go_wp2_with fail
  refine HW.out.mono ?_
  rintro e w1 ⟨rfl, i, k, hi, hq, hp, hL⟩
  have HP := hide (And.intro hq hp)
  have HL := hide hL
  clear hL
  go_wp2
  go_ret
  exact ⟨rfl, _, ⟨i, k, hi, HP.out.1, HP.out.2, rfl⟩, HL.out⟩

set_option maxHeartbeats 8000000 in
set_option maxRecDepth 100000 in
theorem implRename (v nv dv : Value) (fs : List Fl) (n d : List Int) (a0 a1 a2 : Addr) (w : World) (hv : RdF w.heap.size w v fs) (hd : Fss fs) (hval : validF fs = true) (hn : RdB w.heap.size w nv n) (hs : Sl nv n.length) (hb : Byt n) (hok : nameOK n = true) (hdd : RdB w.heap.size w dv d) (hsd : Sl dv d.length) (hbd : Byt d) (hokd : nameOK d = true) (hfr : findF fs n ≠ none) (hto : findF fs d = none) (he : Errs w a0 a1 a2) :
    Calls Tryz.prog 14 #[.agg #[v], nv, dv] w fun e w' => ∃ v' fs', e = .returned (.tuple #[.agg #[v'], .int .i64 0]) ∧ (∃ (i k : Nat) (hi : i < fs.length), fs[i].n = n ∧ Pos (fs.take i ++ fs.drop (i + 1)) d k ∧ fs' = (fs.take i ++ fs.drop (i + 1)).take k ++ { fs[i] with n := d } :: (fs.take i ++ fs.drop (i + 1)).drop k) ∧ RdF w'.heap.size w' v' fs' ∧ w.grownBy w' none := by
  obtain ⟨a, cap, hv0, _⟩ := id hv
  obtain ⟨na, nc, hnv0, _, _⟩ := id hs
  obtain ⟨da, dc, hdv0, _, _⟩ := id hsd
  subst hv0 hnv0 hdv0
  obtain ⟨w0, hw0⟩ : ∃ w0, w0 = (((w.alloc (Obj.cells #[.slice a fs.length cap] 25)).alloc (Obj.cells #[.slice na n.length nc] 22)).alloc (Obj.cells #[.slice da d.length dc] 22)).alloc (Obj.cells #[.slice none 0 0] 25) := ⟨_, rfl⟩
  have g0 : w.grownBy w0 none := by rw [hw0]; exact grown_trans (grown_trans (grown_trans (World.grownBy_alloc _ _ _) (World.grownBy_alloc _ _ _)) (World.grownBy_alloc _ _ _)) (World.grownBy_alloc _ _ _)
  have hk0 : w0.cell? ⟨w.heap.size + 1, 0, none⟩ = some (.slice na n.length nc) := by rw [hw0]; simp [go_sem]
  have hk1 : w0.cell? ⟨w.heap.size + 1 + 1, 0, none⟩ = some (.slice da d.length dc) := by rw [hw0]; simp [go_sem]
  have r0 : w0.cell? ⟨w.heap.size + 1 + 1 + 1, 0, none⟩ = some (.slice none 0 0) := by rw [hw0]; simp [go_sem]
  have f0 : w0.frozen? ⟨w.heap.size + 1 + 1 + 1, 0, none⟩ = false := by rw [hw0]; simp [go_sem]
  have s0 : w0.heap.size = w.heap.size + 4 := by rw [hw0]; simp
  have HN : Hid (∀ W : World, w.grownBy W none → RdB W.heap.size W (.slice na n.length nc) n) := fun W g => (hn.keep g).wideF g.size
  have HD : Hid (∀ W : World, w.grownBy W none → RdB W.heap.size W (.slice da d.length dc) d) := fun W g => (hdd.keep g).wideF g.size
  have HA := hide (afterFsRename_ok (.slice a fs.length cap) (.pointer (some ⟨w.heap.size + 1, 0, none⟩)) (.pointer (some ⟨w.heap.size + 1 + 1, 0, none⟩)) fs (fun fs' => (∃ (i k : Nat) (hi : i < fs.length), fs[i].n = n ∧ Pos (fs.take i ++ fs.drop (i + 1)) d k ∧ fs' = (fs.take i ++ fs.drop (i + 1)).take k ++ { fs[i] with n := d } :: (fs.take i ++ fs.drop (i + 1)).drop k)) a0 a1 a2 w0 (hv.now g0) hd hval (he.keep g0) (fun B h u W gW hB H => clRename B h u (.slice na n.length nc) (.slice da d.length dc) ⟨w.heap.size + 1, 0, none⟩ ⟨w.heap.size + 1 + 1, 0, none⟩ fs n d a0 a1 a2 W (gW.cell hk0 (by simp)) (gW.cell hk1 (by simp)) H hd hval (HN.out W (grown_trans g0 gW)) hs hb hok (HD.out W (grown_trans g0 gW)) hsd hbd hokd hfr hto (fun W' hb => he.below ((below_of_grown (grown_trans g0 gW)).trans (hb.mono (by have := g0.size; omega))))))
  have HG0 := hide g0
  have HW0 := hide hw0
  rw [hw0] at HA
  clear hv hd hval he hn hs hdd hsd hk0 hk1 hw0
  go_enter Tryz.func14, Tryz.ntmps14
  go_wp2_with fail
  refine HA.out.mono ?_
  rintro e w1 ⟨v1, fs', rfl, hP, o1, g1⟩
  have HP := hide hP
  rw [← HW0.out] at o1 g1
  obtain ⟨rr, rf⟩ := grown_bothF g1 r0 f0
  obtain ⟨ua, uc, hu0⟩ := o1.sl
  have HO := hide (o1.setLow ⟨w.heap.size + 1 + 1 + 1, 0, none⟩ v1 (by rw [s0]; show w.heap.size + 1 + 1 + 1 < _; omega))
  have HG : Hid (w.grownBy (w1.setCell ⟨w.heap.size + 1 + 1 + 1, 0, none⟩ v1) none) := grown_of_below ((below_of_grown (grown_trans HG0.out g1)).setCell (by show w.heap.size ≤ w.heap.size + 1 + 1 + 1; omega) _)
  subst hu0
  clear o1 g1 hP r0 f0
  go_wp2
  refine bodyPost_ret (v := .tuple #[.agg #[(.slice ua fs'.length uc)], .int .i64 0]) (by simp [results, Tryz.results14, go_sem, rr]) rfl ?_
  exact ⟨_, fs', rfl, HP.out, HO.out.rd, HG.out⟩

set_option maxHeartbeats 4000000 in
set_option maxRecDepth 100000 in
theorem clRemove (B h : Nat) (u nv : Value) (ka : Addr) (fs : List Fl) (n : List Int) (a0 a1 a2 : Addr) (W : World) (hk0 : W.cell? ka = some nv) (H : HL B h W u fs) (hd : Fss fs) (hval : validF fs = true) (hn : RdB W.heap.size W nv n) (hs : Sl nv n.length) (hb : Byt n) (hok : nameOK n = true) (hno : findF fs n ≠ none) (he : ∀ W', Below B W W' → Errs W' a0 a1 a2) :
    Calls Tryz.prog 35 #[.iface 59 (.pointer (some ⟨h, 0, none⟩)), .pointer (some ka)] W fun e W' => e = .returned (.nilIface) ∧ ∃ fs', (∃ (i : Nat) (hi : i < fs.length), fs[i].n = n ∧ fs' = fs.take i ++ fs.drop (i + 1)) ∧ Lft B h W fs' W' := by
  have HW := hide (remove_yes B h u nv fs n a0 a1 a2 W H hd hval hn hs hb hok hno (he W (Below.refl _ _)))
  obtain ⟨na, nc, hnv0, _, _⟩ := id hs
  subst hnv0
  clear H hd hval hn hs he
  go_enter Tryz.func35, Tryz.ntmps35
  go_wp2_with fail
  refine HW.out.mono ?_
  rintro e w1 ⟨rfl, i, hi, hp, hL⟩
  have HP := hide hp
  have HL := hide hL
  clear hL
  go_wp2
  go_ret
  exact ⟨rfl, _, ⟨i, hi, HP.out, rfl⟩, HL.out⟩

set_option maxHeartbeats 8000000 in
set_option maxRecDepth 100000 in
theorem implRemove (v nv : Value) (fs : List Fl) (n : List Int) (a0 a1 a2 : Addr) (w : World) (hv : RdF w.heap.size w v fs) (hd : Fss fs) (hval : validF fs = true) (hn : RdB w.heap.size w nv n) (hs : Sl nv n.length) (hb : Byt n) (hok : nameOK n = true) (hno : findF fs n ≠ none) (he : Errs w a0 a1 a2) :
    Calls Tryz.prog 15 #[.agg #[v], nv] w fun e w' => ∃ v' fs', e = .returned (.tuple #[.agg #[v'], .int .i64 0]) ∧ (∃ (i : Nat) (hi : i < fs.length), fs[i].n = n ∧ fs' = fs.take i ++ fs.drop (i + 1)) ∧ RdF w'.heap.size w' v' fs' ∧ w.grownBy w' none := by
  obtain ⟨a, cap, hv0, _⟩ := id hv
  obtain ⟨na, nc, hnv0, _, _⟩ := id hs
  subst hv0 hnv0
  obtain ⟨w0, hw0⟩ : ∃ w0, w0 = ((w.alloc (Obj.cells #[.slice a fs.length cap] 25)).alloc (Obj.cells #[.slice na n.length nc] 22)).alloc (Obj.cells #[.slice none 0 0] 25) := ⟨_, rfl⟩
  have g0 : w.grownBy w0 none := by rw [hw0]; exact grown_trans (grown_trans (World.grownBy_alloc _ _ _) (World.grownBy_alloc _ _ _)) (World.grownBy_alloc _ _ _)
  have hk0 : w0.cell? ⟨w.heap.size + 1, 0, none⟩ = some (.slice na n.length nc) := by rw [hw0]; simp [go_sem]
  have r0 : w0.cell? ⟨w.heap.size + 1 + 1, 0, none⟩ = some (.slice none 0 0) := by rw [hw0]; simp [go_sem]
  have f0 : w0.frozen? ⟨w.heap.size + 1 + 1, 0, none⟩ = false := by rw [hw0]; simp [go_sem]
  have s0 : w0.heap.size = w.heap.size + 3 := by rw [hw0]; simp
  have HN : Hid (∀ W : World, w.grownBy W none → RdB W.heap.size W (.slice na n.length nc) n) := fun W g => (hn.keep g).wideF g.size
  have HA := hide (afterFsRemove_ok (.slice a fs.length cap) (.pointer (some ⟨w.heap.size + 1, 0, none⟩)) fs (fun fs' => (∃ (i : Nat) (hi : i < fs.length), fs[i].n = n ∧ fs' = fs.take i ++ fs.drop (i + 1))) a0 a1 a2 w0 (hv.now g0) hd hval (he.keep g0) (fun B h u W gW hB H => clRemove B h u (.slice na n.length nc) ⟨w.heap.size + 1, 0, none⟩ fs n a0 a1 a2 W (gW.cell hk0 (by simp)) H hd hval (HN.out W (grown_trans g0 gW)) hs hb hok hno (fun W' hb => he.below ((below_of_grown (grown_trans g0 gW)).trans (hb.mono (by have := g0.size; omega))))))
  have HG0 := hide g0
  have HW0 := hide hw0
  rw [hw0] at HA
  clear hv hd hval he hn hs hk0 hw0
  go_enter Tryz.func15, Tryz.ntmps15
  go_wp2_with fail
  refine HA.out.mono ?_
  rintro e w1 ⟨v1, fs', rfl, hP, o1, g1⟩
  have HP := hide hP
  rw [← HW0.out] at o1 g1
  obtain ⟨rr, rf⟩ := grown_bothF g1 r0 f0
  obtain ⟨ua, uc, hu0⟩ := o1.sl
  have HO := hide (o1.setLow ⟨w.heap.size + 1 + 1, 0, none⟩ v1 (by rw [s0]; show w.heap.size + 1 + 1 < _; omega))
  have HG : Hid (w.grownBy (w1.setCell ⟨w.heap.size + 1 + 1, 0, none⟩ v1) none) := grown_of_below ((below_of_grown (grown_trans HG0.out g1)).setCell (by show w.heap.size ≤ w.heap.size + 1 + 1; omega) _)
  subst hu0
  clear o1 g1 hP r0 f0
  go_wp2
  refine bodyPost_ret (v := .tuple #[.agg #[(.slice ua fs'.length uc)], .int .i64 0]) (by simp [results, Tryz.results15, go_sem, rr]) rfl ?_
  exact ⟨_, fs', rfl, HP.out, HO.out.rd, HG.out⟩

set_option maxHeartbeats 4000000 in
set_option maxRecDepth 100000 in
theorem clRemove_none (B h : Nat) (u nv : Value) (ka : Addr) (fs : List Fl) (n : List Int) (a0 a1 a2 : Addr) (W : World) (hk0 : W.cell? ka = some nv) (H : HL B h W u fs) (hd : Fss fs) (hval : validF fs = true) (hn : RdB W.heap.size W nv n) (hs : Sl nv n.length) (hb : Byt n) (hok : nameOK n = true) (hno : findF fs n = none) (he : ∀ W', Below B W W' → Errs W' a0 a1 a2) :
    Calls Tryz.prog 35 #[.iface 59 (.pointer (some ⟨h, 0, none⟩)), .pointer (some ka)] W fun e W' => e = .returned (Er a1) ∧ ∃ fs', (fs' = fs) ∧ Lft B h W fs' W' := by
  have HW := hide (remove_no B h u nv fs n a0 a1 a2 W H hd hval hn hs hb hok hno (he W (Below.refl _ _)))
  obtain ⟨na, nc, hnv0, _, _⟩ := id hs
  subst hnv0
  clear H hd hval hn hs he
  go_enter Tryz.func35, Tryz.ntmps35
  go_wp2_with fail
  refine HW.out.mono ?_
  rintro e w1 ⟨rfl, hL⟩
  have HP := hide hno
  have HL := hide hL
  clear hL
  go_wp2
  go_ret
  exact ⟨rfl, _, rfl, HL.out⟩

set_option maxHeartbeats 8000000 in
set_option maxRecDepth 100000 in
theorem implRemove_none (v nv : Value) (fs : List Fl) (n : List Int) (a0 a1 a2 : Addr) (w : World) (hv : RdF w.heap.size w v fs) (hd : Fss fs) (hval : validF fs = true) (hn : RdB w.heap.size w nv n) (hs : Sl nv n.length) (hb : Byt n) (hok : nameOK n = true) (hno : findF fs n = none) (he : Errs w a0 a1 a2) :
    Calls Tryz.prog 15 #[.agg #[v], nv] w fun e w' => ∃ v' fs', e = .returned (.tuple #[.agg #[v'], .int .i64 5]) ∧ (fs' = fs) ∧ RdF w'.heap.size w' v' fs' ∧ w.grownBy w' none := by
  obtain ⟨a, cap, hv0, _⟩ := id hv
  obtain ⟨na, nc, hnv0, _, _⟩ := id hs
  subst hv0 hnv0
  obtain ⟨w0, hw0⟩ : ∃ w0, w0 = ((w.alloc (Obj.cells #[.slice a fs.length cap] 25)).alloc (Obj.cells #[.slice na n.length nc] 22)).alloc (Obj.cells #[.slice none 0 0] 25) := ⟨_, rfl⟩
  have g0 : w.grownBy w0 none := by rw [hw0]; exact grown_trans (grown_trans (World.grownBy_alloc _ _ _) (World.grownBy_alloc _ _ _)) (World.grownBy_alloc _ _ _)
  have hk0 : w0.cell? ⟨w.heap.size + 1, 0, none⟩ = some (.slice na n.length nc) := by rw [hw0]; simp [go_sem]
  have r0 : w0.cell? ⟨w.heap.size + 1 + 1, 0, none⟩ = some (.slice none 0 0) := by rw [hw0]; simp [go_sem]
  have f0 : w0.frozen? ⟨w.heap.size + 1 + 1, 0, none⟩ = false := by rw [hw0]; simp [go_sem]
  have s0 : w0.heap.size = w.heap.size + 3 := by rw [hw0]; simp
  have HN : Hid (∀ W : World, w.grownBy W none → RdB W.heap.size W (.slice na n.length nc) n) := fun W g => (hn.keep g).wideF g.size
  have HA := hide (afterFsRemove_none (.slice a fs.length cap) (.pointer (some ⟨w.heap.size + 1, 0, none⟩)) fs (fun fs' => (fs' = fs)) a0 a1 a2 w0 (hv.now g0) hd hval (he.keep g0) (fun B h u W gW hB H => clRemove_none B h u (.slice na n.length nc) ⟨w.heap.size + 1, 0, none⟩ fs n a0 a1 a2 W (gW.cell hk0 (by simp)) H hd hval (HN.out W (grown_trans g0 gW)) hs hb hok hno (fun W' hb => he.below ((below_of_grown (grown_trans g0 gW)).trans (hb.mono (by have := g0.size; omega))))))
  have HG0 := hide g0
  have HW0 := hide hw0
  rw [hw0] at HA
  clear hv hd hval he hn hs hk0 hw0
  go_enter Tryz.func15, Tryz.ntmps15
  go_wp2_with fail
  refine HA.out.mono ?_
  rintro e w1 ⟨v1, fs', rfl, hP, o1, g1⟩
  have HP := hide hP
  rw [← HW0.out] at o1 g1
  obtain ⟨rr, rf⟩ := grown_bothF g1 r0 f0
  obtain ⟨ua, uc, hu0⟩ := o1.sl
  have HO := hide (o1.setLow ⟨w.heap.size + 1 + 1, 0, none⟩ v1 (by rw [s0]; show w.heap.size + 1 + 1 < _; omega))
  have HG : Hid (w.grownBy (w1.setCell ⟨w.heap.size + 1 + 1, 0, none⟩ v1) none) := grown_of_below ((below_of_grown (grown_trans HG0.out g1)).setCell (by show w.heap.size ≤ w.heap.size + 1 + 1; omega) _)
  subst hu0
  clear o1 g1 hP r0 f0
  go_wp2
  refine bodyPost_ret (v := .tuple #[.agg #[(.slice ua fs'.length uc)], .int .i64 5]) (by simp [results, Tryz.results15, go_sem, rr]) rfl ?_
  exact ⟨_, fs', rfl, HP.out, HO.out.rd, HG.out⟩
end Go.Proofs.YtakkdniikhgpdaaGreatDoor

namespace Go.Proofs.YtakkdniikhgpdaaGreatDoor
open Go.RowKit

set_option maxHeartbeats 4000000 in
set_option maxRecDepth 100000 in
/-- laws.sameFs at two readings of one list. -/
theorem sameFs_same (u v : Value) (fs : List Fl) (w : World) (hu : RdF w.heap.size w u fs) (hv : RdF w.heap.size w v fs) (hd : Fss fs) :
    Calls Tryz.prog 16 #[.agg #[u], .agg #[v]] w fun e w' => e = .returned (.bool true) ∧ w.grownBy w' none := by
  obtain ⟨ua, uc, hu0, huc, hum, _⟩ := id hu
  obtain ⟨va, vc, hv0, hvc, hvm, _⟩ := id hv
  unfold maxLen at hum hvm
  have HU := hide hu
  have HV := hide hv
  have HD := hide hd
  have hl := hd.len
  subst hu0 hv0
  obtain ⟨w0, hw0⟩ : ∃ w0, w0 = (w.alloc (Obj.cells #[.slice ua fs.length uc] 25)).alloc (Obj.cells #[.slice va fs.length vc] 25) := ⟨_, rfl⟩
  have g0 : w.grownBy w0 none := by rw [hw0]; exact grown_trans (World.grownBy_alloc _ _ _) (World.grownBy_alloc _ _ _)
  have pa : w0.cell? ⟨w.heap.size, 0, none⟩ = some (.slice ua fs.length uc) := by rw [hw0]; simp [go_sem]
  have pb : w0.cell? ⟨w.heap.size + 1, 0, none⟩ = some (.slice va fs.length vc) := by rw [hw0]; simp [go_sem]
  have Y := hide (And.intro pa pb)
  have G0 := hide g0
  have HW0 := hide hw0
  clear hu hv hd pa pb g0
  go_enter Tryz.func16, Tryz.ntmps16
  go_wp2
  have hw0 := HW0.out
  rw [← hw0]
  go_loopw [5] (fun i W => ∃ j : Nat, j ≤ fs.length ∧ i = .int .i64 j ∧ w0.grownBy W none) (fun i _ => fs.length - (intOf i).toNat)
  case atStart => exact ⟨0, Nat.zero_le _, rfl, World.grownBy.refl _ _⟩
  case round =>
    obtain ⟨j, hj, rfl, g⟩ := hrel
    obtain ⟨pa, pb⟩ := Y.out
    have ca := g.cell pa (by simp)
    have cb := g.cell pb (by simp)
    have G := hide g
    by_cases hlt : j < fs.length
    · obtain ⟨b1, o1, c1, x1, e1, _, f1⟩ := (HU.out.now (grown_trans G0.out g)).at j hlt
      obtain ⟨b2, o2, c2, x2, e2, _, f2⟩ := (HV.out.now (grown_trans G0.out g)).at j hlt
      cases e1
      cases e2
      obtain ⟨x1n, x1d⟩ := x1
      obtain ⟨x2n, x2d⟩ := x2
      have y0 := f1.n; have y1 := f1.d; have y2 := f1.s
      have z0 := f2.n; have z1 := f2.d; have z2 := f2.s
      have htl := HD.out.tlen _ (List.getElem_mem hlt)
      have HS1 : Hid (∀ W : World, wr.grownBy W none → _) := fun W (g : wr.grownBy W none) => sameB_same x1n x2n fs[j].n W ((f1.rn.keep g).wideF g.size) ((f2.rn.keep g).wideF g.size) (by omega)
      have HS2 : Hid (∀ W : World, wr.grownBy W none → _) := fun W (g : wr.grownBy W none) => sameB_same x1d x2d fs[j].d W ((f1.rd.keep g).wideF g.size) ((f2.rd.keep g).wideF g.size) (by omega)
      obtain ⟨a1, k1, h1, _, _⟩ := f1.sn
      obtain ⟨a2, k2, h2, _, _⟩ := f1.sd
      obtain ⟨a3, k3, h3, _, _⟩ := f2.sn
      obtain ⟨a4, k4, h4, _, _⟩ := f2.sd
      simp only at h1 h2 h3 h4 y0 y1 z0 z1
      subst h1 h2 h3 h4
      have hjl : (j : Int) < fs.length := by omega
      have cb' : ∀ o, (wr.alloc o).cell? ⟨w.heap.size + 1, 0, none⟩ = some (.slice (some ⟨b2, o2, none⟩) fs.length vc) := fun o => (World.grownBy_alloc wr o none).cell cb (by simp)
      have z0' : ∀ o, (wr.alloc o).cell? ⟨b2, o2 + j * 3, none⟩ = some (.slice a3 fs[j].n.length k3) := fun o => (World.grownBy_alloc wr o none).cell z0 (by simp)
      have z1' : ∀ o, (wr.alloc o).cell? ⟨b2, o2 + j * 3 + 1, none⟩ = some (.slice a4 fs[j].d.length k4) := fun o => (World.grownBy_alloc wr o none).cell z1 (by simp)
      have z2' : ∀ o, (wr.alloc o).cell? ⟨b2, o2 + j * 3 + 2, none⟩ = some (.int .i64 fs[j].s) := fun o => (World.grownBy_alloc wr o none).cell z2 (by simp)
      obtain ⟨wB, hwB⟩ : ∃ wB, wB = (wr.alloc (Obj.cells #[.slice a1 fs[j].n.length k1, .slice a2 fs[j].d.length k2, .int .i64 fs[j].s] 45)).alloc (Obj.cells #[.slice a3 fs[j].n.length k3, .slice a4 fs[j].d.length k4, .int .i64 fs[j].s] 45) := ⟨_, rfl⟩
      have gB : wr.grownBy wB none := by rw [hwB]; exact grown_trans (World.grownBy_alloc _ _ _) (World.grownBy_alloc _ _ _)
      have m1 : wB.cell? ⟨wr.heap.size, 1, none⟩ = some (.slice a2 fs[j].d.length k2) := by rw [hwB]; simp [go_sem]
      have m2 : wB.cell? ⟨wr.heap.size, 2, none⟩ = some (.int .i64 fs[j].s) := by rw [hwB]; simp [go_sem]
      have n1 : wB.cell? ⟨wr.heap.size + 1, 1, none⟩ = some (.slice a4 fs[j].d.length k4) := by rw [hwB]; simp [go_sem]
      have n2 : wB.cell? ⟨wr.heap.size + 1, 2, none⟩ = some (.int .i64 fs[j].s) := by rw [hwB]; simp [go_sem]
      have HS := hide (HS1.out wB gB)
      have HWB := hide hwB
      rw [hwB] at HS
      have GB := hide gB
      have M := hide (And.intro (And.intro m1 m2) (And.intro n1 n2))
      clear f1 f2 g pa pb HS1 hwB gB m1 m2 n1 n2
      go_wp2_with fail
      refine HS.out.mono ?_
      rintro e w2 ⟨rfl, g2⟩
      rw [← HWB.out] at g2
      obtain ⟨⟨m1, m2⟩, n1, n2⟩ := M.out
      have p1 := g2.cell m1 (by simp); have p2 := g2.cell m2 (by simp); have q1 := g2.cell n1 (by simp); have q2 := g2.cell n2 (by simp)
      have G2 := hide (grown_trans GB.out g2)
      have HSb := hide (HS2.out w2 G2.out)
      clear g2 m1 m2 n1 n2 HS cb' z0' z1' z2' y0 y1 y2 z0 z1 z2
      go_wp2_with fail
      refine HSb.out.mono ?_
      rintro e w3 ⟨rfl, g3⟩
      have r1 := g3.cell p2 (by simp); have r2 := g3.cell q2 (by simp)
      have G3 := hide (grown_trans G2.out g3)
      clear g3 p1 p2 q1 q2 HSb
      go_wp2
      go_roundw
      case rel => exact ⟨j + 1, by omega, by go_num, grown_trans G.out G3.out⟩
      case measure => simp [intOf]; omega
    · go_wp2
      go_ret
      exact ⟨rfl, grown_trans G0.out G.out⟩
end Go.Proofs.YtakkdniikhgpdaaGreatDoor

namespace Go.Proofs.YtakkdniikhgpdaaGreatDoor
open Go.RowKit

theorem lenFsRead {fs : List Fl} (z1 : List Int) (hd : Fss fs) (_ : z1.length ≤ 1048576) (_ : ((fs.length + tot fs : Nat) : Int) ≤ 1048576) : (readL fs z1).length ≤ 1048576 := by
  unfold readL
  split
  · cases h : findF fs z1 with
    | none => simp
    | some f => exact (hd.tlen f (find_mem h).1).2
  · simp

/-- What is asked of the program. -/
def ImplFsRead (w : World) : Prop := ∀ (fs : List Fl) (z1 : List Int), Fss fs → Byt z1 → z1.length ≤ 1048576 → ∀ (u : Value) (u1 : Value) (w' : World), Below w.heap.size w w' → RdF w'.heap.size w' u fs → RdB w'.heap.size w' u1 z1 → Sl u1 z1.length → Calls Tryz.prog 11 #[.agg #[u], u1] w' fun e w'' => ∃ v', e = .returned (.tuple #[v', .int .i64 (readC fs z1)]) ∧ OwB w'.heap.size w'' v' (readL fs z1) ∧ w'.grownBy w'' none

end Go.Proofs.YtakkdniikhgpdaaGreatDoor

namespace Go.Proofs.YtakkdniikhgpdaaGreatDoor
open Go.RowKit

/-- What read answers. -/
inductive Reads (fs : List Fl) (n : List Int) (a0 a1 : Addr) (B : Nat) (w : World) : Value → Prop
  | bad : nameOK n = false → Reads fs n a0 a1 B w (.tuple #[.slice none 0 0, Er a0])
  | none : nameOK n = true → findF fs n = none → Reads fs n a0 a1 B w (.tuple #[.slice none 0 0, Er a1])
  | yes (f : Fl) (v : Value) : nameOK n = true → findF fs n = some f → OwB B w v f.d → Sl v f.d.length → Reads fs n a0 a1 B w (.tuple #[v, .nilIface])

set_option maxHeartbeats 4000000 in
set_option maxRecDepth 100000 in
theorem read_any (h : Nat) (v nv : Value) (fs : List Fl) (n : List Int) (a0 a1 a2 : Addr) (w : World) (hc : w.cell? ⟨h, 0, none⟩ = some v) (hv : RdF w.heap.size w v fs) (hd : Fss fs) (hval : validF fs = true) (hn : RdB w.heap.size w nv n) (hs : Sl nv n.length) (hb : Byt n) (he : Errs w a0 a1 a2) :
    Calls Tryz.prog 31 #[.pointer (some ⟨h, 0, none⟩), nv] w fun e w' => ∃ u, e = .returned u ∧ Reads fs n a0 a1 w.heap.size w' u ∧ w.grownBy w' none := by
  have HF := hide (find_any h v nv fs n a0 a1 a2 w hc hv hd hval hn hs hb he)
  obtain ⟨a, cap, hv0, _⟩ := id hv
  obtain ⟨na, ncap, hnv0, _, _⟩ := id hs
  have HV := hide hv
  have HD := hide hd
  have hn1 : ∀ (t : TypeId) (u : Value) (w : World), (binOp .neq 54 (.iface t u) .nilIface).run Tryz.prog w = .ok (.bool true) w := fun _ _ _ => rfl
  have hn2 : ∀ (w : World), (binOp .neq 54 .nilIface .nilIface).run Tryz.prog w = .ok (.bool false) w := fun _ => rfl
  subst hnv0 hv0
  clear hv hn hs hval he hd hb
  go_enter Tryz.func31, Tryz.ntmps31
  go_wp2_with fail
  refine HF.out.mono ?_
  rintro e w1 ⟨u, rfl, fd, g⟩
  have HG := hide g
  have hc1 := g.cell hc (by simp)
  clear hc
  cases fd with
  | bad hk =>
    clear g
    go_wp2
    go_ret2
    exact ⟨_, rfl, .bad hk, HG.out⟩
  | none i hk _ hf =>
    clear g
    go_wp2
    go_ret2
    exact ⟨_, rfl, .none hk hf, HG.out⟩
  | yes i hi hk _ _ hf =>
    have HFf := hide hf
    have HK := hide hk
    obtain ⟨b, off, cap', x, hva, hb, hp⟩ := (HV.out.now g).at i hi
    cases hva
    obtain ⟨xn, xd⟩ := x
    have y0 := hp.n; have y1 := hp.d; have y2 := hp.s
    have hdl := (HD.out.tlen _ (List.getElem_mem hi)).2
    have HCl := hide (fun (w' : World) (g' : w1.grownBy w' none) => bytesClone_any xd fs[i].d w' ((hp.rd.keep g').wideF g'.size) (by omega))
    obtain ⟨da, dcap, hdv, _, _⟩ := hp.sd
    simp only at hdv
    subst hdv
    have hil : (i : Int) < fs.length := by omega
    clear hp g hf hk
    go_wp2_with fail
    refine (HCl.out _ (World.grownBy.refl _ _)).mono ?_
    rintro e w2 ⟨d1, rfl, o2, g2⟩
    have HR : Hid (Reads fs n a0 a1 w.heap.size w2 (.tuple #[d1, .nilIface])) := .yes fs[i] d1 HK.out HFf.out (row_base HG.out.size o2) o2.sl
    have HG2 : Hid (w.grownBy w2 none) := grown_trans HG.out g2
    clear o2 g2
    go_wp2
    go_ret2
    exact ⟨_, rfl, HR.out, HG2.out⟩

theorem readL_bad {fs : List Fl} {n : List Int} (h : okArg fs n = false) : readL fs n = [] ∧ readC fs n = 1 := by unfold readL readC; rw [h]; exact ⟨rfl, rfl⟩
theorem readL_none {fs : List Fl} {n : List Int} (h : okArg fs n = true) (hf : findF fs n = none) : readL fs n = [] ∧ readC fs n = 5 := by unfold readL readC; rw [h, hf]; exact ⟨rfl, rfl⟩
theorem readL_yes {fs : List Fl} {n : List Int} {f : Fl} (h : okArg fs n = true) (hf : findF fs n = some f) : readL fs n = f.d ∧ readC fs n = 0 := by unfold readL readC; rw [h, hf]; exact ⟨rfl, rfl⟩

set_option maxHeartbeats 4000000 in
set_option maxRecDepth 100000 in
theorem implRead_any (v nv : Value) (fs : List Fl) (n : List Int) (a0 a1 a2 : Addr) (w : World) (hv : RdF w.heap.size w v fs) (hd : Fss fs) (hn : RdB w.heap.size w nv n) (hs : Sl nv n.length) (hb : Byt n) (he : Errs w a0 a1 a2) :
    Calls Tryz.prog 11 #[.agg #[v], nv] w fun e w' => ∃ v', e = .returned (.tuple #[v', .int .i64 (readC fs n)]) ∧ OwB w.heap.size w' v' (readL fs n) ∧ w.grownBy w' none := by
  have HVa := hide (fun (w' : World) (g : w.grownBy w' none) => implValid_any v fs w' (hv.now g) hd)
  obtain ⟨a, cap, hv0, _⟩ := id hv
  obtain ⟨na, ncap, hnv0, _, _⟩ := id hs
  by_cases hval : validF fs = true
  · rw [hval] at HVa
    have HCp := hide (fun (w' : World) (g : w.grownBy w' none) => copyFiles_any v fs w' (hv.now g) hd)
    have HRd := hide (fun (h : Nat) (u : Value) (w' : World) (hc : w'.cell? ⟨h, 0, none⟩ = some u) (hu : RdF w'.heap.size w' u fs) (g : w.grownBy w' none) => read_any h u nv fs n a0 a1 a2 w' hc hu hd hval ((hn.keep g).wideF g.size) hs hb (he.keep g))
    have HE := hide he
    have HVl := hide hval
    subst hnv0 hv0
    clear hv hn hs hval he hd hb
    go_enter Tryz.func11, Tryz.ntmps11
    go_wp2_with fail
    have gS := World.grownBy_alloc w (Obj.cells #[Value.slice a fs.length cap] 25) none
    have hca : (w.alloc (Obj.cells #[Value.slice a fs.length cap] 25)).cell? ⟨w.heap.size, 0, none⟩ = some (.slice a fs.length cap) := by simp [go_sem]
    refine (HVa.out _ gS).mono ?_; rintro e w1 ⟨rfl, g1⟩
    have hca := g1.cell hca (by simp)
    have G1 : Hid (w.grownBy w1 none) := grown_trans gS g1
    clear gS
    clear g1
    go_wp2_with fail
    refine (HCp.out _ G1.out).mono ?_
    rintro e w2 ⟨wr, u, rfl, o2, g2, rfl⟩
    have gA := World.grownBy_alloc wr (Obj.cells #[u] 81) none
    have G2 : Hid (w.grownBy (wr.alloc (Obj.cells #[u] 81)) none) := grown_trans (grown_trans G1.out g2) gA
    have O2 := hide (o2.later gA)
    have hcu : (wr.alloc (Obj.cells #[u] 81)).cell? ⟨wr.heap.size, 0, none⟩ = some u := by simp [go_sem]
    clear o2 g2 gA
    go_wp2_with fail
    refine (HRd.out _ _ _ hcu O2.out.rd G2.out).mono ?_
    rintro e w3 ⟨t, rfl, rd, g3⟩
    have G3 : Hid (w.grownBy w3 none) := grown_trans G2.out g3
    have hsz := G2.out.size
    clear g3
    cases rd with
    | bad hk =>
      have HK : Hid (okArg fs n = false) := by unfold Hid okArg; rw [hk, Bool.and_false]
      have HCo := hide (codeOf_bad w3 a0 a1 a2 (HE.out.keep G3.out))
      go_wp2_with fail
      refine HCo.out.mono ?_; rintro e w4 ⟨rfl, rfl⟩
      go_wp2
      go_ret2
      exact ⟨_, by rw [(readL_bad HK.out).2]; rfl, by rw [(readL_bad HK.out).1]; exact OwB.nil _ _, G3.out⟩
    | none hk hf =>
      have HK : Hid (okArg fs n = true) := by unfold Hid okArg; rw [hk, HVl.out]; rfl
      have HF := hide hf
      have HCo := hide (codeOf_none w3 a0 a1 a2 (HE.out.keep G3.out))
      clear hf
      go_wp2_with fail
      refine HCo.out.mono ?_; rintro e w4 ⟨rfl, rfl⟩
      go_wp2
      go_ret2
      exact ⟨_, by rw [(readL_none HK.out HF.out).2]; rfl, by rw [(readL_none HK.out HF.out).1]; exact OwB.nil _ _, G3.out⟩
    | yes f d1 hk hf o3 s3 =>
      have HK : Hid (okArg fs n = true) := by unfold Hid okArg; rw [hk, HVl.out]; rfl
      have HF := hide hf
      have HO : Hid (OwB w.heap.size w3 d1 f.d) := row_base hsz o3
      have HCo := hide (codeOf_nil w3)
      clear hf o3 s3
      go_wp2_with fail
      refine HCo.out.mono ?_; rintro e w4 ⟨rfl, rfl⟩
      go_wp2
      go_ret2
      exact ⟨_, by rw [(readL_yes HK.out HF.out).2]; rfl, by rw [(readL_yes HK.out HF.out).1]; exact HO.out, G3.out⟩
  · have HK : Hid (okArg fs n = false) := by unfold Hid okArg; rw [show validF fs = false by simpa using hval]; rfl
    rw [show validF fs = false by simpa using hval] at HVa
    subst hnv0 hv0
    clear hv hn hs hval he hd hb
    go_enter Tryz.func11, Tryz.ntmps11
    go_wp2_with fail
    have gS := World.grownBy_alloc w (Obj.cells #[Value.slice a fs.length cap] 25) none
    refine (HVa.out _ gS).mono ?_; rintro e w1 ⟨rfl, g1⟩
    have g1 : w.grownBy w1 none := grown_trans gS g1
    clear gS
    go_wp2
    go_ret2
    exact ⟨_, by rw [(readL_bad HK.out).2]; rfl, by rw [(readL_bad HK.out).1]; exact OwB.nil _ _, g1⟩

theorem implFsRead (w : World) (a0 a1 a2 : Addr) (he : Errs w a0 a1 a2) : ImplFsRead w := fun fs z1 hd hb _ u u1 w' hbel hu h1 s1 => implRead_any u u1 fs z1 a0 a1 a2 w' hu hd h1 s1 hb (he.below hbel)

end Go.Proofs.YtakkdniikhgpdaaGreatDoor

