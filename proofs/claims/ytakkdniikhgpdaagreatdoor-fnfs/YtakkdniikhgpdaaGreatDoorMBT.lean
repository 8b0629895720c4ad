import Derived.Test.YtakkdniikhgpdaaGreatDoorMBS
namespace Go.Proofs.YtakkdniikhgpdaaGreatDoor
open Go.RowKit
attribute [-go_sem] Builtin.append_

theorem remove_yes (B h : Nat) (v nv : Value) (fs : List Fl) (n : List Int) (a0 a1 a2 : Addr) (w : World) (H : HL B h w v fs) (hd : Fss fs) (hval : validF fs = true) (hn : RdB w.heap.size w nv n) (hs : Sl nv n.length) (hb : Byt n) (hok : nameOK n = true) (hno : findF fs n ≠ none) (he : Errs w a0 a1 a2) :
    Calls Tryz.prog 121 #[.pointer (some ⟨h, 0, none⟩), nv] w fun e w' => e = .returned .nilIface ∧ ∃ (i : Nat) (hi : i < fs.length), fs[i].n = n ∧ Lft B h w (fs.take i ++ fs.drop (i + 1)) w' := by
  refine (remove_any B h v nv fs n a0 a1 a2 w H hd hval hn hs hb hok he).mono ?_
  rintro e w' (⟨hf, _⟩ | ⟨i, hi, _, hp, rfl, hL⟩)
  · exact absurd hf hno
  · exact ⟨rfl, i, hi, hp, hL⟩
theorem remove_no (B h : Nat) (v nv : Value) (fs : List Fl) (n : List Int) (a0 a1 a2 : Addr) (w : World) (H : HL B h w v fs) (hd : Fss fs) (hval : validF fs = true) (hn : RdB w.heap.size w nv n) (hs : Sl nv n.length) (hb : Byt n) (hok : nameOK n = true) (hno : findF fs n = none) (he : Errs w a0 a1 a2) :
    Calls Tryz.prog 121 #[.pointer (some ⟨h, 0, none⟩), nv] w fun e w' => e = .returned (Er a1) ∧ Lft B h w fs w' := by
  refine (remove_any B h v nv fs n a0 a1 a2 w H hd hval hn hs hb hok he).mono ?_
  rintro e w' (⟨_, rfl, hL⟩ | ⟨i, hi, _, hp, rfl, hL⟩)
  · exact ⟨rfl, hL⟩
  · exact absurd hp (find_noneF hno _ (List.getElem_mem hi))

set_option maxHeartbeats 4000000 in
set_option maxRecDepth 100000 in
theorem clWrite (B h : Nat) (u nv dv : Value) (ka kd : Addr) (fs : List Fl) (n d : List Int) (a0 a1 a2 : Addr) (W : World) (hk0 : W.cell? ka = some nv) (hk1 : W.cell? kd = some dv) (H : HL B h W u fs) (hd : Fss fs) (hval : validF fs = true) (hn : RdB W.heap.size W nv n) (hs : Sl nv n.length) (hb : Byt n) (hok : nameOK n = true) (hdd : RdB W.heap.size W dv d) (hsd : Sl dv d.length) (hno : findF fs n = none) (hl : fs.length < 50) (hdl : d.length ≤ 4194304) (he : ∀ W', Below B W W' → Errs W' a0 a1 a2) :
    Calls Tryz.prog 27 #[.iface 59 (.pointer (some ⟨h, 0, none⟩)), .pointer (some ka), .pointer (some kd)] W fun e W' => e = .returned (.nilIface) ∧ ∃ fs', (∃ i, Pos fs n i ∧ fs' = fs.take i ++ (⟨n, d, 0⟩ : Fl) :: fs.drop i) ∧ Lft B h W fs' W' := by
  have HW := hide (write_new B h u nv dv fs n d a0 a1 a2 W H hd hval hn hs hdd hsd hb hok hno hl hdl (he W (Below.refl _ _)))
  obtain ⟨na, nc, hnv0, _, _⟩ := id hs
  obtain ⟨da, dc, hdv0, _, _⟩ := id hsd
  subst hnv0 hdv0
  clear H hd hval hn hs he hdd hsd
  go_enter Tryz.func27, Tryz.ntmps27
  go_wp2_with fail
  refine HW.out.mono ?_
  rintro e w1 ⟨rfl, i, hp, hL⟩
  have HP := hide hp
  have HL := hide hL
  clear hL
  go_wp2
  go_ret
  exact ⟨rfl, _, ⟨i, HP.out, rfl⟩, HL.out⟩

set_option maxHeartbeats 8000000 in
set_option maxRecDepth 100000 in
theorem implWrite (v nv dv : Value) (fs : List Fl) (n d : List Int) (a0 a1 a2 : Addr) (w : World) (hv : RdF w.heap.size w v fs) (hd : Fss fs) (hval : validF fs = true) (hn : RdB w.heap.size w nv n) (hs : Sl nv n.length) (hb : Byt n) (hok : nameOK n = true) (hdd : RdB w.heap.size w dv d) (hsd : Sl dv d.length) (hno : findF fs n = none) (hl : fs.length < 50) (hdl : d.length ≤ 4194304) (he : Errs w a0 a1 a2) :
    Calls Tryz.prog 9 #[.agg #[v], nv, dv] w fun e w' => ∃ v' fs', e = .returned (.tuple #[.agg #[v'], .int .i64 0]) ∧ (∃ i, Pos fs n i ∧ fs' = fs.take i ++ (⟨n, d, 0⟩ : Fl) :: fs.drop i) ∧ RdF w'.heap.size w' v' fs' ∧ w.grownBy w' none := by
  obtain ⟨a, cap, hv0, _⟩ := id hv
  obtain ⟨na, nc, hnv0, _, _⟩ := id hs
  obtain ⟨da, dc, hdv0, _, _⟩ := id hsd
  subst hv0 hnv0 hdv0
  obtain ⟨w0, hw0⟩ : ∃ w0, w0 = (((w.alloc (Obj.cells #[.slice a fs.length cap] 25)).alloc (Obj.cells #[.slice na n.length nc] 22)).alloc (Obj.cells #[.slice da d.length dc] 22)).alloc (Obj.cells #[.slice none 0 0] 25) := ⟨_, rfl⟩
  have g0 : w.grownBy w0 none := by rw [hw0]; exact grown_trans (grown_trans (grown_trans (World.grownBy_alloc _ _ _) (World.grownBy_alloc _ _ _)) (World.grownBy_alloc _ _ _)) (World.grownBy_alloc _ _ _)
  have hk0 : w0.cell? ⟨w.heap.size + 1, 0, none⟩ = some (.slice na n.length nc) := by rw [hw0]; simp [go_sem]
  have hk1 : w0.cell? ⟨w.heap.size + 1 + 1, 0, none⟩ = some (.slice da d.length dc) := by rw [hw0]; simp [go_sem]
  have r0 : w0.cell? ⟨w.heap.size + 1 + 1 + 1, 0, none⟩ = some (.slice none 0 0) := by rw [hw0]; simp [go_sem]
  have f0 : w0.frozen? ⟨w.heap.size + 1 + 1 + 1, 0, none⟩ = false := by rw [hw0]; simp [go_sem]
  have s0 : w0.heap.size = w.heap.size + 4 := by rw [hw0]; simp
  have HN : Hid (∀ W : World, w.grownBy W none → RdB W.heap.size W (.slice na n.length nc) n) := fun W g => (hn.keep g).wideF g.size
  have HD : Hid (∀ W : World, w.grownBy W none → RdB W.heap.size W (.slice da d.length dc) d) := fun W g => (hdd.keep g).wideF g.size
  have HA := hide (afterFsWrite_ok (.slice a fs.length cap) (.pointer (some ⟨w.heap.size + 1, 0, none⟩)) (.pointer (some ⟨w.heap.size + 1 + 1, 0, none⟩)) fs (fun fs' => (∃ i, Pos fs n i ∧ fs' = fs.take i ++ (⟨n, d, 0⟩ : Fl) :: fs.drop i)) a0 a1 a2 w0 (hv.now g0) hd hval (he.keep g0) (fun B h u W gW hB H => clWrite B h u (.slice na n.length nc) (.slice da d.length dc) ⟨w.heap.size + 1, 0, none⟩ ⟨w.heap.size + 1 + 1, 0, none⟩ fs n d a0 a1 a2 W (gW.cell hk0 (by simp)) (gW.cell hk1 (by simp)) H hd hval (HN.out W (grown_trans g0 gW)) hs hb hok (HD.out W (grown_trans g0 gW)) hsd hno hl hdl (fun W' hb => he.below ((below_of_grown (grown_trans g0 gW)).trans (hb.mono (by have := g0.size; omega))))))
  have HG0 := hide g0
  have HW0 := hide hw0
  rw [hw0] at HA
  clear hv hd hval he hn hs hdd hsd hk0 hk1 hw0
  go_enter Tryz.func9, Tryz.ntmps9
  go_wp2_with fail
  refine HA.out.mono ?_
  rintro e w1 ⟨v1, fs', rfl, hP, o1, g1⟩
  have HP := hide hP
  rw [← HW0.out] at o1 g1
  obtain ⟨rr, rf⟩ := grown_bothF g1 r0 f0
  obtain ⟨ua, uc, hu0⟩ := o1.sl
  have HO := hide (o1.setLow ⟨w.heap.size + 1 + 1 + 1, 0, none⟩ v1 (by rw [s0]; show w.heap.size + 1 + 1 + 1 < _; omega))
  have HG : Hid (w.grownBy (w1.setCell ⟨w.heap.size + 1 + 1 + 1, 0, none⟩ v1) none) := grown_of_below ((below_of_grown (grown_trans HG0.out g1)).setCell (by show w.heap.size ≤ w.heap.size + 1 + 1 + 1; omega) _)
  subst hu0
  clear o1 g1 hP r0 f0
  go_wp2
  refine bodyPost_ret (v := .tuple #[.agg #[(.slice ua fs'.length uc)], .int .i64 0]) (by simp [results, Tryz.results9, go_sem, rr]) rfl ?_
  exact ⟨_, fs', rfl, HP.out, HO.out.rd, HG.out⟩

set_option maxHeartbeats 4000000 in
set_option maxRecDepth 100000 in
theorem clSync (B h : Nat) (u nv : Value) (ka : Addr) (fs : List Fl) (n : List Int) (a0 a1 a2 : Addr) (W : World) (hk0 : W.cell? ka = some nv) (H : HL B h W u fs) (hd : Fss fs) (hval : validF fs = true) (hn : RdB W.heap.size W nv n) (hs : Sl nv n.length) (hb : Byt n) (hok : nameOK n = true) (hno : findF fs n ≠ none) (he : ∀ W', Below B W W' → Errs W' a0 a1 a2) :
    Calls Tryz.prog 33 #[.iface 59 (.pointer (some ⟨h, 0, none⟩)), .pointer (some ka)] W fun e W' => e = .returned (.nilIface) ∧ ∃ fs', (∃ (i : Nat) (hi : i < fs.length), fs[i].n = n ∧ fs' = fs.set i { fs[i] with s := (fs[i].d.length : Int) }) ∧ Lft B h W fs' W' := by
  have HW := hide (sync_yes B h u nv fs n a0 a1 a2 W H hd hval hn hs hb hok hno (he W (Below.refl _ _)))
  obtain ⟨na, nc, hnv0, _, _⟩ := id hs
  subst hnv0
  clear H hd hval hn hs he
  go_enter Tryz.func33, Tryz.ntmps33
  go_wp2_with fail
  refine HW.out.mono ?_
  rintro e w1 ⟨rfl, i, hi, _, hp, hL⟩
  have HP := hide hp
  have HL := hide hL
  clear hL
  go_wp2
  go_ret
  exact ⟨rfl, _, ⟨i, hi, HP.out, rfl⟩, HL.out⟩

set_option maxHeartbeats 8000000 in
set_option maxRecDepth 100000 in
theorem implSync (v nv : Value) (fs : List Fl) (n : List Int) (a0 a1 a2 : Addr) (w : World) (hv : RdF w.heap.size w v fs) (hd : Fss fs) (hval : validF fs = true) (hn : RdB w.heap.size w nv n) (hs : Sl nv n.length) (hb : Byt n) (hok : nameOK n = true) (hno : findF fs n ≠ none) (he : Errs w a0 a1 a2) :
    Calls Tryz.prog 13 #[.agg #[v], nv] w fun e w' => ∃ v' fs', e = .returned (.tuple #[.agg #[v'], .int .i64 0]) ∧ (∃ (i : Nat) (hi : i < fs.length), fs[i].n = n ∧ fs' = fs.set i { fs[i] with s := (fs[i].d.length : Int) }) ∧ RdF w'.heap.size w' v' fs' ∧ w.grownBy w' none := by
  obtain ⟨a, cap, hv0, _⟩ := id hv
  obtain ⟨na, nc, hnv0, _, _⟩ := id hs
  subst hv0 hnv0
  obtain ⟨w0, hw0⟩ : ∃ w0, w0 = ((w.alloc (Obj.cells #[.slice a fs.length cap] 25)).alloc (Obj.cells #[.slice na n.length nc] 22)).alloc (Obj.cells #[.slice none 0 0] 25) := ⟨_, rfl⟩
  have g0 : w.grownBy w0 none := by rw [hw0]; exact grown_trans (grown_trans (World.grownBy_alloc _ _ _) (World.grownBy_alloc _ _ _)) (World.grownBy_alloc _ _ _)
  have hk0 : w0.cell? ⟨w.heap.size + 1, 0, none⟩ = some (.slice na n.length nc) := by rw [hw0]; simp [go_sem]
  have r0 : w0.cell? ⟨w.heap.size + 1 + 1, 0, none⟩ = some (.slice none 0 0) := by rw [hw0]; simp [go_sem]
  have f0 : w0.frozen? ⟨w.heap.size + 1 + 1, 0, none⟩ = false := by rw [hw0]; simp [go_sem]
  have s0 : w0.heap.size = w.heap.size + 3 := by rw [hw0]; simp
  have HN : Hid (∀ W : World, w.grownBy W none → RdB W.heap.size W (.slice na n.length nc) n) := fun W g => (hn.keep g).wideF g.size
  have HA := hide (afterFsSync_ok (.slice a fs.length cap) (.pointer (some ⟨w.heap.size + 1, 0, none⟩)) fs (fun fs' => (∃ (i : Nat) (hi : i < fs.length), fs[i].n = n ∧ fs' = fs.set i { fs[i] with s := (fs[i].d.length : Int) })) a0 a1 a2 w0 (hv.now g0) hd hval (he.keep g0) (fun B h u W gW hB H => clSync B h u (.slice na n.length nc) ⟨w.heap.size + 1, 0, none⟩ fs n a0 a1 a2 W (gW.cell hk0 (by simp)) H hd hval (HN.out W (grown_trans g0 gW)) hs hb hok hno (fun W' hb => he.below ((below_of_grown (grown_trans g0 gW)).trans (hb.mono (by have := g0.size; omega))))))
  have HG0 := hide g0
  have HW0 := hide hw0
  rw [hw0] at HA
  clear hv hd hval he hn hs hk0 hw0
  go_enter Tryz.func13, Tryz.ntmps13
  go_wp2_with fail
  refine HA.out.mono ?_
  rintro e w1 ⟨v1, fs', rfl, hP, o1, g1⟩
  have HP := hide hP
  rw [← HW0.out] at o1 g1
  obtain ⟨rr, rf⟩ := grown_bothF g1 r0 f0
  obtain ⟨ua, uc, hu0⟩ := o1.sl
  have HO := hide (o1.setLow ⟨w.heap.size + 1 + 1, 0, none⟩ v1 (by rw [s0]; show w.heap.size + 1 + 1 < _; omega))
  have HG : Hid (w.grownBy (w1.setCell ⟨w.heap.size + 1 + 1, 0, none⟩ v1) none) := grown_of_below ((below_of_grown (grown_trans HG0.out g1)).setCell (by show w.heap.size ≤ w.heap.size + 1 + 1; omega) _)
  subst hu0
  clear o1 g1 hP r0 f0
  go_wp2
  refine bodyPost_ret (v := .tuple #[.agg #[(.slice ua fs'.length uc)], .int .i64 0]) (by simp [results, Tryz.results13, go_sem, rr]) rfl ?_
  exact ⟨_, fs', rfl, HP.out, HO.out.rd, HG.out⟩

set_option maxHeartbeats 4000000 in
set_option maxRecDepth 100000 in
theorem clRename (B h : Nat) (u nv dv : Value) (ka kd : Addr) (fs : List Fl) (n d : List Int) (a0 a1 a2 : Addr) (W : World) (hk0 : W.cell? ka = some nv) (hk1 : W.cell? kd = some dv) (H : HL B h W u fs) (hd : Fss fs) (hval : validF fs = true) (hn : RdB W.heap.size W nv n) (hs : Sl nv n.length) (hb : Byt n) (hok : nameOK n = true) (hdd : RdB W.heap.size W dv d) (hsd : Sl dv d.length) (hbd : Byt d) (hokd : nameOK d = true) (hfr : findF fs n ≠ none) (hto : findF fs d = none) (he : ∀ W', Below B W W' → Errs W' a0 a1 a2) :
    Calls Tryz.prog 34 #[.iface 59 (.pointer (some ⟨h, 0, none⟩)), .pointer (some ka), .pointer (some kd)] W fun e W' => e = .returned (.nilIface) ∧ ∃ fs', (∃ (i k : Nat) (hi : i < fs.length), fs[i].n = n ∧ Pos (fs.take i ++ fs.drop (i + 1)) d k ∧ fs' = (fs.take i ++ fs.drop (i + 1)).take k ++ { fs[i] with n := d } :: (fs.take i ++ fs.drop (i + 1)).drop k) ∧ Lft B h W fs' W' := by
  have HW := hide (rename_new B h u nv dv fs n d a0 a1 a2 W H hd hval hn hs hb hok hdd hsd hbd hokd hfr hto he)
  obtain ⟨na, nc, hnv0, _, _⟩ := id hs
  obtain ⟨da, dc, hdv0, _, _⟩ := id hsd
  subst hnv0 hdv0
  clear H hd hval hn hs he hdd hsd
  go_enter Tryz.func34, Tryz.ntmps34
  go_wp2_with fail
  refine HW.out.mono ?_
  rintro e w1 ⟨rfl, i, k, hi, hq, hp, hL⟩
  have HP := hide (And.intro hq hp)
  have HL := hide hL
  clear hL
  go_wp2
  go_ret
  exact ⟨rfl, _, ⟨i, k, hi, HP.out.1, HP.out.2, rfl⟩, HL.out⟩

set_option maxHeartbeats 8000000 in
set_option maxRecDepth 100000 in
theorem implRename (v nv dv : Value) (fs : List Fl) (n d : List Int) (a0 a1 a2 : Addr) (w : World) (hv : RdF w.heap.size w v fs) (hd : Fss fs) (hval : validF fs = true) (hn : RdB w.heap.size w nv n) (hs : Sl nv n.length) (hb : Byt n) (hok : nameOK n = true) (hdd : RdB w.heap.size w dv d) (hsd : Sl dv d.length) (hbd : Byt d) (hokd : nameOK d = true) (hfr : findF fs n ≠ none) (hto : findF fs d = none) (he : Errs w a0 a1 a2) :
    Calls Tryz.prog 14 #[.agg #[v], nv, dv] w fun e w' => ∃ v' fs', e = .returned (.tuple #[.agg #[v'], .int .i64 0]) ∧ (∃ (i k : Nat) (hi : i < fs.length), fs[i].n = n ∧ Pos (fs.take i ++ fs.drop (i + 1)) d k ∧ fs' = (fs.take i ++ fs.drop (i + 1)).take k ++ { fs[i] with n := d } :: (fs.take i ++ fs.drop (i + 1)).drop k) ∧ RdF w'.heap.size w' v' fs' ∧ w.grownBy w' none := by
  obtain ⟨a, cap, hv0, _⟩ := id hv
  obtain ⟨na, nc, hnv0, _, _⟩ := id hs
  obtain ⟨da, dc, hdv0, _, _⟩ := id hsd
  subst hv0 hnv0 hdv0
  obtain ⟨w0, hw0⟩ : ∃ w0, w0 = (((w.alloc (Obj.cells #[.slice a fs.length cap] 25)).alloc (Obj.cells #[.slice na n.length nc] 22)).alloc (Obj.cells #[.slice da d.length dc] 22)).alloc (Obj.cells #[.slice none 0 0] 25) := ⟨_, rfl⟩
  have g0 : w.grownBy w0 none := by rw [hw0]; exact grown_trans (grown_trans (grown_trans (World.grownBy_alloc _ _ _) (World.grownBy_alloc _ _ _)) (World.grownBy_alloc _ _ _)) (World.grownBy_alloc _ _ _)
  have hk0 : w0.cell? ⟨w.heap.size + 1, 0, none⟩ = some (.slice na n.length nc) := by rw [hw0]; simp [go_sem]
  have hk1 : w0.cell? ⟨w.heap.size + 1 + 1, 0, none⟩ = some (.slice da d.length dc) := by rw [hw0]; simp [go_sem]
  have r0 : w0.cell? ⟨w.heap.size + 1 + 1 + 1, 0, none⟩ = some (.slice none 0 0) := by rw [hw0]; simp [go_sem]
  have f0 : w0.frozen? ⟨w.heap.size + 1 + 1 + 1, 0, none⟩ = false := by rw [hw0]; simp [go_sem]
  have s0 : w0.heap.size = w.heap.size + 4 := by rw [hw0]; simp
  have HN : Hid (∀ W : World, w.grownBy W none → RdB W.heap.size W (.slice na n.length nc) n) := fun W g => (hn.keep g).wideF g.size
  have HD : Hid (∀ W : World, w.grownBy W none → RdB W.heap.size W (.slice da d.length dc) d) := fun W g => (hdd.keep g).wideF g.size
  have HA := hide (afterFsRename_ok (.slice a fs.length cap) (.pointer (some ⟨w.heap.size + 1, 0, none⟩)) (.pointer (some ⟨w.heap.size + 1 + 1, 0, none⟩)) fs (fun fs' => (∃ (i k : Nat) (hi : i < fs.length), fs[i].n = n ∧ Pos (fs.take i ++ fs.drop (i + 1)) d k ∧ fs' = (fs.take i ++ fs.drop (i + 1)).take k ++ { fs[i] with n := d } :: (fs.take i ++ fs.drop (i + 1)).drop k)) a0 a1 a2 w0 (hv.now g0) hd hval (he.keep g0) (fun B h u W gW hB H => clRename B h u (.slice na n.length nc) (.slice da d.length dc) ⟨w.heap.size + 1, 0, none⟩ ⟨w.heap.size + 1 + 1, 0, none⟩ fs n d a0 a1 a2 W (gW.cell hk0 (by simp)) (gW.cell hk1 (by simp)) H hd hval (HN.out W (grown_trans g0 gW)) hs hb hok (HD.out W (grown_trans g0 gW)) hsd hbd hokd hfr hto (fun W' hb => he.below ((below_of_grown (grown_trans g0 gW)).trans (hb.mono (by have := g0.size; omega))))))
  have HG0 := hide g0
  have HW0 := hide hw0
  rw [hw0] at HA
  clear hv hd hval he hn hs hdd hsd hk0 hk1 hw0
  go_enter Tryz.func14, Tryz.ntmps14
  go_wp2_with fail
  refine HA.out.mono ?_
  rintro e w1 ⟨v1, fs', rfl, hP, o1, g1⟩
  have HP := hide hP
  rw [← HW0.out] at o1 g1
  obtain ⟨rr, rf⟩ := grown_bothF g1 r0 f0
  obtain ⟨ua, uc, hu0⟩ := o1.sl
  have HO := hide (o1.setLow ⟨w.heap.size + 1 + 1 + 1, 0, none⟩ v1 (by rw [s0]; show w.heap.size + 1 + 1 + 1 < _; omega))
  have HG : Hid (w.grownBy (w1.setCell ⟨w.heap.size + 1 + 1 + 1, 0, none⟩ v1) none) := grown_of_below ((below_of_grown (grown_trans HG0.out g1)).setCell (by show w.heap.size ≤ w.heap.size + 1 + 1 + 1; omega) _)
  subst hu0
  clear o1 g1 hP r0 f0
  go_wp2
  refine bodyPost_ret (v := .tuple #[.agg #[(.slice ua fs'.length uc)], .int .i64 0]) (by simp [results, Tryz.results14, go_sem, rr]) rfl ?_
  exact ⟨_, fs', rfl, HP.out, HO.out.rd, HG.out⟩

set_option maxHeartbeats 4000000 in
set_option maxRecDepth 100000 in
theorem clRemove (B h : Nat) (u nv : Value) (ka : Addr) (fs : List Fl) (n : List Int) (a0 a1 a2 : Addr) (W : World) (hk0 : W.cell? ka = some nv) (H : HL B h W u fs) (hd : Fss fs) (hval : validF fs = true) (hn : RdB W.heap.size W nv n) (hs : Sl nv n.length) (hb : Byt n) (hok : nameOK n = true) (hno : findF fs n ≠ none) (he : ∀ W', Below B W W' → Errs W' a0 a1 a2) :
    Calls Tryz.prog 35 #[.iface 59 (.pointer (some ⟨h, 0, none⟩)), .pointer (some ka)] W fun e W' => e = .returned (.nilIface) ∧ ∃ fs', (∃ (i : Nat) (hi : i < fs.length), fs[i].n = n ∧ fs' = fs.take i ++ fs.drop (i + 1)) ∧ Lft B h W fs' W' := by
  have HW := hide (remove_yes B h u nv fs n a0 a1 a2 W H hd hval hn hs hb hok hno (he W (Below.refl _ _)))
  obtain ⟨na, nc, hnv0, _, _⟩ := id hs
  subst hnv0
  clear H hd hval hn hs he
  go_enter Tryz.func35, Tryz.ntmps35
  go_wp2_with fail
  refine HW.out.mono ?_
  rintro e w1 ⟨rfl, i, hi, hp, hL⟩
  have HP := hide hp
  have HL := hide hL
  clear hL
  go_wp2
  go_ret
  exact ⟨rfl, _, ⟨i, hi, HP.out, rfl⟩, HL.out⟩

set_option maxHeartbeats 8000000 in
set_option maxRecDepth 100000 in
theorem implRemove (v nv : Value) (fs : List Fl) (n : List Int) (a0 a1 a2 : Addr) (w : World) (hv : RdF w.heap.size w v fs) (hd : Fss fs) (hval : validF fs = true) (hn : RdB w.heap.size w nv n) (hs : Sl nv n.length) (hb : Byt n) (hok : nameOK n = true) (hno : findF fs n ≠ none) (he : Errs w a0 a1 a2) :
    Calls Tryz.prog 15 #[.agg #[v], nv] w fun e w' => ∃ v' fs', e = .returned (.tuple #[.agg #[v'], .int .i64 0]) ∧ (∃ (i : Nat) (hi : i < fs.length), fs[i].n = n ∧ fs' = fs.take i ++ fs.drop (i + 1)) ∧ RdF w'.heap.size w' v' fs' ∧ w.grownBy w' none := by
  obtain ⟨a, cap, hv0, _⟩ := id hv
  obtain ⟨na, nc, hnv0, _, _⟩ := id hs
  subst hv0 hnv0
  obtain ⟨w0, hw0⟩ : ∃ w0, w0 = ((w.alloc (Obj.cells #[.slice a fs.length cap] 25)).alloc (Obj.cells #[.slice na n.length nc] 22)).alloc (Obj.cells #[.slice none 0 0] 25) := ⟨_, rfl⟩
  have g0 : w.grownBy w0 none := by rw [hw0]; exact grown_trans (grown_trans (World.grownBy_alloc _ _ _) (World.grownBy_alloc _ _ _)) (World.grownBy_alloc _ _ _)
  have hk0 : w0.cell? ⟨w.heap.size + 1, 0, none⟩ = some (.slice na n.length nc) := by rw [hw0]; simp [go_sem]
  have r0 : w0.cell? ⟨w.heap.size + 1 + 1, 0, none⟩ = some (.slice none 0 0) := by rw [hw0]; simp [go_sem]
  have f0 : w0.frozen? ⟨w.heap.size + 1 + 1, 0, none⟩ = false := by rw [hw0]; simp [go_sem]
  have s0 : w0.heap.size = w.heap.size + 3 := by rw [hw0]; simp
  have HN : Hid (∀ W : World, w.grownBy W none → RdB W.heap.size W (.slice na n.length nc) n) := fun W g => (hn.keep g).wideF g.size
  have HA := hide (afterFsRemove_ok (.slice a fs.length cap) (.pointer (some ⟨w.heap.size + 1, 0, none⟩)) fs (fun fs' => (∃ (i : Nat) (hi : i < fs.length), fs[i].n = n ∧ fs' = fs.take i ++ fs.drop (i + 1))) a0 a1 a2 w0 (hv.now g0) hd hval (he.keep g0) (fun B h u W gW hB H => clRemove B h u (.slice na n.length nc) ⟨w.heap.size + 1, 0, none⟩ fs n a0 a1 a2 W (gW.cell hk0 (by simp)) H hd hval (HN.out W (grown_trans g0 gW)) hs hb hok hno (fun W' hb => he.below ((below_of_grown (grown_trans g0 gW)).trans (hb.mono (by have := g0.size; omega))))))
  have HG0 := hide g0
  have HW0 := hide hw0
  rw [hw0] at HA
  clear hv hd hval he hn hs hk0 hw0
  go_enter Tryz.func15, Tryz.ntmps15
  go_wp2_with fail
  refine HA.out.mono ?_
  rintro e w1 ⟨v1, fs', rfl, hP, o1, g1⟩
  have HP := hide hP
  rw [← HW0.out] at o1 g1
  obtain ⟨rr, rf⟩ := grown_bothF g1 r0 f0
  obtain ⟨ua, uc, hu0⟩ := o1.sl
  have HO := hide (o1.setLow ⟨w.heap.size + 1 + 1, 0, none⟩ v1 (by rw [s0]; show w.heap.size + 1 + 1 < _; omega))
  have HG : Hid (w.grownBy (w1.setCell ⟨w.heap.size + 1 + 1, 0, none⟩ v1) none) := grown_of_below ((below_of_grown (grown_trans HG0.out g1)).setCell (by show w.heap.size ≤ w.heap.size + 1 + 1; omega) _)
  subst hu0
  clear o1 g1 hP r0 f0
  go_wp2
  refine bodyPost_ret (v := .tuple #[.agg #[(.slice ua fs'.length uc)], .int .i64 0]) (by simp [results, Tryz.results15, go_sem, rr]) rfl ?_
  exact ⟨_, fs', rfl, HP.out, HO.out.rd, HG.out⟩

set_option maxHeartbeats 4000000 in
set_option maxRecDepth 100000 in
theorem clRemove_none (B h : Nat) (u nv : Value) (ka : Addr) (fs : List Fl) (n : List Int) (a0 a1 a2 : Addr) (W : World) (hk0 : W.cell? ka = some nv) (H : HL B h W u fs) (hd : Fss fs) (hval : validF fs = true) (hn : RdB W.heap.size W nv n) (hs : Sl nv n.length) (hb : Byt n) (hok : nameOK n = true) (hno : findF fs n = none) (he : ∀ W', Below B W W' → Errs W' a0 a1 a2) :
    Calls Tryz.prog 35 #[.iface 59 (.pointer (some ⟨h, 0, none⟩)), .pointer (some ka)] W fun e W' => e = .returned (Er a1) ∧ ∃ fs', (fs' = fs) ∧ Lft B h W fs' W' := by
  have HW := hide (remove_no B h u nv fs n a0 a1 a2 W H hd hval hn hs hb hok hno (he W (Below.refl _ _)))
  obtain ⟨na, nc, hnv0, _, _⟩ := id hs
  subst hnv0
  clear H hd hval hn hs he
  go_enter Tryz.func35, Tryz.ntmps35
  go_wp2_with fail
  refine HW.out.mono ?_
  rintro e w1 ⟨rfl, hL⟩
  have HP := hide hno
  have HL := hide hL
  clear hL
  go_wp2
  go_ret
  exact ⟨rfl, _, rfl, HL.out⟩

set_option maxHeartbeats 8000000 in
set_option maxRecDepth 100000 in
theorem implRemove_none (v nv : Value) (fs : List Fl) (n : List Int) (a0 a1 a2 : Addr) (w : World) (hv : RdF w.heap.size w v fs) (hd : Fss fs) (hval : validF fs = true) (hn : RdB w.heap.size w nv n) (hs : Sl nv n.length) (hb : Byt n) (hok : nameOK n = true) (hno : findF fs n = none) (he : Errs w a0 a1 a2) :
    Calls Tryz.prog 15 #[.agg #[v], nv] w fun e w' => ∃ v' fs', e = .returned (.tuple #[.agg #[v'], .int .i64 5]) ∧ (fs' = fs) ∧ RdF w'.heap.size w' v' fs' ∧ w.grownBy w' none := by
  obtain ⟨a, cap, hv0, _⟩ := id hv
  obtain ⟨na, nc, hnv0, _, _⟩ := id hs
  subst hv0 hnv0
  obtain ⟨w0, hw0⟩ : ∃ w0, w0 = ((w.alloc (Obj.cells #[.slice a fs.length cap] 25)).alloc (Obj.cells #[.slice na n.length nc] 22)).alloc (Obj.cells #[.slice none 0 0] 25) := ⟨_, rfl⟩
  have g0 : w.grownBy w0 none := by rw [hw0]; exact grown_trans (grown_trans (World.grownBy_alloc _ _ _) (World.grownBy_alloc _ _ _)) (World.grownBy_alloc _ _ _)
  have hk0 : w0.cell? ⟨w.heap.size + 1, 0, none⟩ = some (.slice na n.length nc) := by rw [hw0]; simp [go_sem]
  have r0 : w0.cell? ⟨w.heap.size + 1 + 1, 0, none⟩ = some (.slice none 0 0) := by rw [hw0]; simp [go_sem]
  have f0 : w0.frozen? ⟨w.heap.size + 1 + 1, 0, none⟩ = false := by rw [hw0]; simp [go_sem]
  have s0 : w0.heap.size = w.heap.size + 3 := by rw [hw0]; simp
  have HN : Hid (∀ W : World, w.grownBy W none → RdB W.heap.size W (.slice na n.length nc) n) := fun W g => (hn.keep g).wideF g.size
  have HA := hide (afterFsRemove_none (.slice a fs.length cap) (.pointer (some ⟨w.heap.size + 1, 0, none⟩)) fs (fun fs' => (fs' = fs)) a0 a1 a2 w0 (hv.now g0) hd hval (he.keep g0) (fun B h u W gW hB H => clRemove_none B h u (.slice na n.length nc) ⟨w.heap.size + 1, 0, none⟩ fs n a0 a1 a2 W (gW.cell hk0 (by simp)) H hd hval (HN.out W (grown_trans g0 gW)) hs hb hok hno (fun W' hb => he.below ((below_of_grown (grown_trans g0 gW)).trans (hb.mono (by have := g0.size; omega))))))
  have HG0 := hide g0
  have HW0 := hide hw0
  rw [hw0] at HA
  clear hv hd hval he hn hs hk0 hw0
  go_enter Tryz.func15, Tryz.ntmps15
  go_wp2_with fail
  refine HA.out.mono ?_
  rintro e w1 ⟨v1, fs', rfl, hP, o1, g1⟩
  have HP := hide hP
  rw [← HW0.out] at o1 g1
  obtain ⟨rr, rf⟩ := grown_bothF g1 r0 f0
  obtain ⟨ua, uc, hu0⟩ := o1.sl
  have HO := hide (o1.setLow ⟨w.heap.size + 1 + 1, 0, none⟩ v1 (by rw [s0]; show w.heap.size + 1 + 1 < _; omega))
  have HG : Hid (w.grownBy (w1.setCell ⟨w.heap.size + 1 + 1, 0, none⟩ v1) none) := grown_of_below ((below_of_grown (grown_trans HG0.out g1)).setCell (by show w.heap.size ≤ w.heap.size + 1 + 1; omega) _)
  subst hu0
  clear o1 g1 hP r0 f0
  go_wp2
  refine bodyPost_ret (v := .tuple #[.agg #[(.slice ua fs'.length uc)], .int .i64 5]) (by simp [results, Tryz.results15, go_sem, rr]) rfl ?_
  exact ⟨_, fs', rfl, HP.out, HO.out.rd, HG.out⟩
end Go.Proofs.YtakkdniikhgpdaaGreatDoor

