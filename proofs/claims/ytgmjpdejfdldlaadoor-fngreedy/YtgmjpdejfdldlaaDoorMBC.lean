import Derived.Test.YtgmjpdejfdldlaaDoorMAY
namespace Go.Proofs.YtgmjpdejfdldlaaDoor
open Go.RowKit
attribute [-go_sem] Builtin.append_

theorem infoMt : (Tryd.prog.info? 42).map (fun i => (i.zero, i.size, i.bytes)) = some (some (.agg #[.int .i64 0, .int .i64 0]), 2, 16) := by kernel_rfl
theorem cellsM_len : ∀ (l : List (Int × Int)), (cellsM l).length = l.length * 2
  | [] => rfl
  | x :: r => by simp only [cellsM, List.length_cons, cellsM_len r]; omega
theorem cellsM_snoc : ∀ (l : List (Int × Int)) (x : Int × Int), cellsM (l ++ [x]) = cellsM l ++ [.int .i64 x.1, .int .i64 x.2]
  | [], x => rfl
  | y :: r, x => by simp only [List.cons_append, cellsM, cellsM_snoc r x]
/-- A group is listed. -/
theorem WkR.meet {H Wb : Nat} {w : World} {dv gv : Value} {last : Int} {fl : Bool} {S : WS} {tv lv : Value} (h : WkR H Wb w dv gv last fl S tv lv) (hH : H ≤ w.heap.size) (g : Int) (hll : S.list.length ≤ 1000000000) :
    ∃ lv' w', (Builtin.append_ #[36, 36] 36 #[lv, .slice (some ⟨w.heap.size, 0, none⟩) 1 1]).run Tryd.prog (w.alloc (Obj.cells #[.int .i64 g, .int .i64 S.bytes] 42)) = .ok lv' w' ∧
      WkR H Wb (w'.setCell ⟨Wb, 6, none⟩ lv') dv gv last fl { S with list := S.list ++ [(g, S.bytes)] } tv lv' ∧ Below H w (w'.setCell ⟨Wb, 6, none⟩ lv') ∧ (w'.cell? ⟨Wb, 6, none⟩ = some lv ∧ w'.cell? ⟨Wb, 7, none⟩ = some (.int .i64 S.bytes) ∧ w'.frozen? ⟨Wb, 6, none⟩ = false) ∧ ∃ a c, lv' = .slice a (S.list.length + 1) c := by
  obtain ⟨i0, hi, hz0, hz1, hz2⟩ := info_parts infoMt
  have gA := World.grownBy_alloc w (Obj.cells #[.int .i64 g, .int .i64 S.bytes] 42) none
  have hsA : (w.alloc (Obj.cells #[.int .i64 g, .int .i64 S.bytes] 42)).heap.size = w.heap.size + 1 := by simp
  have hA := h.keep gA
  obtain ⟨lv', w', hrun, h1, h2, _, h4⟩ := run_append_own_at (P := Tryd.prog) (w.alloc (Obj.cells #[.int .i64 g, .int .i64 S.bytes] 42)) H 36 36 42 i0 (.agg #[.int .i64 0, .int .i64 0]) 2 16 Tryd.underlying36 hi hz0 hz1 hz2 rfl (by decide) lv S.list.length (cellsM S.list) hA.ls ⟨w.heap.size, 0, none⟩ 1 1 [.int .i64 g, .int .i64 S.bytes] rfl
    (fun j u hj => by
      rw [Addr.add_lit, Nat.zero_add]
      match j, hj with
      | 0, hj => simp at hj; subst hj; simp [go_sem]
      | 1, hj => simp at hj; subst hj; simp [go_sem]
      | j + 2, hj => simp at hj)
    (fun u hu => by simp at hu; rcases hu with rfl | rfl <;> rfl) (by unfold maxLen; omega) (by omega) (by omega)
  have hWne : some Wb ≠ lv.ownBlock := fun e => h.lw e.symm
  have hWlt : Wb < w.heap.size := h.lt
  have hblk : w'.heap[Wb]? = some (.cells #[dv, gv, .int .i64 last, .bool fl, .bool S.past, tv, lv, .int .i64 S.bytes] 38 (0, 0)) := (h2.block Wb (by omega) hWne).trans hA.blk
  have hset := grown_set w' ⟨Wb, 6, none⟩ lv'
  have hlvne : lv'.ownBlock ≠ some Wb := by
    rcases h4 with e | e
    · rw [e]; exact h.lw
    · rw [e]; intro e'; simp at e'; omega
  have hsl : ∃ a c, lv' = .slice a (S.list.length + 1) c := by
    rcases h1.2 with ⟨_, h0⟩ | ⟨g', cap, cur, hv, _⟩
    · omega
    · exact ⟨_, _, hv⟩
  have htl : ∀ x, tv.ownBlock = some x → some x ≠ lv.ownBlock := fun x e e' => h.tl x e e'.symm
  refine ⟨lv', w', hrun, ⟨heap_setCell_same w' Wb 6 _ _ _ hblk, h.lo, ?_, ?_, h.tw, hlvne, fun x e e' => ?_⟩, ?_, ⟨?_, ?_, ?_⟩, hsl⟩
  · exact World.ownsRow.kept (World.ownsRow.kept hA.tk h2 (by
      cases e : tv.ownBlock with
      | none => exact .inl rfl
      | some x => exact .inr (htl x e))) hset (.inr h.tw)
  · have h1' := World.ownsRow.kept h1 hset (.inr hlvne)
    show (w'.setCell ⟨Wb, 6, none⟩ lv').ownsRow H 42 2 lv' (S.list ++ [(g, S.bytes)]).length (cellsM (S.list ++ [(g, S.bytes)]))
    rw [cellsM_snoc, List.length_append]
    exact h1'
  · rcases h4 with e4 | e4
    · rw [e4] at e'; exact h.tl x e e'
    · rw [e4] at e'
      have := (World.ownsRow.lt h.tk x e).2
      simp at e'
      omega
  · exact (((Below.refl H w).alloc hH _).grown h2 (by omega) (fun k e => (World.ownsRow.lt hA.ls k e).1)).setCell (p := ⟨Wb, 6, none⟩) h.lo _
  · rw [cell_of_row w' Wb 6 _ _ _ hblk]; rfl
  · rw [cell_of_row w' Wb 7 _ _ _ hblk]; rfl
  · exact frozen_of_row w' Wb 6 _ _ hblk
theorem WkR.pastT {H Wb : Nat} {w : World} {dv gv : Value} {last : Int} {fl : Bool} {S : WS} {tv lv : Value} (h : WkR H Wb w dv gv last fl S tv lv) : WkR H Wb (w.setCell ⟨Wb, 4, none⟩ (.bool true)) dv gv last fl { S with past := true } tv lv := by
  have g := grown_set w ⟨Wb, 4, none⟩ (.bool true)
  exact ⟨heap_setCell_same w Wb 4 _ _ _ h.blk, h.lo, World.ownsRow.kept h.tk g (.inr h.tw), World.ownsRow.kept h.ls g (.inr h.lw), h.tw, h.lw, h.tl⟩

set_option maxHeartbeats 4000000 in
set_option maxRecDepth 100000 in
theorem gp_pet {H Wb : Nat} {dv gv : Value} {gs : List Int} {last : Int} {fl : Bool} {doc : List Pc} {tv : Value} (hn : doc.length ≤ 1048576) {p : Pc} {a n : Nat} {x : Tr} (hp : doc[a]? = some p) (hk : p.k = 8) (hga : grp doc a = n + cntG x) (hgl : n + cntG x < gs.length) (ihf : ∀ lv, FlAt H Wb dv gv last fl doc tv lv (.un p x) n (a + 1))   (fr ind : Int) (S : WS) (lv : Value) (w : World) (hW : WkR H Wb w dv gv last fl S tv lv) (hd : RdP H w dv doc) (hgv : RdI H w gv gs) (hH : H ≤ w.heap.size) (hb0 : 0 ≤ S.bytes) (hb1 : S.bytes + 4001 * sz (.un p x) ≤ 1000000000000) (hll : S.list.length + sz (.un p x) ≤ 1000000000) (hg : n + cntG (.un p x) ≤ S.taken.length) (hok : okN (.un p x)) (hi0 : 0 ≤ ind) (hi1 : ind + nestT (.un p x) ≤ 4000) (hpast : S.past = true) (he :  ((n + cntG x : Nat) : Int) = last) (hfl : fl = true) :
    Calls Tryd.prog 27 #[.pointer (some ⟨Wb, 0, none⟩), .int .i64 fr, .int .i64 ((a + 1 : Nat) : Int), .int .i64 ind] w fun e w' => e = .returned (.tuple #[]) ∧ (∃ lv', WkR H Wb w' dv gv last fl (goT gs last fl (.un p x) n ind S) tv lv') ∧ Below H w w' := by
  have hnU := hn
  have hokU := hok
  have hi0U := hi0
  have hi1U := hi1
  have hllU := hll
  obtain ⟨ha, hpa⟩ := List.getElem?_eq_some_iff.1 hp
  obtain ⟨b, off, cap, tx, hdv, hbH, hP⟩ := hd.at a ha
  rw [hpa] at hP
  obtain ⟨c0, c1, c2, c3, c4, c5, c6, c7, cf⟩ := hW.cell
  have k0 := hP.k
  have k1 := hP.t
  have k2 := hP.n
  have cf7 := cf 7
  have hin : (a : Int) < (doc.length : Int) := by omega
  obtain ⟨ta, tc, htx, htl, htm⟩ := hP.sl
  subst htx
  have hWlt := hW.lt
  have hlo := hW.lo
  have gA := fun k => World.grownBy_alloc w (Obj.cells #[.int .i64 k, .slice ta p.t.length tc, .int .i64 p.n] 40) none
  have HW := hide hW
  have HD := hide hd
  subst hdv
  rw [show ((a + 1 : Nat) : Int) = (a : Int) + 1 by omega]
  simp only [cntG, nestT, sz, okN] at hg hi1 hb1 hok hll
  rw [if_pos hk] at hg
  have gd : w.grownBy (w.alloc (Obj.cells #[.int .i64 8, .slice ta p.t.length tc, .int .i64 p.n] 40)).drew none := grown_trans (gA 8) ⟨rfl, rfl, rfl, Nat.le_refl _, fun _ _ _ => rfl⟩
  have hsA := (gA 8).size
  have hsz : (w.alloc (Obj.cells #[.int .i64 8, .slice ta p.t.length tc, .int .i64 p.n] 40)).drew.heap.size = w.heap.size + 1 := by simp
  have HG := hide (groupsTo_any _ doc a (w.alloc (Obj.cells #[.int .i64 8, .slice ta p.t.length tc, .int .i64 p.n] 40)) ((hd.keep (gA 8)).wide (by omega)) hn (by omega))
  rw [hga] at HG
  obtain ⟨lv', w', hrun, hW2, hB2, ⟨d6, d7, df6⟩, la, lc, hlv'⟩ := (hW.keep gd).meet (by omega) ((n + cntG x : Nat) : Int) (by omega)
  rw [hsz] at hrun
  replace hrun : (Builtin.append_ #[36, 36] 36 #[lv, .slice (some ⟨w.heap.size + 1, 0, none⟩) 1 1]).run Tryd.prog ((w.alloc (Obj.cells #[.int .i64 8, .slice ta p.t.length tc, .int .i64 p.n] 40)).alloc (Obj.cells #[.int .i64 ((n + cntG x : Nat) : Int), .int .i64 S.bytes] 42)).drew = .ok lv' w' := hrun
  have cc6 := gd.cell c6 (by simp)
  have cc7 := gd.cell c7 (by simp)
  have gE := World.grownBy_alloc (w.alloc (Obj.cells #[.int .i64 8, .slice ta p.t.length tc, .int .i64 p.n] 40)).drew (Obj.cells #[.int .i64 ((n + cntG x : Nat) : Int), .int .i64 S.bytes] 42) none
  have ce6 := gE.cell cc6 (by simp)
  have ce7 := gE.cell cc7 (by simp)
  have hBw := (((Below.refl H w).alloc hH (Obj.cells #[.int .i64 8, .slice ta p.t.length tc, .int .i64 p.n] 40)).drew).trans hB2
  have hgv2 := Rd.below hgv hBw
  have hd2 := hd.below hBw
  obtain ⟨la0, lc0, hlv0⟩ : ∃ a c, lv = .slice a S.list.length c := by
    rcases hW.ls.2 with ⟨h1, h2⟩ | ⟨g', cap', cur, h1, _⟩
    · exact ⟨none, 0, by rw [h1, h2]⟩
    · exact ⟨_, _, h1⟩
  have hsz2 := hBw.size
  have HM : Hid (meetS last (n + cntG x) S = { past := true, taken := S.taken, list := S.list ++ [(((n + cntG x : Nat) : Int), S.bytes)], bytes := S.bytes }) := by unfold Hid meetS; rw [hpast, decide_eq_true he]; rfl
  have HF : Hid (isFl gs last fl (n + cntG x) S = true) := by unfold Hid isFl; rw [if_pos he, hfl]
  have HS : Hid (goT gs last fl (.un p x) n ind S = flS (.un p x) n (meetS last (n + cntG x) S)) := by unfold Hid; rw [goT, if_neg (by omega), if_pos HF.out]
  rw [hk] at k0
  have hGint : ((n + cntG x : Nat) : Int) ≤ 1000000000 := by have := grp_le doc a; omega
  have hGt : n + cntG x < S.taken.length := by omega
  have qe : (((n + cntG x : Nat) : Int) == last) = true := by simpa using he
  have hflb := flB_le (.un p x)
  simp only [sz] at hflb
  have HG8 := hide hg
  have hmore : n + cntG x + 1 ≤ S.taken.length := by omega
  subst hfl
  clear he
  have hgU := hgl
  generalize n + cntG x = G at *
  clear hP cf HW HD
  go_enter Tryd.func27, Tryd.ntmps27
  go_wp2_with fail
  refine HG.out.mono ?_
  rintro e w1 ⟨rfl, rfl⟩
  clear HG
  go_wp2
  obtain ⟨I, hI⟩ : ∃ I : World → Prop, I = (fun W : World => W.cell? ⟨Wb, 6, none⟩ = some lv ∧ W.cell? ⟨Wb, 7, none⟩ = some (.int .i64 S.bytes)) := ⟨_, rfl⟩
  have HI0 : I (w.alloc (Obj.cells #[.int .i64 8, .slice ta p.t.length tc, .int .i64 p.n] 40)).drew := by rw [hI]; exact ⟨cc6, cc7⟩
  have HI1 : I ((w.alloc (Obj.cells #[.int .i64 8, .slice ta p.t.length tc, .int .i64 p.n] 40)).alloc (Obj.cells #[.int .i64 (G : Int), .int .i64 S.bytes] 42)).drew := by rw [hI]; exact ⟨ce6, ce7⟩
  have HI2 : I w' := by rw [hI]; exact ⟨d6, d7⟩
  refine region_anyI I (fun i => i == 15) (by kernel_rfl) ?_
  show anyI _ _ _ _ _ _ 16 (Array.replicate 16 false) _ _
  refine anyI_take (i := 0) (.pointer (some ⟨Wb, 0, none⟩)) rfl (by kernel_rfl) (by kernel_rfl) (by kernel_rfl) (by kernel_rfl) (fun _ _ _ h => h) HI0 (yldI rfl (fun W hW => by rw [hI] at hW; obtain ⟨h6, h7⟩ := hW; go_simp)) ?_
  refine anyI_take (i := 1) (.pointer (some ⟨Wb, 0, none⟩)) rfl (by kernel_rfl) (by kernel_rfl) (by kernel_rfl) (by kernel_rfl) (fun _ _ _ h => h) HI0 (yldI rfl (fun W hW => by rw [hI] at hW; obtain ⟨h6, h7⟩ := hW; go_simp)) ?_
  refine anyI_take (i := 2) (.pointer (some ⟨Wb, 0, none⟩)) rfl (by kernel_rfl) (by kernel_rfl) (by kernel_rfl) (by kernel_rfl) (fun _ _ _ h => h) HI0 (yldI rfl (fun W hW => by rw [hI] at hW; obtain ⟨h6, h7⟩ := hW; go_simp)) ?_
  refine anyI_take (i := 3) (.pointer (some ⟨Wb, 6, none⟩)) rfl (by kernel_rfl) (by kernel_rfl) (by kernel_rfl) (by kernel_rfl) (fun _ _ _ h => h) HI0 (yldI rfl (fun W hW => by rw [hI] at hW; obtain ⟨h6, h7⟩ := hW; go_simp)) ?_
  refine anyI_take (i := 4) (lv) rfl (by kernel_rfl) (by kernel_rfl) (by kernel_rfl) (by kernel_rfl) (fun _ _ _ h => h) HI0 (yldI rfl (fun W hW => by rw [hI] at hW; obtain ⟨h6, h7⟩ := hW; go_simp)) ?_
  refine anyI_take (i := 5) (.int .i64 (G : Int)) rfl (by kernel_rfl) (by kernel_rfl) (by kernel_rfl) (by kernel_rfl) (fun _ _ _ h => h) HI0 (yldI rfl (fun W hW => by rw [hI] at hW; obtain ⟨h6, h7⟩ := hW; go_simp)) ?_
  refine anyI_take (i := 6) (.pointer (some ⟨Wb, 0, none⟩)) rfl (by kernel_rfl) (by kernel_rfl) (by kernel_rfl) (by kernel_rfl) (fun _ _ _ h => h) HI0 (yldI rfl (fun W hW => by rw [hI] at hW; obtain ⟨h6, h7⟩ := hW; go_simp)) ?_
  refine anyI_take (i := 7) (.pointer (some ⟨Wb, 0, none⟩)) rfl (by kernel_rfl) (by kernel_rfl) (by kernel_rfl) (by kernel_rfl) (fun _ _ _ h => h) HI0 (yldI rfl (fun W hW => by rw [hI] at hW; obtain ⟨h6, h7⟩ := hW; go_simp)) ?_
  refine anyI_take (i := 8) (.pointer (some ⟨Wb, 7, none⟩)) rfl (by kernel_rfl) (by kernel_rfl) (by kernel_rfl) (by kernel_rfl) (fun _ _ _ h => h) HI0 (yldI rfl (fun W hW => by rw [hI] at hW; obtain ⟨h6, h7⟩ := hW; go_simp)) ?_
  refine anyI_take (i := 9) (.int .i64 S.bytes) rfl (by kernel_rfl) (by kernel_rfl) (by kernel_rfl) (by kernel_rfl) (fun _ _ _ h => h) HI0 (yldI rfl (fun W hW => by rw [hI] at hW; obtain ⟨h6, h7⟩ := hW; go_simp)) ?_
  generalize hGG : Act.put _ _ _ = A0
  simp [Act.put] at hGG
  subst hGG
  subst hlv' hlv0
  refine anyI_one (i := 10) (by kernel_rfl) (wpOp_val (w' := (w.alloc (Obj.cells #[.int .i64 8, .slice ta p.t.length tc, .int .i64 p.n] 40)).drew) (v := .agg #[.int .i64 (G : Int), .int .i64 S.bytes]) rfl rfl (by go_simp) ⟨.inr HI0, ?_⟩)
  refine anyI_one (i := 11) (by kernel_rfl) (wpOp_val (w' := ((w.alloc (Obj.cells #[.int .i64 8, .slice ta p.t.length tc, .int .i64 p.n] 40)).alloc (Obj.cells #[.int .i64 (G : Int), .int .i64 S.bytes] 42)).drew) (v := .slice (some ⟨w.heap.size + 1, 0, none⟩) 1 1) rfl rfl (by go_simp) ⟨.inr HI1, ?_⟩)
  refine anyI_one (i := 12) (by kernel_rfl) (wpOp_val (w' := w') (v := .slice la (S.list.length + 1) lc) rfl rfl (by go_simp) ⟨.inr HI2, ?_⟩)
  refine anyI_one (i := 13) (by kernel_rfl) (wpOp_val (w' := w') (v := .pointer (some ⟨Wb, 0, none⟩)) rfl rfl (by go_simp) ⟨.inr HI2, ?_⟩)
  refine anyI_one (i := 14) (by kernel_rfl) (wpOp_val (w' := w') (v := .pointer (some ⟨Wb, 6, none⟩)) rfl rfl (by go_simp) ⟨.inr HI2, ?_⟩)
  refine anyI_one (i := 15) (by kernel_rfl) (wpOp_skip (w' := w'.setCell ⟨Wb, 6, none⟩ (.slice la (S.list.length + 1) lc)) rfl rfl (by go_simp) ⟨.inl rfl, ?_⟩)
  refine anyI_done (by kernel_rfl) ?_ _
  subst hI
  clear HI0 HI1 HI2 hrun d6 d7 df6 cc6 cc7 ce6 ce7 gE c0 c1 c2 c3 c4 c5 c6 c7 k0 k1 k2 cf7 gd gA
  generalize w'.setCell ⟨Wb, 6, none⟩ (.slice la (S.list.length + 1) lc) = w2 at *
  obtain ⟨c0, c1, c2, c3, c4, c5, c6, c7, cf⟩ := hW2.cell
  have cf4 := cf 4
  simp only [hpast] at c4
  obtain ⟨ga, gc, hgv0, hgr⟩ := id hgv2
  subst hgv0
  obtain ⟨tg, tcap, htv, tc0, tcf, htH⟩ := hW2.row (j := G) hGt
  have hW3 := hW2.pastT
  have hB3 := hBw.setCell (p := ⟨Wb, 4, none⟩) (by simpa using hlo) (.bool true)
  have IH := hide (ihf _ fr { past := true, taken := S.taken, list := S.list ++ [((G : Int), S.bytes)], bytes := S.bytes } (w2.setCell ⟨Wb, 4, none⟩ (.bool true)) hW3 (hd.below hB3) (by have := hB3.size; omega) hb0 (by show S.bytes + flB (.un p x) ≤ _; omega) (by simp only [cntG]; rw [if_pos hk]; exact hg))
  rw [show ((a + 1 : Nat) : Int) = (a : Int) + 1 by omega] at IH
  have HB3 := hide hB3
  clear hW3 hB3 hW2 hBw hgv2 hd2 hgr ihf HF cf hk hgv hd hW hB2
  go_wp2_with fail
  refine IH.out.mono ?_
  rintro e w3 ⟨rfl, W1, B1⟩
  have HW1 := hide W1
  have HB1 := hide (HB3.out.trans B1)
  clear IH W1 B1
  go_wp2
  go_returns
  rw [HS.out, HM.out]
  exact ⟨rfl, ⟨_, HW1.out⟩, HB1.out⟩

set_option maxHeartbeats 4000000 in
set_option maxRecDepth 100000 in
theorem gp_pef {H Wb : Nat} {dv gv : Value} {gs : List Int} {last : Int} {fl : Bool} {doc : List Pc} {tv : Value} (hn : doc.length ≤ 1048576) {p : Pc} {a n : Nat} {x : Tr} (hp : doc[a]? = some p) (hk : p.k = 8) (hga : grp doc a = n + cntG x) (hgl : n + cntG x < gs.length) (ih : GoAt H Wb dv gv gs last fl doc tv x n a)   (fr ind : Int) (S : WS) (lv : Value) (w : World) (hW : WkR H Wb w dv gv last fl S tv lv) (hd : RdP H w dv doc) (hgv : RdI H w gv gs) (hH : H ≤ w.heap.size) (hb0 : 0 ≤ S.bytes) (hb1 : S.bytes + 4001 * sz (.un p x) ≤ 1000000000000) (hll : S.list.length + sz (.un p x) ≤ 1000000000) (hg : n + cntG (.un p x) ≤ S.taken.length) (hok : okN (.un p x)) (hi0 : 0 ≤ ind) (hi1 : ind + nestT (.un p x) ≤ 4000) (hpast : S.past = true) (he :  ((n + cntG x : Nat) : Int) = last) (hfl : fl = false) :
    Calls Tryd.prog 27 #[.pointer (some ⟨Wb, 0, none⟩), .int .i64 fr, .int .i64 ((a + 1 : Nat) : Int), .int .i64 ind] w fun e w' => e = .returned (.tuple #[]) ∧ (∃ lv', WkR H Wb w' dv gv last fl (goT gs last fl (.un p x) n ind S) tv lv') ∧ Below H w w' := by
  have hnU := hn
  have hokU := hok
  have hi0U := hi0
  have hi1U := hi1
  have hllU := hll
  obtain ⟨ha, hpa⟩ := List.getElem?_eq_some_iff.1 hp
  obtain ⟨b, off, cap, tx, hdv, hbH, hP⟩ := hd.at a ha
  rw [hpa] at hP
  obtain ⟨c0, c1, c2, c3, c4, c5, c6, c7, cf⟩ := hW.cell
  have k0 := hP.k
  have k1 := hP.t
  have k2 := hP.n
  have cf7 := cf 7
  have hin : (a : Int) < (doc.length : Int) := by omega
  obtain ⟨ta, tc, htx, htl, htm⟩ := hP.sl
  subst htx
  have hWlt := hW.lt
  have hlo := hW.lo
  have gA := fun k => World.grownBy_alloc w (Obj.cells #[.int .i64 k, .slice ta p.t.length tc, .int .i64 p.n] 40) none
  have HW := hide hW
  have HD := hide hd
  subst hdv
  rw [show ((a + 1 : Nat) : Int) = (a : Int) + 1 by omega]
  simp only [cntG, nestT, sz, okN] at hg hi1 hb1 hok hll
  rw [if_pos hk] at hg
  have gd : w.grownBy (w.alloc (Obj.cells #[.int .i64 8, .slice ta p.t.length tc, .int .i64 p.n] 40)).drew none := grown_trans (gA 8) ⟨rfl, rfl, rfl, Nat.le_refl _, fun _ _ _ => rfl⟩
  have hsA := (gA 8).size
  have hsz : (w.alloc (Obj.cells #[.int .i64 8, .slice ta p.t.length tc, .int .i64 p.n] 40)).drew.heap.size = w.heap.size + 1 := by simp
  have HG := hide (groupsTo_any _ doc a (w.alloc (Obj.cells #[.int .i64 8, .slice ta p.t.length tc, .int .i64 p.n] 40)) ((hd.keep (gA 8)).wide (by omega)) hn (by omega))
  rw [hga] at HG
  obtain ⟨lv', w', hrun, hW2, hB2, ⟨d6, d7, df6⟩, la, lc, hlv'⟩ := (hW.keep gd).meet (by omega) ((n + cntG x : Nat) : Int) (by omega)
  rw [hsz] at hrun
  replace hrun : (Builtin.append_ #[36, 36] 36 #[lv, .slice (some ⟨w.heap.size + 1, 0, none⟩) 1 1]).run Tryd.prog ((w.alloc (Obj.cells #[.int .i64 8, .slice ta p.t.length tc, .int .i64 p.n] 40)).alloc (Obj.cells #[.int .i64 ((n + cntG x : Nat) : Int), .int .i64 S.bytes] 42)).drew = .ok lv' w' := hrun
  have cc6 := gd.cell c6 (by simp)
  have cc7 := gd.cell c7 (by simp)
  have gE := World.grownBy_alloc (w.alloc (Obj.cells #[.int .i64 8, .slice ta p.t.length tc, .int .i64 p.n] 40)).drew (Obj.cells #[.int .i64 ((n + cntG x : Nat) : Int), .int .i64 S.bytes] 42) none
  have ce6 := gE.cell cc6 (by simp)
  have ce7 := gE.cell cc7 (by simp)
  have hBw := (((Below.refl H w).alloc hH (Obj.cells #[.int .i64 8, .slice ta p.t.length tc, .int .i64 p.n] 40)).drew).trans hB2
  have hgv2 := Rd.below hgv hBw
  have hd2 := hd.below hBw
  obtain ⟨la0, lc0, hlv0⟩ : ∃ a c, lv = .slice a S.list.length c := by
    rcases hW.ls.2 with ⟨h1, h2⟩ | ⟨g', cap', cur, h1, _⟩
    · exact ⟨none, 0, by rw [h1, h2]⟩
    · exact ⟨_, _, h1⟩
  have hsz2 := hBw.size
  have HM : Hid (meetS last (n + cntG x) S = { past := true, taken := S.taken, list := S.list ++ [(((n + cntG x : Nat) : Int), S.bytes)], bytes := S.bytes }) := by unfold Hid meetS; rw [hpast, decide_eq_true he]; rfl
  have HF : Hid (isFl gs last fl (n + cntG x) S = false) := by unfold Hid isFl; rw [if_pos he, hfl]
  have HS : Hid (goT gs last fl (.un p x) n ind S = goT gs last fl x n ind (putS (n + cntG x) (meetS last (n + cntG x) S))) := by unfold Hid; rw [goT, if_neg (by omega), HF.out]; simp
  rw [hk] at k0
  have hGint : ((n + cntG x : Nat) : Int) ≤ 1000000000 := by have := grp_le doc a; omega
  have hGt : n + cntG x < S.taken.length := by omega
  have qe : (((n + cntG x : Nat) : Int) == last) = true := by simpa using he
  have hflb := flB_le (.un p x)
  simp only [sz] at hflb
  have HG8 := hide hg
  have hmore : n + cntG x + 1 ≤ S.taken.length := by omega
  subst hfl
  clear he
  have hgU := hgl
  generalize n + cntG x = G at *
  clear hP cf HW HD
  go_enter Tryd.func27, Tryd.ntmps27
  go_wp2_with fail
  refine HG.out.mono ?_
  rintro e w1 ⟨rfl, rfl⟩
  clear HG
  go_wp2
  obtain ⟨I, hI⟩ : ∃ I : World → Prop, I = (fun W : World => W.cell? ⟨Wb, 6, none⟩ = some lv ∧ W.cell? ⟨Wb, 7, none⟩ = some (.int .i64 S.bytes)) := ⟨_, rfl⟩
  have HI0 : I (w.alloc (Obj.cells #[.int .i64 8, .slice ta p.t.length tc, .int .i64 p.n] 40)).drew := by rw [hI]; exact ⟨cc6, cc7⟩
  have HI1 : I ((w.alloc (Obj.cells #[.int .i64 8, .slice ta p.t.length tc, .int .i64 p.n] 40)).alloc (Obj.cells #[.int .i64 (G : Int), .int .i64 S.bytes] 42)).drew := by rw [hI]; exact ⟨ce6, ce7⟩
  have HI2 : I w' := by rw [hI]; exact ⟨d6, d7⟩
  refine region_anyI I (fun i => i == 15) (by kernel_rfl) ?_
  show anyI _ _ _ _ _ _ 16 (Array.replicate 16 false) _ _
  refine anyI_take (i := 0) (.pointer (some ⟨Wb, 0, none⟩)) rfl (by kernel_rfl) (by kernel_rfl) (by kernel_rfl) (by kernel_rfl) (fun _ _ _ h => h) HI0 (yldI rfl (fun W hW => by rw [hI] at hW; obtain ⟨h6, h7⟩ := hW; go_simp)) ?_
  refine anyI_take (i := 1) (.pointer (some ⟨Wb, 0, none⟩)) rfl (by kernel_rfl) (by kernel_rfl) (by kernel_rfl) (by kernel_rfl) (fun _ _ _ h => h) HI0 (yldI rfl (fun W hW => by rw [hI] at hW; obtain ⟨h6, h7⟩ := hW; go_simp)) ?_
  refine anyI_take (i := 2) (.pointer (some ⟨Wb, 0, none⟩)) rfl (by kernel_rfl) (by kernel_rfl) (by kernel_rfl) (by kernel_rfl) (fun _ _ _ h => h) HI0 (yldI rfl (fun W hW => by rw [hI] at hW; obtain ⟨h6, h7⟩ := hW; go_simp)) ?_
  refine anyI_take (i := 3) (.pointer (some ⟨Wb, 6, none⟩)) rfl (by kernel_rfl) (by kernel_rfl) (by kernel_rfl) (by kernel_rfl) (fun _ _ _ h => h) HI0 (yldI rfl (fun W hW => by rw [hI] at hW; obtain ⟨h6, h7⟩ := hW; go_simp)) ?_
  refine anyI_take (i := 4) (lv) rfl (by kernel_rfl) (by kernel_rfl) (by kernel_rfl) (by kernel_rfl) (fun _ _ _ h => h) HI0 (yldI rfl (fun W hW => by rw [hI] at hW; obtain ⟨h6, h7⟩ := hW; go_simp)) ?_
  refine anyI_take (i := 5) (.int .i64 (G : Int)) rfl (by kernel_rfl) (by kernel_rfl) (by kernel_rfl) (by kernel_rfl) (fun _ _ _ h => h) HI0 (yldI rfl (fun W hW => by rw [hI] at hW; obtain ⟨h6, h7⟩ := hW; go_simp)) ?_
  refine anyI_take (i := 6) (.pointer (some ⟨Wb, 0, none⟩)) rfl (by kernel_rfl) (by kernel_rfl) (by kernel_rfl) (by kernel_rfl) (fun _ _ _ h => h) HI0 (yldI rfl (fun W hW => by rw [hI] at hW; obtain ⟨h6, h7⟩ := hW; go_simp)) ?_
  refine anyI_take (i := 7) (.pointer (some ⟨Wb, 0, none⟩)) rfl (by kernel_rfl) (by kernel_rfl) (by kernel_rfl) (by kernel_rfl) (fun _ _ _ h => h) HI0 (yldI rfl (fun W hW => by rw [hI] at hW; obtain ⟨h6, h7⟩ := hW; go_simp)) ?_
  refine anyI_take (i := 8) (.pointer (some ⟨Wb, 7, none⟩)) rfl (by kernel_rfl) (by kernel_rfl) (by kernel_rfl) (by kernel_rfl) (fun _ _ _ h => h) HI0 (yldI rfl (fun W hW => by rw [hI] at hW; obtain ⟨h6, h7⟩ := hW; go_simp)) ?_
  refine anyI_take (i := 9) (.int .i64 S.bytes) rfl (by kernel_rfl) (by kernel_rfl) (by kernel_rfl) (by kernel_rfl) (fun _ _ _ h => h) HI0 (yldI rfl (fun W hW => by rw [hI] at hW; obtain ⟨h6, h7⟩ := hW; go_simp)) ?_
  generalize hGG : Act.put _ _ _ = A0
  simp [Act.put] at hGG
  subst hGG
  subst hlv' hlv0
  refine anyI_one (i := 10) (by kernel_rfl) (wpOp_val (w' := (w.alloc (Obj.cells #[.int .i64 8, .slice ta p.t.length tc, .int .i64 p.n] 40)).drew) (v := .agg #[.int .i64 (G : Int), .int .i64 S.bytes]) rfl rfl (by go_simp) ⟨.inr HI0, ?_⟩)
  refine anyI_one (i := 11) (by kernel_rfl) (wpOp_val (w' := ((w.alloc (Obj.cells #[.int .i64 8, .slice ta p.t.length tc, .int .i64 p.n] 40)).alloc (Obj.cells #[.int .i64 (G : Int), .int .i64 S.bytes] 42)).drew) (v := .slice (some ⟨w.heap.size + 1, 0, none⟩) 1 1) rfl rfl (by go_simp) ⟨.inr HI1, ?_⟩)
  refine anyI_one (i := 12) (by kernel_rfl) (wpOp_val (w' := w') (v := .slice la (S.list.length + 1) lc) rfl rfl (by go_simp) ⟨.inr HI2, ?_⟩)
  refine anyI_one (i := 13) (by kernel_rfl) (wpOp_val (w' := w') (v := .pointer (some ⟨Wb, 0, none⟩)) rfl rfl (by go_simp) ⟨.inr HI2, ?_⟩)
  refine anyI_one (i := 14) (by kernel_rfl) (wpOp_val (w' := w') (v := .pointer (some ⟨Wb, 6, none⟩)) rfl rfl (by go_simp) ⟨.inr HI2, ?_⟩)
  refine anyI_one (i := 15) (by kernel_rfl) (wpOp_skip (w' := w'.setCell ⟨Wb, 6, none⟩ (.slice la (S.list.length + 1) lc)) rfl rfl (by go_simp) ⟨.inl rfl, ?_⟩)
  refine anyI_done (by kernel_rfl) ?_ _
  subst hI
  clear HI0 HI1 HI2 hrun d6 d7 df6 cc6 cc7 ce6 ce7 gE c0 c1 c2 c3 c4 c5 c6 c7 k0 k1 k2 cf7 gd gA
  generalize w'.setCell ⟨Wb, 6, none⟩ (.slice la (S.list.length + 1) lc) = w2 at *
  obtain ⟨c0, c1, c2, c3, c4, c5, c6, c7, cf⟩ := hW2.cell
  have cf4 := cf 4
  simp only [hpast] at c4
  obtain ⟨ga, gc, hgv0, hgr⟩ := id hgv2
  subst hgv0
  obtain ⟨tg, tcap, htv, tc0, tcf, htH⟩ := hW2.row (j := G) hGt
  have hW3 := hW2.pastT
  have hB3 := hBw.setCell (p := ⟨Wb, 4, none⟩) (by simpa using hlo) (.bool true)
  subst htv
  have hW4 := hW3.put (G) 2
  have hB4 := hB3.setCell (p := ⟨tg, G, none⟩) htH (.int .i64 2)
  have IH := hide (ih fr ind _ _ _ hW4 (hd.below hB4) (Rd.below hgv hB4) (by have := hB4.size; omega) hb0 (by show S.bytes + _ ≤ _; omega) (by show (S.list ++ _).length + _ ≤ _; rw [List.length_append]; simp only [List.length_cons, List.length_nil]; omega) (by show _ ≤ (S.taken.set _ _).length; rw [List.length_set]; omega) hok.2 hi0 (by have := nestT_pos x hok.2; omega))
  have hti : (G : Int) < (S.taken.length : Int) := by omega
  have HB3 := hide hB4
  have htWb : ¬ tg = Wb := fun e => hW2.tw (by rw [e]; rfl)
  clear hW3 hB3 hW4 hB4 hW2 hBw hgv2 hd2 hgr ih HF cf hk hgv hd hW hB2
  go_wp2_with fail
  refine IH.out.mono ?_
  rintro e w3 ⟨rfl, W1, B1⟩
  have HW1 := hide W1
  have HB1 := hide (HB3.out.trans B1)
  clear IH W1 B1
  go_wp2
  go_returns
  rw [HS.out, HM.out]
  exact ⟨rfl, HW1.out, HB1.out⟩

set_option maxHeartbeats 4000000 in
set_option maxRecDepth 100000 in
theorem gp_po {H Wb : Nat} {dv gv : Value} {gs : List Int} {last : Int} {fl : Bool} {doc : List Pc} {tv : Value} (hn : doc.length ≤ 1048576) {p : Pc} {a n : Nat} {x : Tr} (hp : doc[a]? = some p) (hk : p.k = 8) (hga : grp doc a = n + cntG x) (hgl : n + cntG x < gs.length) (ih : GoAt H Wb dv gv gs last fl doc tv x n a)   (fr ind : Int) (S : WS) (lv : Value) (w : World) (hW : WkR H Wb w dv gv last fl S tv lv) (hd : RdP H w dv doc) (hgv : RdI H w gv gs) (hH : H ≤ w.heap.size) (hb0 : 0 ≤ S.bytes) (hb1 : S.bytes + 4001 * sz (.un p x) ≤ 1000000000000) (hll : S.list.length + sz (.un p x) ≤ 1000000000) (hg : n + cntG (.un p x) ≤ S.taken.length) (hok : okN (.un p x)) (hi0 : 0 ≤ ind) (hi1 : ind + nestT (.un p x) ≤ 4000) (hpast : S.past = true) (he : ¬ ((n + cntG x : Nat) : Int) = last) :
    Calls Tryd.prog 27 #[.pointer (some ⟨Wb, 0, none⟩), .int .i64 fr, .int .i64 ((a + 1 : Nat) : Int), .int .i64 ind] w fun e w' => e = .returned (.tuple #[]) ∧ (∃ lv', WkR H Wb w' dv gv last fl (goT gs last fl (.un p x) n ind S) tv lv') ∧ Below H w w' := by
  have hnU := hn
  have hokU := hok
  have hi0U := hi0
  have hi1U := hi1
  have hllU := hll
  obtain ⟨ha, hpa⟩ := List.getElem?_eq_some_iff.1 hp
  obtain ⟨b, off, cap, tx, hdv, hbH, hP⟩ := hd.at a ha
  rw [hpa] at hP
  obtain ⟨c0, c1, c2, c3, c4, c5, c6, c7, cf⟩ := hW.cell
  have k0 := hP.k
  have k1 := hP.t
  have k2 := hP.n
  have cf7 := cf 7
  have hin : (a : Int) < (doc.length : Int) := by omega
  obtain ⟨ta, tc, htx, htl, htm⟩ := hP.sl
  subst htx
  have hWlt := hW.lt
  have hlo := hW.lo
  have gA := fun k => World.grownBy_alloc w (Obj.cells #[.int .i64 k, .slice ta p.t.length tc, .int .i64 p.n] 40) none
  have HW := hide hW
  have HD := hide hd
  subst hdv
  rw [show ((a + 1 : Nat) : Int) = (a : Int) + 1 by omega]
  simp only [cntG, nestT, sz, okN] at hg hi1 hb1 hok hll
  rw [if_pos hk] at hg
  have gd : w.grownBy (w.alloc (Obj.cells #[.int .i64 8, .slice ta p.t.length tc, .int .i64 p.n] 40)).drew none := grown_trans (gA 8) ⟨rfl, rfl, rfl, Nat.le_refl _, fun _ _ _ => rfl⟩
  have hsA := (gA 8).size
  have hsz : (w.alloc (Obj.cells #[.int .i64 8, .slice ta p.t.length tc, .int .i64 p.n] 40)).drew.heap.size = w.heap.size + 1 := by simp
  have HG := hide (groupsTo_any _ doc a (w.alloc (Obj.cells #[.int .i64 8, .slice ta p.t.length tc, .int .i64 p.n] 40)) ((hd.keep (gA 8)).wide (by omega)) hn (by omega))
  rw [hga] at HG
  obtain ⟨lv', w', hrun, hW2, hB2, ⟨d6, d7, df6⟩, la, lc, hlv'⟩ := (hW.keep gd).meet (by omega) ((n + cntG x : Nat) : Int) (by omega)
  rw [hsz] at hrun
  replace hrun : (Builtin.append_ #[36, 36] 36 #[lv, .slice (some ⟨w.heap.size + 1, 0, none⟩) 1 1]).run Tryd.prog ((w.alloc (Obj.cells #[.int .i64 8, .slice ta p.t.length tc, .int .i64 p.n] 40)).alloc (Obj.cells #[.int .i64 ((n + cntG x : Nat) : Int), .int .i64 S.bytes] 42)).drew = .ok lv' w' := hrun
  have cc6 := gd.cell c6 (by simp)
  have cc7 := gd.cell c7 (by simp)
  have gE := World.grownBy_alloc (w.alloc (Obj.cells #[.int .i64 8, .slice ta p.t.length tc, .int .i64 p.n] 40)).drew (Obj.cells #[.int .i64 ((n + cntG x : Nat) : Int), .int .i64 S.bytes] 42) none
  have ce6 := gE.cell cc6 (by simp)
  have ce7 := gE.cell cc7 (by simp)
  have hBw := (((Below.refl H w).alloc hH (Obj.cells #[.int .i64 8, .slice ta p.t.length tc, .int .i64 p.n] 40)).drew).trans hB2
  have hgv2 := Rd.below hgv hBw
  have hd2 := hd.below hBw
  obtain ⟨la0, lc0, hlv0⟩ : ∃ a c, lv = .slice a S.list.length c := by
    rcases hW.ls.2 with ⟨h1, h2⟩ | ⟨g', cap', cur, h1, _⟩
    · exact ⟨none, 0, by rw [h1, h2]⟩
    · exact ⟨_, _, h1⟩
  have hsz2 := hBw.size
  have HM : Hid (meetS last (n + cntG x) S = { past := true, taken := S.taken, list := S.list ++ [(((n + cntG x : Nat) : Int), S.bytes)], bytes := S.bytes }) := by unfold Hid meetS; rw [hpast, decide_eq_false he]; rfl
  have HF : Hid (isFl gs last fl (n + cntG x) S = false) := by unfold Hid isFl; rw [if_neg he, hpast]; simp
  have HS : Hid (goT gs last fl (.un p x) n ind S = goT gs last fl x n ind (putS (n + cntG x) (meetS last (n + cntG x) S))) := by unfold Hid; rw [goT, if_neg (by omega), HF.out]; simp
  rw [hk] at k0
  have hGint : ((n + cntG x : Nat) : Int) ≤ 1000000000 := by have := grp_le doc a; omega
  have hGt : n + cntG x < S.taken.length := by omega
  have qe : (((n + cntG x : Nat) : Int) == last) = false := by simpa using he
  have hflb := flB_le (.un p x)
  simp only [sz] at hflb
  have HG8 := hide hg
  have hmore : n + cntG x + 1 ≤ S.taken.length := by omega
  have hgU := hgl
  generalize n + cntG x = G at *
  clear hP cf HW HD
  go_enter Tryd.func27, Tryd.ntmps27
  go_wp2_with fail
  refine HG.out.mono ?_
  rintro e w1 ⟨rfl, rfl⟩
  clear HG
  go_wp2
  obtain ⟨I, hI⟩ : ∃ I : World → Prop, I = (fun W : World => W.cell? ⟨Wb, 6, none⟩ = some lv ∧ W.cell? ⟨Wb, 7, none⟩ = some (.int .i64 S.bytes)) := ⟨_, rfl⟩
  have HI0 : I (w.alloc (Obj.cells #[.int .i64 8, .slice ta p.t.length tc, .int .i64 p.n] 40)).drew := by rw [hI]; exact ⟨cc6, cc7⟩
  have HI1 : I ((w.alloc (Obj.cells #[.int .i64 8, .slice ta p.t.length tc, .int .i64 p.n] 40)).alloc (Obj.cells #[.int .i64 (G : Int), .int .i64 S.bytes] 42)).drew := by rw [hI]; exact ⟨ce6, ce7⟩
  have HI2 : I w' := by rw [hI]; exact ⟨d6, d7⟩
  refine region_anyI I (fun i => i == 15) (by kernel_rfl) ?_
  show anyI _ _ _ _ _ _ 16 (Array.replicate 16 false) _ _
  refine anyI_take (i := 0) (.pointer (some ⟨Wb, 0, none⟩)) rfl (by kernel_rfl) (by kernel_rfl) (by kernel_rfl) (by kernel_rfl) (fun _ _ _ h => h) HI0 (yldI rfl (fun W hW => by rw [hI] at hW; obtain ⟨h6, h7⟩ := hW; go_simp)) ?_
  refine anyI_take (i := 1) (.pointer (some ⟨Wb, 0, none⟩)) rfl (by kernel_rfl) (by kernel_rfl) (by kernel_rfl) (by kernel_rfl) (fun _ _ _ h => h) HI0 (yldI rfl (fun W hW => by rw [hI] at hW; obtain ⟨h6, h7⟩ := hW; go_simp)) ?_
  refine anyI_take (i := 2) (.pointer (some ⟨Wb, 0, none⟩)) rfl (by kernel_rfl) (by kernel_rfl) (by kernel_rfl) (by kernel_rfl) (fun _ _ _ h => h) HI0 (yldI rfl (fun W hW => by rw [hI] at hW; obtain ⟨h6, h7⟩ := hW; go_simp)) ?_
  refine anyI_take (i := 3) (.pointer (some ⟨Wb, 6, none⟩)) rfl (by kernel_rfl) (by kernel_rfl) (by kernel_rfl) (by kernel_rfl) (fun _ _ _ h => h) HI0 (yldI rfl (fun W hW => by rw [hI] at hW; obtain ⟨h6, h7⟩ := hW; go_simp)) ?_
  refine anyI_take (i := 4) (lv) rfl (by kernel_rfl) (by kernel_rfl) (by kernel_rfl) (by kernel_rfl) (fun _ _ _ h => h) HI0 (yldI rfl (fun W hW => by rw [hI] at hW; obtain ⟨h6, h7⟩ := hW; go_simp)) ?_
  refine anyI_take (i := 5) (.int .i64 (G : Int)) rfl (by kernel_rfl) (by kernel_rfl) (by kernel_rfl) (by kernel_rfl) (fun _ _ _ h => h) HI0 (yldI rfl (fun W hW => by rw [hI] at hW; obtain ⟨h6, h7⟩ := hW; go_simp)) ?_
  refine anyI_take (i := 6) (.pointer (some ⟨Wb, 0, none⟩)) rfl (by kernel_rfl) (by kernel_rfl) (by kernel_rfl) (by kernel_rfl) (fun _ _ _ h => h) HI0 (yldI rfl (fun W hW => by rw [hI] at hW; obtain ⟨h6, h7⟩ := hW; go_simp)) ?_
  refine anyI_take (i := 7) (.pointer (some ⟨Wb, 0, none⟩)) rfl (by kernel_rfl) (by kernel_rfl) (by kernel_rfl) (by kernel_rfl) (fun _ _ _ h => h) HI0 (yldI rfl (fun W hW => by rw [hI] at hW; obtain ⟨h6, h7⟩ := hW; go_simp)) ?_
  refine anyI_take (i := 8) (.pointer (some ⟨Wb, 7, none⟩)) rfl (by kernel_rfl) (by kernel_rfl) (by kernel_rfl) (by kernel_rfl) (fun _ _ _ h => h) HI0 (yldI rfl (fun W hW => by rw [hI] at hW; obtain ⟨h6, h7⟩ := hW; go_simp)) ?_
  refine anyI_take (i := 9) (.int .i64 S.bytes) rfl (by kernel_rfl) (by kernel_rfl) (by kernel_rfl) (by kernel_rfl) (fun _ _ _ h => h) HI0 (yldI rfl (fun W hW => by rw [hI] at hW; obtain ⟨h6, h7⟩ := hW; go_simp)) ?_
  generalize hGG : Act.put _ _ _ = A0
  simp [Act.put] at hGG
  subst hGG
  subst hlv' hlv0
  refine anyI_one (i := 10) (by kernel_rfl) (wpOp_val (w' := (w.alloc (Obj.cells #[.int .i64 8, .slice ta p.t.length tc, .int .i64 p.n] 40)).drew) (v := .agg #[.int .i64 (G : Int), .int .i64 S.bytes]) rfl rfl (by go_simp) ⟨.inr HI0, ?_⟩)
  refine anyI_one (i := 11) (by kernel_rfl) (wpOp_val (w' := ((w.alloc (Obj.cells #[.int .i64 8, .slice ta p.t.length tc, .int .i64 p.n] 40)).alloc (Obj.cells #[.int .i64 (G : Int), .int .i64 S.bytes] 42)).drew) (v := .slice (some ⟨w.heap.size + 1, 0, none⟩) 1 1) rfl rfl (by go_simp) ⟨.inr HI1, ?_⟩)
  refine anyI_one (i := 12) (by kernel_rfl) (wpOp_val (w' := w') (v := .slice la (S.list.length + 1) lc) rfl rfl (by go_simp) ⟨.inr HI2, ?_⟩)
  refine anyI_one (i := 13) (by kernel_rfl) (wpOp_val (w' := w') (v := .pointer (some ⟨Wb, 0, none⟩)) rfl rfl (by go_simp) ⟨.inr HI2, ?_⟩)
  refine anyI_one (i := 14) (by kernel_rfl) (wpOp_val (w' := w') (v := .pointer (some ⟨Wb, 6, none⟩)) rfl rfl (by go_simp) ⟨.inr HI2, ?_⟩)
  refine anyI_one (i := 15) (by kernel_rfl) (wpOp_skip (w' := w'.setCell ⟨Wb, 6, none⟩ (.slice la (S.list.length + 1) lc)) rfl rfl (by go_simp) ⟨.inl rfl, ?_⟩)
  refine anyI_done (by kernel_rfl) ?_ _
  subst hI
  clear HI0 HI1 HI2 hrun d6 d7 df6 cc6 cc7 ce6 ce7 gE c0 c1 c2 c3 c4 c5 c6 c7 k0 k1 k2 cf7 gd gA
  generalize w'.setCell ⟨Wb, 6, none⟩ (.slice la (S.list.length + 1) lc) = w2 at *
  obtain ⟨c0, c1, c2, c3, c4, c5, c6, c7, cf⟩ := hW2.cell
  have cf4 := cf 4
  simp only [hpast] at c4
  obtain ⟨ga, gc, hgv0, hgr⟩ := id hgv2
  subst hgv0
  obtain ⟨tg, tcap, htv, tc0, tcf, htH⟩ := hW2.row (j := G) hGt
  have hW3 := hW2
  have hB3 := hBw
  have hS3 : { S with list := S.list ++ [((G : Int), S.bytes)] } = ({ past := true, taken := S.taken, list := S.list ++ [((G : Int), S.bytes)], bytes := S.bytes } : WS) := by rw [← hpast]
  rw [hS3] at hW3
  subst htv
  have hW4 := hW3.put (G) 2
  have hB4 := hB3.setCell (p := ⟨tg, G, none⟩) htH (.int .i64 2)
  have IH := hide (ih fr ind _ _ _ hW4 (hd.below hB4) (Rd.below hgv hB4) (by have := hB4.size; omega) hb0 (by show S.bytes + _ ≤ _; omega) (by show (S.list ++ _).length + _ ≤ _; rw [List.length_append]; simp only [List.length_cons, List.length_nil]; omega) (by show _ ≤ (S.taken.set _ _).length; rw [List.length_set]; omega) hok.2 hi0 (by have := nestT_pos x hok.2; omega))
  have hti : (G : Int) < (S.taken.length : Int) := by omega
  have HB3 := hide hB4
  have htWb : ¬ tg = Wb := fun e => hW2.tw (by rw [e]; rfl)
  clear hW3 hB3 hW4 hB4 hW2 hBw hgv2 hd2 hgr ih HF cf hk hgv hd hW hB2
  go_wp2_with fail
  refine IH.out.mono ?_
  rintro e w3 ⟨rfl, W1, B1⟩
  have HW1 := hide W1
  have HB1 := hide (HB3.out.trans B1)
  clear IH W1 B1
  go_wp2
  go_returns
  rw [HS.out, HM.out]
  exact ⟨rfl, HW1.out, HB1.out⟩

set_option maxHeartbeats 4000000 in
set_option maxRecDepth 100000 in
theorem gp_qet {H Wb : Nat} {dv gv : Value} {gs : List Int} {last : Int} {fl : Bool} {doc : List Pc} {tv : Value} (hn : doc.length ≤ 1048576) {p : Pc} {a n : Nat} {x : Tr} (hp : doc[a]? = some p) (hk : p.k = 8) (hga : grp doc a = n + cntG x) (hgl : n + cntG x < gs.length) (ihf : ∀ lv, FlAt H Wb dv gv last fl doc tv lv (.un p x) n (a + 1))   (fr ind : Int) (S : WS) (lv : Value) (w : World) (hW : WkR H Wb w dv gv last fl S tv lv) (hd : RdP H w dv doc) (hgv : RdI H w gv gs) (hH : H ≤ w.heap.size) (hb0 : 0 ≤ S.bytes) (hb1 : S.bytes + 4001 * sz (.un p x) ≤ 1000000000000) (hll : S.list.length + sz (.un p x) ≤ 1000000000) (hg : n + cntG (.un p x) ≤ S.taken.length) (hok : okN (.un p x)) (hi0 : 0 ≤ ind) (hi1 : ind + nestT (.un p x) ≤ 4000) (hpast : S.past = false) (hq :  gs[n + cntG x]?.getD 0 = 1) (he :  ((n + cntG x : Nat) : Int) = last) (hfl : fl = true) :
    Calls Tryd.prog 27 #[.pointer (some ⟨Wb, 0, none⟩), .int .i64 fr, .int .i64 ((a + 1 : Nat) : Int), .int .i64 ind] w fun e w' => e = .returned (.tuple #[]) ∧ (∃ lv', WkR H Wb w' dv gv last fl (goT gs last fl (.un p x) n ind S) tv lv') ∧ Below H w w' := by
  have hnU := hn
  have hokU := hok
  have hi0U := hi0
  have hi1U := hi1
  have hllU := hll
  obtain ⟨ha, hpa⟩ := List.getElem?_eq_some_iff.1 hp
  obtain ⟨b, off, cap, tx, hdv, hbH, hP⟩ := hd.at a ha
  rw [hpa] at hP
  obtain ⟨c0, c1, c2, c3, c4, c5, c6, c7, cf⟩ := hW.cell
  have k0 := hP.k
  have k1 := hP.t
  have k2 := hP.n
  have cf7 := cf 7
  have hin : (a : Int) < (doc.length : Int) := by omega
  obtain ⟨ta, tc, htx, htl, htm⟩ := hP.sl
  subst htx
  have hWlt := hW.lt
  have hlo := hW.lo
  have gA := fun k => World.grownBy_alloc w (Obj.cells #[.int .i64 k, .slice ta p.t.length tc, .int .i64 p.n] 40) none
  have HW := hide hW
  have HD := hide hd
  subst hdv
  rw [show ((a + 1 : Nat) : Int) = (a : Int) + 1 by omega]
  simp only [cntG, nestT, sz, okN] at hg hi1 hb1 hok hll
  rw [if_pos hk] at hg
  have gd : w.grownBy (w.alloc (Obj.cells #[.int .i64 8, .slice ta p.t.length tc, .int .i64 p.n] 40)).drew none := grown_trans (gA 8) ⟨rfl, rfl, rfl, Nat.le_refl _, fun _ _ _ => rfl⟩
  have hsA := (gA 8).size
  have hsz : (w.alloc (Obj.cells #[.int .i64 8, .slice ta p.t.length tc, .int .i64 p.n] 40)).drew.heap.size = w.heap.size + 1 := by simp
  have HG := hide (groupsTo_any _ doc a (w.alloc (Obj.cells #[.int .i64 8, .slice ta p.t.length tc, .int .i64 p.n] 40)) ((hd.keep (gA 8)).wide (by omega)) hn (by omega))
  rw [hga] at HG
  obtain ⟨lv', w', hrun, hW2, hB2, ⟨d6, d7, df6⟩, la, lc, hlv'⟩ := (hW.keep gd).meet (by omega) ((n + cntG x : Nat) : Int) (by omega)
  rw [hsz] at hrun
  replace hrun : (Builtin.append_ #[36, 36] 36 #[lv, .slice (some ⟨w.heap.size + 1, 0, none⟩) 1 1]).run Tryd.prog ((w.alloc (Obj.cells #[.int .i64 8, .slice ta p.t.length tc, .int .i64 p.n] 40)).alloc (Obj.cells #[.int .i64 ((n + cntG x : Nat) : Int), .int .i64 S.bytes] 42)).drew = .ok lv' w' := hrun
  have cc6 := gd.cell c6 (by simp)
  have cc7 := gd.cell c7 (by simp)
  have gE := World.grownBy_alloc (w.alloc (Obj.cells #[.int .i64 8, .slice ta p.t.length tc, .int .i64 p.n] 40)).drew (Obj.cells #[.int .i64 ((n + cntG x : Nat) : Int), .int .i64 S.bytes] 42) none
  have ce6 := gE.cell cc6 (by simp)
  have ce7 := gE.cell cc7 (by simp)
  have hBw := (((Below.refl H w).alloc hH (Obj.cells #[.int .i64 8, .slice ta p.t.length tc, .int .i64 p.n] 40)).drew).trans hB2
  have hgv2 := Rd.below hgv hBw
  have hd2 := hd.below hBw
  obtain ⟨la0, lc0, hlv0⟩ : ∃ a c, lv = .slice a S.list.length c := by
    rcases hW.ls.2 with ⟨h1, h2⟩ | ⟨g', cap', cur, h1, _⟩
    · exact ⟨none, 0, by rw [h1, h2]⟩
    · exact ⟨_, _, h1⟩
  have hsz2 := hBw.size
  have HM : Hid (meetS last (n + cntG x) S = { past := true, taken := S.taken, list := S.list ++ [(((n + cntG x : Nat) : Int), S.bytes)], bytes := S.bytes }) := by unfold Hid meetS; rw [hpast, decide_eq_true he]; rfl
  have HF : Hid (isFl gs last fl (n + cntG x) S = true) := by unfold Hid isFl; rw [if_pos he, hfl]
  have HS : Hid (goT gs last fl (.un p x) n ind S = flS (.un p x) n (meetS last (n + cntG x) S)) := by unfold Hid; rw [goT, if_neg (by omega), if_pos HF.out]
  rw [hk] at k0
  have hGint : ((n + cntG x : Nat) : Int) ≤ 1000000000 := by have := grp_le doc a; omega
  have hGt : n + cntG x < S.taken.length := by omega
  have qe : (((n + cntG x : Nat) : Int) == last) = true := by simpa using he
  have hflb := flB_le (.un p x)
  simp only [sz] at hflb
  have HG8 := hide hg
  have hmore : n + cntG x + 1 ≤ S.taken.length := by omega
  subst hfl
  clear he
  have hgU := hgl
  generalize n + cntG x = G at *
  clear hP cf HW HD
  go_enter Tryd.func27, Tryd.ntmps27
  go_wp2_with fail
  refine HG.out.mono ?_
  rintro e w1 ⟨rfl, rfl⟩
  clear HG
  go_wp2
  obtain ⟨I, hI⟩ : ∃ I : World → Prop, I = (fun W : World => W.cell? ⟨Wb, 6, none⟩ = some lv ∧ W.cell? ⟨Wb, 7, none⟩ = some (.int .i64 S.bytes)) := ⟨_, rfl⟩
  have HI0 : I (w.alloc (Obj.cells #[.int .i64 8, .slice ta p.t.length tc, .int .i64 p.n] 40)).drew := by rw [hI]; exact ⟨cc6, cc7⟩
  have HI1 : I ((w.alloc (Obj.cells #[.int .i64 8, .slice ta p.t.length tc, .int .i64 p.n] 40)).alloc (Obj.cells #[.int .i64 (G : Int), .int .i64 S.bytes] 42)).drew := by rw [hI]; exact ⟨ce6, ce7⟩
  have HI2 : I w' := by rw [hI]; exact ⟨d6, d7⟩
  refine region_anyI I (fun i => i == 15) (by kernel_rfl) ?_
  show anyI _ _ _ _ _ _ 16 (Array.replicate 16 false) _ _
  refine anyI_take (i := 0) (.pointer (some ⟨Wb, 0, none⟩)) rfl (by kernel_rfl) (by kernel_rfl) (by kernel_rfl) (by kernel_rfl) (fun _ _ _ h => h) HI0 (yldI rfl (fun W hW => by rw [hI] at hW; obtain ⟨h6, h7⟩ := hW; go_simp)) ?_
  refine anyI_take (i := 1) (.pointer (some ⟨Wb, 0, none⟩)) rfl (by kernel_rfl) (by kernel_rfl) (by kernel_rfl) (by kernel_rfl) (fun _ _ _ h => h) HI0 (yldI rfl (fun W hW => by rw [hI] at hW; obtain ⟨h6, h7⟩ := hW; go_simp)) ?_
  refine anyI_take (i := 2) (.pointer (some ⟨Wb, 0, none⟩)) rfl (by kernel_rfl) (by kernel_rfl) (by kernel_rfl) (by kernel_rfl) (fun _ _ _ h => h) HI0 (yldI rfl (fun W hW => by rw [hI] at hW; obtain ⟨h6, h7⟩ := hW; go_simp)) ?_
  refine anyI_take (i := 3) (.pointer (some ⟨Wb, 6, none⟩)) rfl (by kernel_rfl) (by kernel_rfl) (by kernel_rfl) (by kernel_rfl) (fun _ _ _ h => h) HI0 (yldI rfl (fun W hW => by rw [hI] at hW; obtain ⟨h6, h7⟩ := hW; go_simp)) ?_
  refine anyI_take (i := 4) (lv) rfl (by kernel_rfl) (by kernel_rfl) (by kernel_rfl) (by kernel_rfl) (fun _ _ _ h => h) HI0 (yldI rfl (fun W hW => by rw [hI] at hW; obtain ⟨h6, h7⟩ := hW; go_simp)) ?_
  refine anyI_take (i := 5) (.int .i64 (G : Int)) rfl (by kernel_rfl) (by kernel_rfl) (by kernel_rfl) (by kernel_rfl) (fun _ _ _ h => h) HI0 (yldI rfl (fun W hW => by rw [hI] at hW; obtain ⟨h6, h7⟩ := hW; go_simp)) ?_
  refine anyI_take (i := 6) (.pointer (some ⟨Wb, 0, none⟩)) rfl (by kernel_rfl) (by kernel_rfl) (by kernel_rfl) (by kernel_rfl) (fun _ _ _ h => h) HI0 (yldI rfl (fun W hW => by rw [hI] at hW; obtain ⟨h6, h7⟩ := hW; go_simp)) ?_
  refine anyI_take (i := 7) (.pointer (some ⟨Wb, 0, none⟩)) rfl (by kernel_rfl) (by kernel_rfl) (by kernel_rfl) (by kernel_rfl) (fun _ _ _ h => h) HI0 (yldI rfl (fun W hW => by rw [hI] at hW; obtain ⟨h6, h7⟩ := hW; go_simp)) ?_
  refine anyI_take (i := 8) (.pointer (some ⟨Wb, 7, none⟩)) rfl (by kernel_rfl) (by kernel_rfl) (by kernel_rfl) (by kernel_rfl) (fun _ _ _ h => h) HI0 (yldI rfl (fun W hW => by rw [hI] at hW; obtain ⟨h6, h7⟩ := hW; go_simp)) ?_
  refine anyI_take (i := 9) (.int .i64 S.bytes) rfl (by kernel_rfl) (by kernel_rfl) (by kernel_rfl) (by kernel_rfl) (fun _ _ _ h => h) HI0 (yldI rfl (fun W hW => by rw [hI] at hW; obtain ⟨h6, h7⟩ := hW; go_simp)) ?_
  generalize hGG : Act.put _ _ _ = A0
  simp [Act.put] at hGG
  subst hGG
  subst hlv' hlv0
  refine anyI_one (i := 10) (by kernel_rfl) (wpOp_val (w' := (w.alloc (Obj.cells #[.int .i64 8, .slice ta p.t.length tc, .int .i64 p.n] 40)).drew) (v := .agg #[.int .i64 (G : Int), .int .i64 S.bytes]) rfl rfl (by go_simp) ⟨.inr HI0, ?_⟩)
  refine anyI_one (i := 11) (by kernel_rfl) (wpOp_val (w' := ((w.alloc (Obj.cells #[.int .i64 8, .slice ta p.t.length tc, .int .i64 p.n] 40)).alloc (Obj.cells #[.int .i64 (G : Int), .int .i64 S.bytes] 42)).drew) (v := .slice (some ⟨w.heap.size + 1, 0, none⟩) 1 1) rfl rfl (by go_simp) ⟨.inr HI1, ?_⟩)
  refine anyI_one (i := 12) (by kernel_rfl) (wpOp_val (w' := w') (v := .slice la (S.list.length + 1) lc) rfl rfl (by go_simp) ⟨.inr HI2, ?_⟩)
  refine anyI_one (i := 13) (by kernel_rfl) (wpOp_val (w' := w') (v := .pointer (some ⟨Wb, 0, none⟩)) rfl rfl (by go_simp) ⟨.inr HI2, ?_⟩)
  refine anyI_one (i := 14) (by kernel_rfl) (wpOp_val (w' := w') (v := .pointer (some ⟨Wb, 6, none⟩)) rfl rfl (by go_simp) ⟨.inr HI2, ?_⟩)
  refine anyI_one (i := 15) (by kernel_rfl) (wpOp_skip (w' := w'.setCell ⟨Wb, 6, none⟩ (.slice la (S.list.length + 1) lc)) rfl rfl (by go_simp) ⟨.inl rfl, ?_⟩)
  refine anyI_done (by kernel_rfl) ?_ _
  subst hI
  clear HI0 HI1 HI2 hrun d6 d7 df6 cc6 cc7 ce6 ce7 gE c0 c1 c2 c3 c4 c5 c6 c7 k0 k1 k2 cf7 gd gA
  generalize w'.setCell ⟨Wb, 6, none⟩ (.slice la (S.list.length + 1) lc) = w2 at *
  obtain ⟨c0, c1, c2, c3, c4, c5, c6, c7, cf⟩ := hW2.cell
  have cf4 := cf 4
  simp only [hpast] at c4
  obtain ⟨ga, gc, hgv0, hgr⟩ := id hgv2
  subst hgv0
  obtain ⟨tg, tcap, htv, tc0, tcf, htH⟩ := hW2.row (j := G) hGt
  obtain ⟨gb, goff, hga0, hgb, hgc⟩ := hgr (fun e => by rw [e] at hgl; simp at hgl)
  subst hga0
  have gx := hgc (G) hgl
  have qz : (gs[G]?.getD 0 == 1) = true := by simpa using hq
  have hgI : (G : Int) < (gs.length : Int) := by omega
  clear hgc
  generalize gs[G]?.getD 0 = z at gx qz
  have hW3 := hW2.pastT
  have hB3 := hBw.setCell (p := ⟨Wb, 4, none⟩) (by simpa using hlo) (.bool true)
  have IH := hide (ihf _ fr { past := true, taken := S.taken, list := S.list ++ [((G : Int), S.bytes)], bytes := S.bytes } (w2.setCell ⟨Wb, 4, none⟩ (.bool true)) hW3 (hd.below hB3) (by have := hB3.size; omega) hb0 (by show S.bytes + flB (.un p x) ≤ _; omega) (by simp only [cntG]; rw [if_pos hk]; exact hg))
  rw [show ((a + 1 : Nat) : Int) = (a : Int) + 1 by omega] at IH
  have HB3 := hide hB3
  clear hW3 hB3 hW2 hBw hgv2 hd2 hgr ihf HF cf hk hgv hd hW hB2
  go_wp2_with fail
  refine IH.out.mono ?_
  rintro e w3 ⟨rfl, W1, B1⟩
  have HW1 := hide W1
  have HB1 := hide (HB3.out.trans B1)
  clear IH W1 B1
  go_wp2
  go_returns
  rw [HS.out, HM.out]
  exact ⟨rfl, ⟨_, HW1.out⟩, HB1.out⟩

set_option maxHeartbeats 4000000 in
set_option maxRecDepth 100000 in
theorem gp_qef {H Wb : Nat} {dv gv : Value} {gs : List Int} {last : Int} {fl : Bool} {doc : List Pc} {tv : Value} (hn : doc.length ≤ 1048576) {p : Pc} {a n : Nat} {x : Tr} (hp : doc[a]? = some p) (hk : p.k = 8) (hga : grp doc a = n + cntG x) (hgl : n + cntG x < gs.length) (ih : GoAt H Wb dv gv gs last fl doc tv x n a)   (fr ind : Int) (S : WS) (lv : Value) (w : World) (hW : WkR H Wb w dv gv last fl S tv lv) (hd : RdP H w dv doc) (hgv : RdI H w gv gs) (hH : H ≤ w.heap.size) (hb0 : 0 ≤ S.bytes) (hb1 : S.bytes + 4001 * sz (.un p x) ≤ 1000000000000) (hll : S.list.length + sz (.un p x) ≤ 1000000000) (hg : n + cntG (.un p x) ≤ S.taken.length) (hok : okN (.un p x)) (hi0 : 0 ≤ ind) (hi1 : ind + nestT (.un p x) ≤ 4000) (hpast : S.past = false) (hq :  gs[n + cntG x]?.getD 0 = 1) (he :  ((n + cntG x : Nat) : Int) = last) (hfl : fl = false) :
    Calls Tryd.prog 27 #[.pointer (some ⟨Wb, 0, none⟩), .int .i64 fr, .int .i64 ((a + 1 : Nat) : Int), .int .i64 ind] w fun e w' => e = .returned (.tuple #[]) ∧ (∃ lv', WkR H Wb w' dv gv last fl (goT gs last fl (.un p x) n ind S) tv lv') ∧ Below H w w' := by
  have hnU := hn
  have hokU := hok
  have hi0U := hi0
  have hi1U := hi1
  have hllU := hll
  obtain ⟨ha, hpa⟩ := List.getElem?_eq_some_iff.1 hp
  obtain ⟨b, off, cap, tx, hdv, hbH, hP⟩ := hd.at a ha
  rw [hpa] at hP
  obtain ⟨c0, c1, c2, c3, c4, c5, c6, c7, cf⟩ := hW.cell
  have k0 := hP.k
  have k1 := hP.t
  have k2 := hP.n
  have cf7 := cf 7
  have hin : (a : Int) < (doc.length : Int) := by omega
  obtain ⟨ta, tc, htx, htl, htm⟩ := hP.sl
  subst htx
  have hWlt := hW.lt
  have hlo := hW.lo
  have gA := fun k => World.grownBy_alloc w (Obj.cells #[.int .i64 k, .slice ta p.t.length tc, .int .i64 p.n] 40) none
  have HW := hide hW
  have HD := hide hd
  subst hdv
  rw [show ((a + 1 : Nat) : Int) = (a : Int) + 1 by omega]
  simp only [cntG, nestT, sz, okN] at hg hi1 hb1 hok hll
  rw [if_pos hk] at hg
  have gd : w.grownBy (w.alloc (Obj.cells #[.int .i64 8, .slice ta p.t.length tc, .int .i64 p.n] 40)).drew none := grown_trans (gA 8) ⟨rfl, rfl, rfl, Nat.le_refl _, fun _ _ _ => rfl⟩
  have hsA := (gA 8).size
  have hsz : (w.alloc (Obj.cells #[.int .i64 8, .slice ta p.t.length tc, .int .i64 p.n] 40)).drew.heap.size = w.heap.size + 1 := by simp
  have HG := hide (groupsTo_any _ doc a (w.alloc (Obj.cells #[.int .i64 8, .slice ta p.t.length tc, .int .i64 p.n] 40)) ((hd.keep (gA 8)).wide (by omega)) hn (by omega))
  rw [hga] at HG
  obtain ⟨lv', w', hrun, hW2, hB2, ⟨d6, d7, df6⟩, la, lc, hlv'⟩ := (hW.keep gd).meet (by omega) ((n + cntG x : Nat) : Int) (by omega)
  rw [hsz] at hrun
  replace hrun : (Builtin.append_ #[36, 36] 36 #[lv, .slice (some ⟨w.heap.size + 1, 0, none⟩) 1 1]).run Tryd.prog ((w.alloc (Obj.cells #[.int .i64 8, .slice ta p.t.length tc, .int .i64 p.n] 40)).alloc (Obj.cells #[.int .i64 ((n + cntG x : Nat) : Int), .int .i64 S.bytes] 42)).drew = .ok lv' w' := hrun
  have cc6 := gd.cell c6 (by simp)
  have cc7 := gd.cell c7 (by simp)
  have gE := World.grownBy_alloc (w.alloc (Obj.cells #[.int .i64 8, .slice ta p.t.length tc, .int .i64 p.n] 40)).drew (Obj.cells #[.int .i64 ((n + cntG x : Nat) : Int), .int .i64 S.bytes] 42) none
  have ce6 := gE.cell cc6 (by simp)
  have ce7 := gE.cell cc7 (by simp)
  have hBw := (((Below.refl H w).alloc hH (Obj.cells #[.int .i64 8, .slice ta p.t.length tc, .int .i64 p.n] 40)).drew).trans hB2
  have hgv2 := Rd.below hgv hBw
  have hd2 := hd.below hBw
  obtain ⟨la0, lc0, hlv0⟩ : ∃ a c, lv = .slice a S.list.length c := by
    rcases hW.ls.2 with ⟨h1, h2⟩ | ⟨g', cap', cur, h1, _⟩
    · exact ⟨none, 0, by rw [h1, h2]⟩
    · exact ⟨_, _, h1⟩
  have hsz2 := hBw.size
  have HM : Hid (meetS last (n + cntG x) S = { past := true, taken := S.taken, list := S.list ++ [(((n + cntG x : Nat) : Int), S.bytes)], bytes := S.bytes }) := by unfold Hid meetS; rw [hpast, decide_eq_true he]; rfl
  have HF : Hid (isFl gs last fl (n + cntG x) S = false) := by unfold Hid isFl; rw [if_pos he, hfl]
  have HS : Hid (goT gs last fl (.un p x) n ind S = goT gs last fl x n ind (putS (n + cntG x) (meetS last (n + cntG x) S))) := by unfold Hid; rw [goT, if_neg (by omega), HF.out]; simp
  rw [hk] at k0
  have hGint : ((n + cntG x : Nat) : Int) ≤ 1000000000 := by have := grp_le doc a; omega
  have hGt : n + cntG x < S.taken.length := by omega
  have qe : (((n + cntG x : Nat) : Int) == last) = true := by simpa using he
  have hflb := flB_le (.un p x)
  simp only [sz] at hflb
  have HG8 := hide hg
  have hmore : n + cntG x + 1 ≤ S.taken.length := by omega
  subst hfl
  clear he
  have hgU := hgl
  generalize n + cntG x = G at *
  clear hP cf HW HD
  go_enter Tryd.func27, Tryd.ntmps27
  go_wp2_with fail
  refine HG.out.mono ?_
  rintro e w1 ⟨rfl, rfl⟩
  clear HG
  go_wp2
  obtain ⟨I, hI⟩ : ∃ I : World → Prop, I = (fun W : World => W.cell? ⟨Wb, 6, none⟩ = some lv ∧ W.cell? ⟨Wb, 7, none⟩ = some (.int .i64 S.bytes)) := ⟨_, rfl⟩
  have HI0 : I (w.alloc (Obj.cells #[.int .i64 8, .slice ta p.t.length tc, .int .i64 p.n] 40)).drew := by rw [hI]; exact ⟨cc6, cc7⟩
  have HI1 : I ((w.alloc (Obj.cells #[.int .i64 8, .slice ta p.t.length tc, .int .i64 p.n] 40)).alloc (Obj.cells #[.int .i64 (G : Int), .int .i64 S.bytes] 42)).drew := by rw [hI]; exact ⟨ce6, ce7⟩
  have HI2 : I w' := by rw [hI]; exact ⟨d6, d7⟩
  refine region_anyI I (fun i => i == 15) (by kernel_rfl) ?_
  show anyI _ _ _ _ _ _ 16 (Array.replicate 16 false) _ _
  refine anyI_take (i := 0) (.pointer (some ⟨Wb, 0, none⟩)) rfl (by kernel_rfl) (by kernel_rfl) (by kernel_rfl) (by kernel_rfl) (fun _ _ _ h => h) HI0 (yldI rfl (fun W hW => by rw [hI] at hW; obtain ⟨h6, h7⟩ := hW; go_simp)) ?_
  refine anyI_take (i := 1) (.pointer (some ⟨Wb, 0, none⟩)) rfl (by kernel_rfl) (by kernel_rfl) (by kernel_rfl) (by kernel_rfl) (fun _ _ _ h => h) HI0 (yldI rfl (fun W hW => by rw [hI] at hW; obtain ⟨h6, h7⟩ := hW; go_simp)) ?_
  refine anyI_take (i := 2) (.pointer (some ⟨Wb, 0, none⟩)) rfl (by kernel_rfl) (by kernel_rfl) (by kernel_rfl) (by kernel_rfl) (fun _ _ _ h => h) HI0 (yldI rfl (fun W hW => by rw [hI] at hW; obtain ⟨h6, h7⟩ := hW; go_simp)) ?_
  refine anyI_take (i := 3) (.pointer (some ⟨Wb, 6, none⟩)) rfl (by kernel_rfl) (by kernel_rfl) (by kernel_rfl) (by kernel_rfl) (fun _ _ _ h => h) HI0 (yldI rfl (fun W hW => by rw [hI] at hW; obtain ⟨h6, h7⟩ := hW; go_simp)) ?_
  refine anyI_take (i := 4) (lv) rfl (by kernel_rfl) (by kernel_rfl) (by kernel_rfl) (by kernel_rfl) (fun _ _ _ h => h) HI0 (yldI rfl (fun W hW => by rw [hI] at hW; obtain ⟨h6, h7⟩ := hW; go_simp)) ?_
  refine anyI_take (i := 5) (.int .i64 (G : Int)) rfl (by kernel_rfl) (by kernel_rfl) (by kernel_rfl) (by kernel_rfl) (fun _ _ _ h => h) HI0 (yldI rfl (fun W hW => by rw [hI] at hW; obtain ⟨h6, h7⟩ := hW; go_simp)) ?_
  refine anyI_take (i := 6) (.pointer (some ⟨Wb, 0, none⟩)) rfl (by kernel_rfl) (by kernel_rfl) (by kernel_rfl) (by kernel_rfl) (fun _ _ _ h => h) HI0 (yldI rfl (fun W hW => by rw [hI] at hW; obtain ⟨h6, h7⟩ := hW; go_simp)) ?_
  refine anyI_take (i := 7) (.pointer (some ⟨Wb, 0, none⟩)) rfl (by kernel_rfl) (by kernel_rfl) (by kernel_rfl) (by kernel_rfl) (fun _ _ _ h => h) HI0 (yldI rfl (fun W hW => by rw [hI] at hW; obtain ⟨h6, h7⟩ := hW; go_simp)) ?_
  refine anyI_take (i := 8) (.pointer (some ⟨Wb, 7, none⟩)) rfl (by kernel_rfl) (by kernel_rfl) (by kernel_rfl) (by kernel_rfl) (fun _ _ _ h => h) HI0 (yldI rfl (fun W hW => by rw [hI] at hW; obtain ⟨h6, h7⟩ := hW; go_simp)) ?_
  refine anyI_take (i := 9) (.int .i64 S.bytes) rfl (by kernel_rfl) (by kernel_rfl) (by kernel_rfl) (by kernel_rfl) (fun _ _ _ h => h) HI0 (yldI rfl (fun W hW => by rw [hI] at hW; obtain ⟨h6, h7⟩ := hW; go_simp)) ?_
  generalize hGG : Act.put _ _ _ = A0
  simp [Act.put] at hGG
  subst hGG
  subst hlv' hlv0
  refine anyI_one (i := 10) (by kernel_rfl) (wpOp_val (w' := (w.alloc (Obj.cells #[.int .i64 8, .slice ta p.t.length tc, .int .i64 p.n] 40)).drew) (v := .agg #[.int .i64 (G : Int), .int .i64 S.bytes]) rfl rfl (by go_simp) ⟨.inr HI0, ?_⟩)
  refine anyI_one (i := 11) (by kernel_rfl) (wpOp_val (w' := ((w.alloc (Obj.cells #[.int .i64 8, .slice ta p.t.length tc, .int .i64 p.n] 40)).alloc (Obj.cells #[.int .i64 (G : Int), .int .i64 S.bytes] 42)).drew) (v := .slice (some ⟨w.heap.size + 1, 0, none⟩) 1 1) rfl rfl (by go_simp) ⟨.inr HI1, ?_⟩)
  refine anyI_one (i := 12) (by kernel_rfl) (wpOp_val (w' := w') (v := .slice la (S.list.length + 1) lc) rfl rfl (by go_simp) ⟨.inr HI2, ?_⟩)
  refine anyI_one (i := 13) (by kernel_rfl) (wpOp_val (w' := w') (v := .pointer (some ⟨Wb, 0, none⟩)) rfl rfl (by go_simp) ⟨.inr HI2, ?_⟩)
  refine anyI_one (i := 14) (by kernel_rfl) (wpOp_val (w' := w') (v := .pointer (some ⟨Wb, 6, none⟩)) rfl rfl (by go_simp) ⟨.inr HI2, ?_⟩)
  refine anyI_one (i := 15) (by kernel_rfl) (wpOp_skip (w' := w'.setCell ⟨Wb, 6, none⟩ (.slice la (S.list.length + 1) lc)) rfl rfl (by go_simp) ⟨.inl rfl, ?_⟩)
  refine anyI_done (by kernel_rfl) ?_ _
  subst hI
  clear HI0 HI1 HI2 hrun d6 d7 df6 cc6 cc7 ce6 ce7 gE c0 c1 c2 c3 c4 c5 c6 c7 k0 k1 k2 cf7 gd gA
  generalize w'.setCell ⟨Wb, 6, none⟩ (.slice la (S.list.length + 1) lc) = w2 at *
  obtain ⟨c0, c1, c2, c3, c4, c5, c6, c7, cf⟩ := hW2.cell
  have cf4 := cf 4
  simp only [hpast] at c4
  obtain ⟨ga, gc, hgv0, hgr⟩ := id hgv2
  subst hgv0
  obtain ⟨tg, tcap, htv, tc0, tcf, htH⟩ := hW2.row (j := G) hGt
  obtain ⟨gb, goff, hga0, hgb, hgc⟩ := hgr (fun e => by rw [e] at hgl; simp at hgl)
  subst hga0
  have gx := hgc (G) hgl
  have qz : (gs[G]?.getD 0 == 1) = true := by simpa using hq
  have hgI : (G : Int) < (gs.length : Int) := by omega
  clear hgc
  generalize gs[G]?.getD 0 = z at gx qz
  have hW3 := hW2.pastT
  have hB3 := hBw.setCell (p := ⟨Wb, 4, none⟩) (by simpa using hlo) (.bool true)
  subst htv
  have hW4 := hW3.put (G) 2
  have hB4 := hB3.setCell (p := ⟨tg, G, none⟩) htH (.int .i64 2)
  have IH := hide (ih fr ind _ _ _ hW4 (hd.below hB4) (Rd.below hgv hB4) (by have := hB4.size; omega) hb0 (by show S.bytes + _ ≤ _; omega) (by show (S.list ++ _).length + _ ≤ _; rw [List.length_append]; simp only [List.length_cons, List.length_nil]; omega) (by show _ ≤ (S.taken.set _ _).length; rw [List.length_set]; omega) hok.2 hi0 (by have := nestT_pos x hok.2; omega))
  have hti : (G : Int) < (S.taken.length : Int) := by omega
  have HB3 := hide hB4
  have htWb : ¬ tg = Wb := fun e => hW2.tw (by rw [e]; rfl)
  clear hW3 hB3 hW4 hB4 hW2 hBw hgv2 hd2 hgr ih HF cf hk hgv hd hW hB2
  go_wp2_with fail
  refine IH.out.mono ?_
  rintro e w3 ⟨rfl, W1, B1⟩
  have HW1 := hide W1
  have HB1 := hide (HB3.out.trans B1)
  clear IH W1 B1
  go_wp2
  go_returns
  rw [HS.out, HM.out]
  exact ⟨rfl, HW1.out, HB1.out⟩

set_option maxHeartbeats 4000000 in
set_option maxRecDepth 100000 in
theorem gp_qo {H Wb : Nat} {dv gv : Value} {gs : List Int} {last : Int} {fl : Bool} {doc : List Pc} {tv : Value} (hn : doc.length ≤ 1048576) {p : Pc} {a n : Nat} {x : Tr} (hp : doc[a]? = some p) (hk : p.k = 8) (hga : grp doc a = n + cntG x) (hgl : n + cntG x < gs.length) (ihf : ∀ lv, FlAt H Wb dv gv last fl doc tv lv (.un p x) n (a + 1))   (fr ind : Int) (S : WS) (lv : Value) (w : World) (hW : WkR H Wb w dv gv last fl S tv lv) (hd : RdP H w dv doc) (hgv : RdI H w gv gs) (hH : H ≤ w.heap.size) (hb0 : 0 ≤ S.bytes) (hb1 : S.bytes + 4001 * sz (.un p x) ≤ 1000000000000) (hll : S.list.length + sz (.un p x) ≤ 1000000000) (hg : n + cntG (.un p x) ≤ S.taken.length) (hok : okN (.un p x)) (hi0 : 0 ≤ ind) (hi1 : ind + nestT (.un p x) ≤ 4000) (hpast : S.past = false) (hq :  gs[n + cntG x]?.getD 0 = 1) (he : ¬ ((n + cntG x : Nat) : Int) = last) :
    Calls Tryd.prog 27 #[.pointer (some ⟨Wb, 0, none⟩), .int .i64 fr, .int .i64 ((a + 1 : Nat) : Int), .int .i64 ind] w fun e w' => e = .returned (.tuple #[]) ∧ (∃ lv', WkR H Wb w' dv gv last fl (goT gs last fl (.un p x) n ind S) tv lv') ∧ Below H w w' := by
  have hnU := hn
  have hokU := hok
  have hi0U := hi0
  have hi1U := hi1
  have hllU := hll
  obtain ⟨ha, hpa⟩ := List.getElem?_eq_some_iff.1 hp
  obtain ⟨b, off, cap, tx, hdv, hbH, hP⟩ := hd.at a ha
  rw [hpa] at hP
  obtain ⟨c0, c1, c2, c3, c4, c5, c6, c7, cf⟩ := hW.cell
  have k0 := hP.k
  have k1 := hP.t
  have k2 := hP.n
  have cf7 := cf 7
  have hin : (a : Int) < (doc.length : Int) := by omega
  obtain ⟨ta, tc, htx, htl, htm⟩ := hP.sl
  subst htx
  have hWlt := hW.lt
  have hlo := hW.lo
  have gA := fun k => World.grownBy_alloc w (Obj.cells #[.int .i64 k, .slice ta p.t.length tc, .int .i64 p.n] 40) none
  have HW := hide hW
  have HD := hide hd
  subst hdv
  rw [show ((a + 1 : Nat) : Int) = (a : Int) + 1 by omega]
  simp only [cntG, nestT, sz, okN] at hg hi1 hb1 hok hll
  rw [if_pos hk] at hg
  have gd : w.grownBy (w.alloc (Obj.cells #[.int .i64 8, .slice ta p.t.length tc, .int .i64 p.n] 40)).drew none := grown_trans (gA 8) ⟨rfl, rfl, rfl, Nat.le_refl _, fun _ _ _ => rfl⟩
  have hsA := (gA 8).size
  have hsz : (w.alloc (Obj.cells #[.int .i64 8, .slice ta p.t.length tc, .int .i64 p.n] 40)).drew.heap.size = w.heap.size + 1 := by simp
  have HG := hide (groupsTo_any _ doc a (w.alloc (Obj.cells #[.int .i64 8, .slice ta p.t.length tc, .int .i64 p.n] 40)) ((hd.keep (gA 8)).wide (by omega)) hn (by omega))
  rw [hga] at HG
  obtain ⟨lv', w', hrun, hW2, hB2, ⟨d6, d7, df6⟩, la, lc, hlv'⟩ := (hW.keep gd).meet (by omega) ((n + cntG x : Nat) : Int) (by omega)
  rw [hsz] at hrun
  replace hrun : (Builtin.append_ #[36, 36] 36 #[lv, .slice (some ⟨w.heap.size + 1, 0, none⟩) 1 1]).run Tryd.prog ((w.alloc (Obj.cells #[.int .i64 8, .slice ta p.t.length tc, .int .i64 p.n] 40)).alloc (Obj.cells #[.int .i64 ((n + cntG x : Nat) : Int), .int .i64 S.bytes] 42)).drew = .ok lv' w' := hrun
  have cc6 := gd.cell c6 (by simp)
  have cc7 := gd.cell c7 (by simp)
  have gE := World.grownBy_alloc (w.alloc (Obj.cells #[.int .i64 8, .slice ta p.t.length tc, .int .i64 p.n] 40)).drew (Obj.cells #[.int .i64 ((n + cntG x : Nat) : Int), .int .i64 S.bytes] 42) none
  have ce6 := gE.cell cc6 (by simp)
  have ce7 := gE.cell cc7 (by simp)
  have hBw := (((Below.refl H w).alloc hH (Obj.cells #[.int .i64 8, .slice ta p.t.length tc, .int .i64 p.n] 40)).drew).trans hB2
  have hgv2 := Rd.below hgv hBw
  have hd2 := hd.below hBw
  obtain ⟨la0, lc0, hlv0⟩ : ∃ a c, lv = .slice a S.list.length c := by
    rcases hW.ls.2 with ⟨h1, h2⟩ | ⟨g', cap', cur, h1, _⟩
    · exact ⟨none, 0, by rw [h1, h2]⟩
    · exact ⟨_, _, h1⟩
  have hsz2 := hBw.size
  have HM : Hid (meetS last (n + cntG x) S = { past := false, taken := S.taken, list := S.list ++ [(((n + cntG x : Nat) : Int), S.bytes)], bytes := S.bytes }) := by unfold Hid meetS; rw [hpast, decide_eq_false he]; rfl
  have HF : Hid (isFl gs last fl (n + cntG x) S = true) := by unfold Hid isFl; rw [if_neg he, hpast, decide_eq_true hq]; rfl
  have HS : Hid (goT gs last fl (.un p x) n ind S = flS (.un p x) n (meetS last (n + cntG x) S)) := by unfold Hid; rw [goT, if_neg (by omega), if_pos HF.out]
  rw [hk] at k0
  have hGint : ((n + cntG x : Nat) : Int) ≤ 1000000000 := by have := grp_le doc a; omega
  have hGt : n + cntG x < S.taken.length := by omega
  have qe : (((n + cntG x : Nat) : Int) == last) = false := by simpa using he
  have hflb := flB_le (.un p x)
  simp only [sz] at hflb
  have HG8 := hide hg
  have hmore : n + cntG x + 1 ≤ S.taken.length := by omega
  have hgU := hgl
  generalize n + cntG x = G at *
  clear hP cf HW HD
  go_enter Tryd.func27, Tryd.ntmps27
  go_wp2_with fail
  refine HG.out.mono ?_
  rintro e w1 ⟨rfl, rfl⟩
  clear HG
  go_wp2
  obtain ⟨I, hI⟩ : ∃ I : World → Prop, I = (fun W : World => W.cell? ⟨Wb, 6, none⟩ = some lv ∧ W.cell? ⟨Wb, 7, none⟩ = some (.int .i64 S.bytes)) := ⟨_, rfl⟩
  have HI0 : I (w.alloc (Obj.cells #[.int .i64 8, .slice ta p.t.length tc, .int .i64 p.n] 40)).drew := by rw [hI]; exact ⟨cc6, cc7⟩
  have HI1 : I ((w.alloc (Obj.cells #[.int .i64 8, .slice ta p.t.length tc, .int .i64 p.n] 40)).alloc (Obj.cells #[.int .i64 (G : Int), .int .i64 S.bytes] 42)).drew := by rw [hI]; exact ⟨ce6, ce7⟩
  have HI2 : I w' := by rw [hI]; exact ⟨d6, d7⟩
  refine region_anyI I (fun i => i == 15) (by kernel_rfl) ?_
  show anyI _ _ _ _ _ _ 16 (Array.replicate 16 false) _ _
  refine anyI_take (i := 0) (.pointer (some ⟨Wb, 0, none⟩)) rfl (by kernel_rfl) (by kernel_rfl) (by kernel_rfl) (by kernel_rfl) (fun _ _ _ h => h) HI0 (yldI rfl (fun W hW => by rw [hI] at hW; obtain ⟨h6, h7⟩ := hW; go_simp)) ?_
  refine anyI_take (i := 1) (.pointer (some ⟨Wb, 0, none⟩)) rfl (by kernel_rfl) (by kernel_rfl) (by kernel_rfl) (by kernel_rfl) (fun _ _ _ h => h) HI0 (yldI rfl (fun W hW => by rw [hI] at hW; obtain ⟨h6, h7⟩ := hW; go_simp)) ?_
  refine anyI_take (i := 2) (.pointer (some ⟨Wb, 0, none⟩)) rfl (by kernel_rfl) (by kernel_rfl) (by kernel_rfl) (by kernel_rfl) (fun _ _ _ h => h) HI0 (yldI rfl (fun W hW => by rw [hI] at hW; obtain ⟨h6, h7⟩ := hW; go_simp)) ?_
  refine anyI_take (i := 3) (.pointer (some ⟨Wb, 6, none⟩)) rfl (by kernel_rfl) (by kernel_rfl) (by kernel_rfl) (by kernel_rfl) (fun _ _ _ h => h) HI0 (yldI rfl (fun W hW => by rw [hI] at hW; obtain ⟨h6, h7⟩ := hW; go_simp)) ?_
  refine anyI_take (i := 4) (lv) rfl (by kernel_rfl) (by kernel_rfl) (by kernel_rfl) (by kernel_rfl) (fun _ _ _ h => h) HI0 (yldI rfl (fun W hW => by rw [hI] at hW; obtain ⟨h6, h7⟩ := hW; go_simp)) ?_
  refine anyI_take (i := 5) (.int .i64 (G : Int)) rfl (by kernel_rfl) (by kernel_rfl) (by kernel_rfl) (by kernel_rfl) (fun _ _ _ h => h) HI0 (yldI rfl (fun W hW => by rw [hI] at hW; obtain ⟨h6, h7⟩ := hW; go_simp)) ?_
  refine anyI_take (i := 6) (.pointer (some ⟨Wb, 0, none⟩)) rfl (by kernel_rfl) (by kernel_rfl) (by kernel_rfl) (by kernel_rfl) (fun _ _ _ h => h) HI0 (yldI rfl (fun W hW => by rw [hI] at hW; obtain ⟨h6, h7⟩ := hW; go_simp)) ?_
  refine anyI_take (i := 7) (.pointer (some ⟨Wb, 0, none⟩)) rfl (by kernel_rfl) (by kernel_rfl) (by kernel_rfl) (by kernel_rfl) (fun _ _ _ h => h) HI0 (yldI rfl (fun W hW => by rw [hI] at hW; obtain ⟨h6, h7⟩ := hW; go_simp)) ?_
  refine anyI_take (i := 8) (.pointer (some ⟨Wb, 7, none⟩)) rfl (by kernel_rfl) (by kernel_rfl) (by kernel_rfl) (by kernel_rfl) (fun _ _ _ h => h) HI0 (yldI rfl (fun W hW => by rw [hI] at hW; obtain ⟨h6, h7⟩ := hW; go_simp)) ?_
  refine anyI_take (i := 9) (.int .i64 S.bytes) rfl (by kernel_rfl) (by kernel_rfl) (by kernel_rfl) (by kernel_rfl) (fun _ _ _ h => h) HI0 (yldI rfl (fun W hW => by rw [hI] at hW; obtain ⟨h6, h7⟩ := hW; go_simp)) ?_
  generalize hGG : Act.put _ _ _ = A0
  simp [Act.put] at hGG
  subst hGG
  subst hlv' hlv0
  refine anyI_one (i := 10) (by kernel_rfl) (wpOp_val (w' := (w.alloc (Obj.cells #[.int .i64 8, .slice ta p.t.length tc, .int .i64 p.n] 40)).drew) (v := .agg #[.int .i64 (G : Int), .int .i64 S.bytes]) rfl rfl (by go_simp) ⟨.inr HI0, ?_⟩)
  refine anyI_one (i := 11) (by kernel_rfl) (wpOp_val (w' := ((w.alloc (Obj.cells #[.int .i64 8, .slice ta p.t.length tc, .int .i64 p.n] 40)).alloc (Obj.cells #[.int .i64 (G : Int), .int .i64 S.bytes] 42)).drew) (v := .slice (some ⟨w.heap.size + 1, 0, none⟩) 1 1) rfl rfl (by go_simp) ⟨.inr HI1, ?_⟩)
  refine anyI_one (i := 12) (by kernel_rfl) (wpOp_val (w' := w') (v := .slice la (S.list.length + 1) lc) rfl rfl (by go_simp) ⟨.inr HI2, ?_⟩)
  refine anyI_one (i := 13) (by kernel_rfl) (wpOp_val (w' := w') (v := .pointer (some ⟨Wb, 0, none⟩)) rfl rfl (by go_simp) ⟨.inr HI2, ?_⟩)
  refine anyI_one (i := 14) (by kernel_rfl) (wpOp_val (w' := w') (v := .pointer (some ⟨Wb, 6, none⟩)) rfl rfl (by go_simp) ⟨.inr HI2, ?_⟩)
  refine anyI_one (i := 15) (by kernel_rfl) (wpOp_skip (w' := w'.setCell ⟨Wb, 6, none⟩ (.slice la (S.list.length + 1) lc)) rfl rfl (by go_simp) ⟨.inl rfl, ?_⟩)
  refine anyI_done (by kernel_rfl) ?_ _
  subst hI
  clear HI0 HI1 HI2 hrun d6 d7 df6 cc6 cc7 ce6 ce7 gE c0 c1 c2 c3 c4 c5 c6 c7 k0 k1 k2 cf7 gd gA
  generalize w'.setCell ⟨Wb, 6, none⟩ (.slice la (S.list.length + 1) lc) = w2 at *
  obtain ⟨c0, c1, c2, c3, c4, c5, c6, c7, cf⟩ := hW2.cell
  have cf4 := cf 4
  simp only [hpast] at c4
  obtain ⟨ga, gc, hgv0, hgr⟩ := id hgv2
  subst hgv0
  obtain ⟨tg, tcap, htv, tc0, tcf, htH⟩ := hW2.row (j := G) hGt
  obtain ⟨gb, goff, hga0, hgb, hgc⟩ := hgr (fun e => by rw [e] at hgl; simp at hgl)
  subst hga0
  have gx := hgc (G) hgl
  have qz : (gs[G]?.getD 0 == 1) = true := by simpa using hq
  have hgI : (G : Int) < (gs.length : Int) := by omega
  clear hgc
  generalize gs[G]?.getD 0 = z at gx qz
  have hW3 := hW2
  have hB3 := hBw
  have hS3 : { S with list := S.list ++ [((G : Int), S.bytes)] } = ({ past := false, taken := S.taken, list := S.list ++ [((G : Int), S.bytes)], bytes := S.bytes } : WS) := by rw [← hpast]
  rw [hS3] at hW3
  have IH := hide (ihf _ fr { past := false, taken := S.taken, list := S.list ++ [((G : Int), S.bytes)], bytes := S.bytes } w2 hW3 (hd.below hB3) (by have := hB3.size; omega) hb0 (by show S.bytes + flB (.un p x) ≤ _; omega) (by simp only [cntG]; rw [if_pos hk]; exact hg))
  rw [show ((a + 1 : Nat) : Int) = (a : Int) + 1 by omega] at IH
  have HB3 := hide hB3
  clear hW3 hB3 hW2 hBw hgv2 hd2 hgr ihf HF cf hk hgv hd hW hB2
  go_wp2_with fail
  refine IH.out.mono ?_
  rintro e w3 ⟨rfl, W1, B1⟩
  have HW1 := hide W1
  have HB1 := hide (HB3.out.trans B1)
  clear IH W1 B1
  go_wp2
  go_returns
  rw [HS.out, HM.out]
  exact ⟨rfl, ⟨_, HW1.out⟩, HB1.out⟩

set_option maxHeartbeats 4000000 in
set_option maxRecDepth 100000 in
theorem gp_net {H Wb : Nat} {dv gv : Value} {gs : List Int} {last : Int} {fl : Bool} {doc : List Pc} {tv : Value} (hn : doc.length ≤ 1048576) {p : Pc} {a n : Nat} {x : Tr} (hp : doc[a]? = some p) (hk : p.k = 8) (hga : grp doc a = n + cntG x) (hgl : n + cntG x < gs.length) (ihf : ∀ lv, FlAt H Wb dv gv last fl doc tv lv (.un p x) n (a + 1))   (fr ind : Int) (S : WS) (lv : Value) (w : World) (hW : WkR H Wb w dv gv last fl S tv lv) (hd : RdP H w dv doc) (hgv : RdI H w gv gs) (hH : H ≤ w.heap.size) (hb0 : 0 ≤ S.bytes) (hb1 : S.bytes + 4001 * sz (.un p x) ≤ 1000000000000) (hll : S.list.length + sz (.un p x) ≤ 1000000000) (hg : n + cntG (.un p x) ≤ S.taken.length) (hok : okN (.un p x)) (hi0 : 0 ≤ ind) (hi1 : ind + nestT (.un p x) ≤ 4000) (hpast : S.past = false) (hq : ¬ gs[n + cntG x]?.getD 0 = 1) (he :  ((n + cntG x : Nat) : Int) = last) (hfl : fl = true) :
    Calls Tryd.prog 27 #[.pointer (some ⟨Wb, 0, none⟩), .int .i64 fr, .int .i64 ((a + 1 : Nat) : Int), .int .i64 ind] w fun e w' => e = .returned (.tuple #[]) ∧ (∃ lv', WkR H Wb w' dv gv last fl (goT gs last fl (.un p x) n ind S) tv lv') ∧ Below H w w' := by
  have hnU := hn
  have hokU := hok
  have hi0U := hi0
  have hi1U := hi1
  have hllU := hll
  obtain ⟨ha, hpa⟩ := List.getElem?_eq_some_iff.1 hp
  obtain ⟨b, off, cap, tx, hdv, hbH, hP⟩ := hd.at a ha
  rw [hpa] at hP
  obtain ⟨c0, c1, c2, c3, c4, c5, c6, c7, cf⟩ := hW.cell
  have k0 := hP.k
  have k1 := hP.t
  have k2 := hP.n
  have cf7 := cf 7
  have hin : (a : Int) < (doc.length : Int) := by omega
  obtain ⟨ta, tc, htx, htl, htm⟩ := hP.sl
  subst htx
  have hWlt := hW.lt
  have hlo := hW.lo
  have gA := fun k => World.grownBy_alloc w (Obj.cells #[.int .i64 k, .slice ta p.t.length tc, .int .i64 p.n] 40) none
  have HW := hide hW
  have HD := hide hd
  subst hdv
  rw [show ((a + 1 : Nat) : Int) = (a : Int) + 1 by omega]
  simp only [cntG, nestT, sz, okN] at hg hi1 hb1 hok hll
  rw [if_pos hk] at hg
  have gd : w.grownBy (w.alloc (Obj.cells #[.int .i64 8, .slice ta p.t.length tc, .int .i64 p.n] 40)).drew none := grown_trans (gA 8) ⟨rfl, rfl, rfl, Nat.le_refl _, fun _ _ _ => rfl⟩
  have hsA := (gA 8).size
  have hsz : (w.alloc (Obj.cells #[.int .i64 8, .slice ta p.t.length tc, .int .i64 p.n] 40)).drew.heap.size = w.heap.size + 1 := by simp
  have HG := hide (groupsTo_any _ doc a (w.alloc (Obj.cells #[.int .i64 8, .slice ta p.t.length tc, .int .i64 p.n] 40)) ((hd.keep (gA 8)).wide (by omega)) hn (by omega))
  rw [hga] at HG
  obtain ⟨lv', w', hrun, hW2, hB2, ⟨d6, d7, df6⟩, la, lc, hlv'⟩ := (hW.keep gd).meet (by omega) ((n + cntG x : Nat) : Int) (by omega)
  rw [hsz] at hrun
  replace hrun : (Builtin.append_ #[36, 36] 36 #[lv, .slice (some ⟨w.heap.size + 1, 0, none⟩) 1 1]).run Tryd.prog ((w.alloc (Obj.cells #[.int .i64 8, .slice ta p.t.length tc, .int .i64 p.n] 40)).alloc (Obj.cells #[.int .i64 ((n + cntG x : Nat) : Int), .int .i64 S.bytes] 42)).drew = .ok lv' w' := hrun
  have cc6 := gd.cell c6 (by simp)
  have cc7 := gd.cell c7 (by simp)
  have gE := World.grownBy_alloc (w.alloc (Obj.cells #[.int .i64 8, .slice ta p.t.length tc, .int .i64 p.n] 40)).drew (Obj.cells #[.int .i64 ((n + cntG x : Nat) : Int), .int .i64 S.bytes] 42) none
  have ce6 := gE.cell cc6 (by simp)
  have ce7 := gE.cell cc7 (by simp)
  have hBw := (((Below.refl H w).alloc hH (Obj.cells #[.int .i64 8, .slice ta p.t.length tc, .int .i64 p.n] 40)).drew).trans hB2
  have hgv2 := Rd.below hgv hBw
  have hd2 := hd.below hBw
  obtain ⟨la0, lc0, hlv0⟩ : ∃ a c, lv = .slice a S.list.length c := by
    rcases hW.ls.2 with ⟨h1, h2⟩ | ⟨g', cap', cur, h1, _⟩
    · exact ⟨none, 0, by rw [h1, h2]⟩
    · exact ⟨_, _, h1⟩
  have hsz2 := hBw.size
  have HM : Hid (meetS last (n + cntG x) S = { past := true, taken := S.taken, list := S.list ++ [(((n + cntG x : Nat) : Int), S.bytes)], bytes := S.bytes }) := by unfold Hid meetS; rw [hpast, decide_eq_true he]; rfl
  have HF : Hid (isFl gs last fl (n + cntG x) S = true) := by unfold Hid isFl; rw [if_pos he, hfl]
  have HS : Hid (goT gs last fl (.un p x) n ind S = flS (.un p x) n (meetS last (n + cntG x) S)) := by unfold Hid; rw [goT, if_neg (by omega), if_pos HF.out]
  rw [hk] at k0
  have hGint : ((n + cntG x : Nat) : Int) ≤ 1000000000 := by have := grp_le doc a; omega
  have hGt : n + cntG x < S.taken.length := by omega
  have qe : (((n + cntG x : Nat) : Int) == last) = true := by simpa using he
  have hflb := flB_le (.un p x)
  simp only [sz] at hflb
  have HG8 := hide hg
  have hmore : n + cntG x + 1 ≤ S.taken.length := by omega
  subst hfl
  clear he
  have hgU := hgl
  generalize n + cntG x = G at *
  clear hP cf HW HD
  go_enter Tryd.func27, Tryd.ntmps27
  go_wp2_with fail
  refine HG.out.mono ?_
  rintro e w1 ⟨rfl, rfl⟩
  clear HG
  go_wp2
  obtain ⟨I, hI⟩ : ∃ I : World → Prop, I = (fun W : World => W.cell? ⟨Wb, 6, none⟩ = some lv ∧ W.cell? ⟨Wb, 7, none⟩ = some (.int .i64 S.bytes)) := ⟨_, rfl⟩
  have HI0 : I (w.alloc (Obj.cells #[.int .i64 8, .slice ta p.t.length tc, .int .i64 p.n] 40)).drew := by rw [hI]; exact ⟨cc6, cc7⟩
  have HI1 : I ((w.alloc (Obj.cells #[.int .i64 8, .slice ta p.t.length tc, .int .i64 p.n] 40)).alloc (Obj.cells #[.int .i64 (G : Int), .int .i64 S.bytes] 42)).drew := by rw [hI]; exact ⟨ce6, ce7⟩
  have HI2 : I w' := by rw [hI]; exact ⟨d6, d7⟩
  refine region_anyI I (fun i => i == 15) (by kernel_rfl) ?_
  show anyI _ _ _ _ _ _ 16 (Array.replicate 16 false) _ _
  refine anyI_take (i := 0) (.pointer (some ⟨Wb, 0, none⟩)) rfl (by kernel_rfl) (by kernel_rfl) (by kernel_rfl) (by kernel_rfl) (fun _ _ _ h => h) HI0 (yldI rfl (fun W hW => by rw [hI] at hW; obtain ⟨h6, h7⟩ := hW; go_simp)) ?_
  refine anyI_take (i := 1) (.pointer (some ⟨Wb, 0, none⟩)) rfl (by kernel_rfl) (by kernel_rfl) (by kernel_rfl) (by kernel_rfl) (fun _ _ _ h => h) HI0 (yldI rfl (fun W hW => by rw [hI] at hW; obtain ⟨h6, h7⟩ := hW; go_simp)) ?_
  refine anyI_take (i := 2) (.pointer (some ⟨Wb, 0, none⟩)) rfl (by kernel_rfl) (by kernel_rfl) (by kernel_rfl) (by kernel_rfl) (fun _ _ _ h => h) HI0 (yldI rfl (fun W hW => by rw [hI] at hW; obtain ⟨h6, h7⟩ := hW; go_simp)) ?_
  refine anyI_take (i := 3) (.pointer (some ⟨Wb, 6, none⟩)) rfl (by kernel_rfl) (by kernel_rfl) (by kernel_rfl) (by kernel_rfl) (fun _ _ _ h => h) HI0 (yldI rfl (fun W hW => by rw [hI] at hW; obtain ⟨h6, h7⟩ := hW; go_simp)) ?_
  refine anyI_take (i := 4) (lv) rfl (by kernel_rfl) (by kernel_rfl) (by kernel_rfl) (by kernel_rfl) (fun _ _ _ h => h) HI0 (yldI rfl (fun W hW => by rw [hI] at hW; obtain ⟨h6, h7⟩ := hW; go_simp)) ?_
  refine anyI_take (i := 5) (.int .i64 (G : Int)) rfl (by kernel_rfl) (by kernel_rfl) (by kernel_rfl) (by kernel_rfl) (fun _ _ _ h => h) HI0 (yldI rfl (fun W hW => by rw [hI] at hW; obtain ⟨h6, h7⟩ := hW; go_simp)) ?_
  refine anyI_take (i := 6) (.pointer (some ⟨Wb, 0, none⟩)) rfl (by kernel_rfl) (by kernel_rfl) (by kernel_rfl) (by kernel_rfl) (fun _ _ _ h => h) HI0 (yldI rfl (fun W hW => by rw [hI] at hW; obtain ⟨h6, h7⟩ := hW; go_simp)) ?_
  refine anyI_take (i := 7) (.pointer (some ⟨Wb, 0, none⟩)) rfl (by kernel_rfl) (by kernel_rfl) (by kernel_rfl) (by kernel_rfl) (fun _ _ _ h => h) HI0 (yldI rfl (fun W hW => by rw [hI] at hW; obtain ⟨h6, h7⟩ := hW; go_simp)) ?_
  refine anyI_take (i := 8) (.pointer (some ⟨Wb, 7, none⟩)) rfl (by kernel_rfl) (by kernel_rfl) (by kernel_rfl) (by kernel_rfl) (fun _ _ _ h => h) HI0 (yldI rfl (fun W hW => by rw [hI] at hW; obtain ⟨h6, h7⟩ := hW; go_simp)) ?_
  refine anyI_take (i := 9) (.int .i64 S.bytes) rfl (by kernel_rfl) (by kernel_rfl) (by kernel_rfl) (by kernel_rfl) (fun _ _ _ h => h) HI0 (yldI rfl (fun W hW => by rw [hI] at hW; obtain ⟨h6, h7⟩ := hW; go_simp)) ?_
  generalize hGG : Act.put _ _ _ = A0
  simp [Act.put] at hGG
  subst hGG
  subst hlv' hlv0
  refine anyI_one (i := 10) (by kernel_rfl) (wpOp_val (w' := (w.alloc (Obj.cells #[.int .i64 8, .slice ta p.t.length tc, .int .i64 p.n] 40)).drew) (v := .agg #[.int .i64 (G : Int), .int .i64 S.bytes]) rfl rfl (by go_simp) ⟨.inr HI0, ?_⟩)
  refine anyI_one (i := 11) (by kernel_rfl) (wpOp_val (w' := ((w.alloc (Obj.cells #[.int .i64 8, .slice ta p.t.length tc, .int .i64 p.n] 40)).alloc (Obj.cells #[.int .i64 (G : Int), .int .i64 S.bytes] 42)).drew) (v := .slice (some ⟨w.heap.size + 1, 0, none⟩) 1 1) rfl rfl (by go_simp) ⟨.inr HI1, ?_⟩)
  refine anyI_one (i := 12) (by kernel_rfl) (wpOp_val (w' := w') (v := .slice la (S.list.length + 1) lc) rfl rfl (by go_simp) ⟨.inr HI2, ?_⟩)
  refine anyI_one (i := 13) (by kernel_rfl) (wpOp_val (w' := w') (v := .pointer (some ⟨Wb, 0, none⟩)) rfl rfl (by go_simp) ⟨.inr HI2, ?_⟩)
  refine anyI_one (i := 14) (by kernel_rfl) (wpOp_val (w' := w') (v := .pointer (some ⟨Wb, 6, none⟩)) rfl rfl (by go_simp) ⟨.inr HI2, ?_⟩)
  refine anyI_one (i := 15) (by kernel_rfl) (wpOp_skip (w' := w'.setCell ⟨Wb, 6, none⟩ (.slice la (S.list.length + 1) lc)) rfl rfl (by go_simp) ⟨.inl rfl, ?_⟩)
  refine anyI_done (by kernel_rfl) ?_ _
  subst hI
  clear HI0 HI1 HI2 hrun d6 d7 df6 cc6 cc7 ce6 ce7 gE c0 c1 c2 c3 c4 c5 c6 c7 k0 k1 k2 cf7 gd gA
  generalize w'.setCell ⟨Wb, 6, none⟩ (.slice la (S.list.length + 1) lc) = w2 at *
  obtain ⟨c0, c1, c2, c3, c4, c5, c6, c7, cf⟩ := hW2.cell
  have cf4 := cf 4
  simp only [hpast] at c4
  obtain ⟨ga, gc, hgv0, hgr⟩ := id hgv2
  subst hgv0
  obtain ⟨tg, tcap, htv, tc0, tcf, htH⟩ := hW2.row (j := G) hGt
  obtain ⟨gb, goff, hga0, hgb, hgc⟩ := hgr (fun e => by rw [e] at hgl; simp at hgl)
  subst hga0
  have gx := hgc (G) hgl
  have qz : (gs[G]?.getD 0 == 1) = false := by simpa using hq
  have hgI : (G : Int) < (gs.length : Int) := by omega
  clear hgc
  generalize gs[G]?.getD 0 = z at gx qz
  have hW3 := hW2.pastT
  have hB3 := hBw.setCell (p := ⟨Wb, 4, none⟩) (by simpa using hlo) (.bool true)
  have IH := hide (ihf _ fr { past := true, taken := S.taken, list := S.list ++ [((G : Int), S.bytes)], bytes := S.bytes } (w2.setCell ⟨Wb, 4, none⟩ (.bool true)) hW3 (hd.below hB3) (by have := hB3.size; omega) hb0 (by show S.bytes + flB (.un p x) ≤ _; omega) (by simp only [cntG]; rw [if_pos hk]; exact hg))
  rw [show ((a + 1 : Nat) : Int) = (a : Int) + 1 by omega] at IH
  have HB3 := hide hB3
  clear hW3 hB3 hW2 hBw hgv2 hd2 hgr ihf HF cf hk hgv hd hW hB2
  go_wp2_with fail
  refine IH.out.mono ?_
  rintro e w3 ⟨rfl, W1, B1⟩
  have HW1 := hide W1
  have HB1 := hide (HB3.out.trans B1)
  clear IH W1 B1
  go_wp2
  go_returns
  rw [HS.out, HM.out]
  exact ⟨rfl, ⟨_, HW1.out⟩, HB1.out⟩

set_option maxHeartbeats 4000000 in
set_option maxRecDepth 100000 in
theorem gp_nef {H Wb : Nat} {dv gv : Value} {gs : List Int} {last : Int} {fl : Bool} {doc : List Pc} {tv : Value} (hn : doc.length ≤ 1048576) {p : Pc} {a n : Nat} {x : Tr} (hp : doc[a]? = some p) (hk : p.k = 8) (hga : grp doc a = n + cntG x) (hgl : n + cntG x < gs.length) (ih : GoAt H Wb dv gv gs last fl doc tv x n a)   (fr ind : Int) (S : WS) (lv : Value) (w : World) (hW : WkR H Wb w dv gv last fl S tv lv) (hd : RdP H w dv doc) (hgv : RdI H w gv gs) (hH : H ≤ w.heap.size) (hb0 : 0 ≤ S.bytes) (hb1 : S.bytes + 4001 * sz (.un p x) ≤ 1000000000000) (hll : S.list.length + sz (.un p x) ≤ 1000000000) (hg : n + cntG (.un p x) ≤ S.taken.length) (hok : okN (.un p x)) (hi0 : 0 ≤ ind) (hi1 : ind + nestT (.un p x) ≤ 4000) (hpast : S.past = false) (hq : ¬ gs[n + cntG x]?.getD 0 = 1) (he :  ((n + cntG x : Nat) : Int) = last) (hfl : fl = false) :
    Calls Tryd.prog 27 #[.pointer (some ⟨Wb, 0, none⟩), .int .i64 fr, .int .i64 ((a + 1 : Nat) : Int), .int .i64 ind] w fun e w' => e = .returned (.tuple #[]) ∧ (∃ lv', WkR H Wb w' dv gv last fl (goT gs last fl (.un p x) n ind S) tv lv') ∧ Below H w w' := by
  have hnU := hn
  have hokU := hok
  have hi0U := hi0
  have hi1U := hi1
  have hllU := hll
  obtain ⟨ha, hpa⟩ := List.getElem?_eq_some_iff.1 hp
  obtain ⟨b, off, cap, tx, hdv, hbH, hP⟩ := hd.at a ha
  rw [hpa] at hP
  obtain ⟨c0, c1, c2, c3, c4, c5, c6, c7, cf⟩ := hW.cell
  have k0 := hP.k
  have k1 := hP.t
  have k2 := hP.n
  have cf7 := cf 7
  have hin : (a : Int) < (doc.length : Int) := by omega
  obtain ⟨ta, tc, htx, htl, htm⟩ := hP.sl
  subst htx
  have hWlt := hW.lt
  have hlo := hW.lo
  have gA := fun k => World.grownBy_alloc w (Obj.cells #[.int .i64 k, .slice ta p.t.length tc, .int .i64 p.n] 40) none
  have HW := hide hW
  have HD := hide hd
  subst hdv
  rw [show ((a + 1 : Nat) : Int) = (a : Int) + 1 by omega]
  simp only [cntG, nestT, sz, okN] at hg hi1 hb1 hok hll
  rw [if_pos hk] at hg
  have gd : w.grownBy (w.alloc (Obj.cells #[.int .i64 8, .slice ta p.t.length tc, .int .i64 p.n] 40)).drew none := grown_trans (gA 8) ⟨rfl, rfl, rfl, Nat.le_refl _, fun _ _ _ => rfl⟩
  have hsA := (gA 8).size
  have hsz : (w.alloc (Obj.cells #[.int .i64 8, .slice ta p.t.length tc, .int .i64 p.n] 40)).drew.heap.size = w.heap.size + 1 := by simp
  have HG := hide (groupsTo_any _ doc a (w.alloc (Obj.cells #[.int .i64 8, .slice ta p.t.length tc, .int .i64 p.n] 40)) ((hd.keep (gA 8)).wide (by omega)) hn (by omega))
  rw [hga] at HG
  obtain ⟨lv', w', hrun, hW2, hB2, ⟨d6, d7, df6⟩, la, lc, hlv'⟩ := (hW.keep gd).meet (by omega) ((n + cntG x : Nat) : Int) (by omega)
  rw [hsz] at hrun
  replace hrun : (Builtin.append_ #[36, 36] 36 #[lv, .slice (some ⟨w.heap.size + 1, 0, none⟩) 1 1]).run Tryd.prog ((w.alloc (Obj.cells #[.int .i64 8, .slice ta p.t.length tc, .int .i64 p.n] 40)).alloc (Obj.cells #[.int .i64 ((n + cntG x : Nat) : Int), .int .i64 S.bytes] 42)).drew = .ok lv' w' := hrun
  have cc6 := gd.cell c6 (by simp)
  have cc7 := gd.cell c7 (by simp)
  have gE := World.grownBy_alloc (w.alloc (Obj.cells #[.int .i64 8, .slice ta p.t.length tc, .int .i64 p.n] 40)).drew (Obj.cells #[.int .i64 ((n + cntG x : Nat) : Int), .int .i64 S.bytes] 42) none
  have ce6 := gE.cell cc6 (by simp)
  have ce7 := gE.cell cc7 (by simp)
  have hBw := (((Below.refl H w).alloc hH (Obj.cells #[.int .i64 8, .slice ta p.t.length tc, .int .i64 p.n] 40)).drew).trans hB2
  have hgv2 := Rd.below hgv hBw
  have hd2 := hd.below hBw
  obtain ⟨la0, lc0, hlv0⟩ : ∃ a c, lv = .slice a S.list.length c := by
    rcases hW.ls.2 with ⟨h1, h2⟩ | ⟨g', cap', cur, h1, _⟩
    · exact ⟨none, 0, by rw [h1, h2]⟩
    · exact ⟨_, _, h1⟩
  have hsz2 := hBw.size
  have HM : Hid (meetS last (n + cntG x) S = { past := true, taken := S.taken, list := S.list ++ [(((n + cntG x : Nat) : Int), S.bytes)], bytes := S.bytes }) := by unfold Hid meetS; rw [hpast, decide_eq_true he]; rfl
  have HF : Hid (isFl gs last fl (n + cntG x) S = false) := by unfold Hid isFl; rw [if_pos he, hfl]
  have HS : Hid (goT gs last fl (.un p x) n ind S = goT gs last fl x n ind (putS (n + cntG x) (meetS last (n + cntG x) S))) := by unfold Hid; rw [goT, if_neg (by omega), HF.out]; simp
  rw [hk] at k0
  have hGint : ((n + cntG x : Nat) : Int) ≤ 1000000000 := by have := grp_le doc a; omega
  have hGt : n + cntG x < S.taken.length := by omega
  have qe : (((n + cntG x : Nat) : Int) == last) = true := by simpa using he
  have hflb := flB_le (.un p x)
  simp only [sz] at hflb
  have HG8 := hide hg
  have hmore : n + cntG x + 1 ≤ S.taken.length := by omega
  subst hfl
  clear he
  have hgU := hgl
  generalize n + cntG x = G at *
  clear hP cf HW HD
  go_enter Tryd.func27, Tryd.ntmps27
  go_wp2_with fail
  refine HG.out.mono ?_
  rintro e w1 ⟨rfl, rfl⟩
  clear HG
  go_wp2
  obtain ⟨I, hI⟩ : ∃ I : World → Prop, I = (fun W : World => W.cell? ⟨Wb, 6, none⟩ = some lv ∧ W.cell? ⟨Wb, 7, none⟩ = some (.int .i64 S.bytes)) := ⟨_, rfl⟩
  have HI0 : I (w.alloc (Obj.cells #[.int .i64 8, .slice ta p.t.length tc, .int .i64 p.n] 40)).drew := by rw [hI]; exact ⟨cc6, cc7⟩
  have HI1 : I ((w.alloc (Obj.cells #[.int .i64 8, .slice ta p.t.length tc, .int .i64 p.n] 40)).alloc (Obj.cells #[.int .i64 (G : Int), .int .i64 S.bytes] 42)).drew := by rw [hI]; exact ⟨ce6, ce7⟩
  have HI2 : I w' := by rw [hI]; exact ⟨d6, d7⟩
  refine region_anyI I (fun i => i == 15) (by kernel_rfl) ?_
  show anyI _ _ _ _ _ _ 16 (Array.replicate 16 false) _ _
  refine anyI_take (i := 0) (.pointer (some ⟨Wb, 0, none⟩)) rfl (by kernel_rfl) (by kernel_rfl) (by kernel_rfl) (by kernel_rfl) (fun _ _ _ h => h) HI0 (yldI rfl (fun W hW => by rw [hI] at hW; obtain ⟨h6, h7⟩ := hW; go_simp)) ?_
  refine anyI_take (i := 1) (.pointer (some ⟨Wb, 0, none⟩)) rfl (by kernel_rfl) (by kernel_rfl) (by kernel_rfl) (by kernel_rfl) (fun _ _ _ h => h) HI0 (yldI rfl (fun W hW => by rw [hI] at hW; obtain ⟨h6, h7⟩ := hW; go_simp)) ?_
  refine anyI_take (i := 2) (.pointer (some ⟨Wb, 0, none⟩)) rfl (by kernel_rfl) (by kernel_rfl) (by kernel_rfl) (by kernel_rfl) (fun _ _ _ h => h) HI0 (yldI rfl (fun W hW => by rw [hI] at hW; obtain ⟨h6, h7⟩ := hW; go_simp)) ?_
  refine anyI_take (i := 3) (.pointer (some ⟨Wb, 6, none⟩)) rfl (by kernel_rfl) (by kernel_rfl) (by kernel_rfl) (by kernel_rfl) (fun _ _ _ h => h) HI0 (yldI rfl (fun W hW => by rw [hI] at hW; obtain ⟨h6, h7⟩ := hW; go_simp)) ?_
  refine anyI_take (i := 4) (lv) rfl (by kernel_rfl) (by kernel_rfl) (by kernel_rfl) (by kernel_rfl) (fun _ _ _ h => h) HI0 (yldI rfl (fun W hW => by rw [hI] at hW; obtain ⟨h6, h7⟩ := hW; go_simp)) ?_
  refine anyI_take (i := 5) (.int .i64 (G : Int)) rfl (by kernel_rfl) (by kernel_rfl) (by kernel_rfl) (by kernel_rfl) (fun _ _ _ h => h) HI0 (yldI rfl (fun W hW => by rw [hI] at hW; obtain ⟨h6, h7⟩ := hW; go_simp)) ?_
  refine anyI_take (i := 6) (.pointer (some ⟨Wb, 0, none⟩)) rfl (by kernel_rfl) (by kernel_rfl) (by kernel_rfl) (by kernel_rfl) (fun _ _ _ h => h) HI0 (yldI rfl (fun W hW => by rw [hI] at hW; obtain ⟨h6, h7⟩ := hW; go_simp)) ?_
  refine anyI_take (i := 7) (.pointer (some ⟨Wb, 0, none⟩)) rfl (by kernel_rfl) (by kernel_rfl) (by kernel_rfl) (by kernel_rfl) (fun _ _ _ h => h) HI0 (yldI rfl (fun W hW => by rw [hI] at hW; obtain ⟨h6, h7⟩ := hW; go_simp)) ?_
  refine anyI_take (i := 8) (.pointer (some ⟨Wb, 7, none⟩)) rfl (by kernel_rfl) (by kernel_rfl) (by kernel_rfl) (by kernel_rfl) (fun _ _ _ h => h) HI0 (yldI rfl (fun W hW => by rw [hI] at hW; obtain ⟨h6, h7⟩ := hW; go_simp)) ?_
  refine anyI_take (i := 9) (.int .i64 S.bytes) rfl (by kernel_rfl) (by kernel_rfl) (by kernel_rfl) (by kernel_rfl) (fun _ _ _ h => h) HI0 (yldI rfl (fun W hW => by rw [hI] at hW; obtain ⟨h6, h7⟩ := hW; go_simp)) ?_
  generalize hGG : Act.put _ _ _ = A0
  simp [Act.put] at hGG
  subst hGG
  subst hlv' hlv0
  refine anyI_one (i := 10) (by kernel_rfl) (wpOp_val (w' := (w.alloc (Obj.cells #[.int .i64 8, .slice ta p.t.length tc, .int .i64 p.n] 40)).drew) (v := .agg #[.int .i64 (G : Int), .int .i64 S.bytes]) rfl rfl (by go_simp) ⟨.inr HI0, ?_⟩)
  refine anyI_one (i := 11) (by kernel_rfl) (wpOp_val (w' := ((w.alloc (Obj.cells #[.int .i64 8, .slice ta p.t.length tc, .int .i64 p.n] 40)).alloc (Obj.cells #[.int .i64 (G : Int), .int .i64 S.bytes] 42)).drew) (v := .slice (some ⟨w.heap.size + 1, 0, none⟩) 1 1) rfl rfl (by go_simp) ⟨.inr HI1, ?_⟩)
  refine anyI_one (i := 12) (by kernel_rfl) (wpOp_val (w' := w') (v := .slice la (S.list.length + 1) lc) rfl rfl (by go_simp) ⟨.inr HI2, ?_⟩)
  refine anyI_one (i := 13) (by kernel_rfl) (wpOp_val (w' := w') (v := .pointer (some ⟨Wb, 0, none⟩)) rfl rfl (by go_simp) ⟨.inr HI2, ?_⟩)
  refine anyI_one (i := 14) (by kernel_rfl) (wpOp_val (w' := w') (v := .pointer (some ⟨Wb, 6, none⟩)) rfl rfl (by go_simp) ⟨.inr HI2, ?_⟩)
  refine anyI_one (i := 15) (by kernel_rfl) (wpOp_skip (w' := w'.setCell ⟨Wb, 6, none⟩ (.slice la (S.list.length + 1) lc)) rfl rfl (by go_simp) ⟨.inl rfl, ?_⟩)
  refine anyI_done (by kernel_rfl) ?_ _
  subst hI
  clear HI0 HI1 HI2 hrun d6 d7 df6 cc6 cc7 ce6 ce7 gE c0 c1 c2 c3 c4 c5 c6 c7 k0 k1 k2 cf7 gd gA
  generalize w'.setCell ⟨Wb, 6, none⟩ (.slice la (S.list.length + 1) lc) = w2 at *
  obtain ⟨c0, c1, c2, c3, c4, c5, c6, c7, cf⟩ := hW2.cell
  have cf4 := cf 4
  simp only [hpast] at c4
  obtain ⟨ga, gc, hgv0, hgr⟩ := id hgv2
  subst hgv0
  obtain ⟨tg, tcap, htv, tc0, tcf, htH⟩ := hW2.row (j := G) hGt
  obtain ⟨gb, goff, hga0, hgb, hgc⟩ := hgr (fun e => by rw [e] at hgl; simp at hgl)
  subst hga0
  have gx := hgc (G) hgl
  have qz : (gs[G]?.getD 0 == 1) = false := by simpa using hq
  have hgI : (G : Int) < (gs.length : Int) := by omega
  clear hgc
  generalize gs[G]?.getD 0 = z at gx qz
  have hW3 := hW2.pastT
  have hB3 := hBw.setCell (p := ⟨Wb, 4, none⟩) (by simpa using hlo) (.bool true)
  subst htv
  have hW4 := hW3.put (G) 2
  have hB4 := hB3.setCell (p := ⟨tg, G, none⟩) htH (.int .i64 2)
  have IH := hide (ih fr ind _ _ _ hW4 (hd.below hB4) (Rd.below hgv hB4) (by have := hB4.size; omega) hb0 (by show S.bytes + _ ≤ _; omega) (by show (S.list ++ _).length + _ ≤ _; rw [List.length_append]; simp only [List.length_cons, List.length_nil]; omega) (by show _ ≤ (S.taken.set _ _).length; rw [List.length_set]; omega) hok.2 hi0 (by have := nestT_pos x hok.2; omega))
  have hti : (G : Int) < (S.taken.length : Int) := by omega
  have HB3 := hide hB4
  have htWb : ¬ tg = Wb := fun e => hW2.tw (by rw [e]; rfl)
  clear hW3 hB3 hW4 hB4 hW2 hBw hgv2 hd2 hgr ih HF cf hk hgv hd hW hB2
  go_wp2_with fail
  refine IH.out.mono ?_
  rintro e w3 ⟨rfl, W1, B1⟩
  have HW1 := hide W1
  have HB1 := hide (HB3.out.trans B1)
  clear IH W1 B1
  go_wp2
  go_returns
  rw [HS.out, HM.out]
  exact ⟨rfl, HW1.out, HB1.out⟩

set_option maxHeartbeats 4000000 in
set_option maxRecDepth 100000 in
theorem gp_no {H Wb : Nat} {dv gv : Value} {gs : List Int} {last : Int} {fl : Bool} {doc : List Pc} {tv : Value} (hn : doc.length ≤ 1048576) {p : Pc} {a n : Nat} {x : Tr} (hp : doc[a]? = some p) (hk : p.k = 8) (hga : grp doc a = n + cntG x) (hgl : n + cntG x < gs.length) (ih : GoAt H Wb dv gv gs last fl doc tv x n a)   (fr ind : Int) (S : WS) (lv : Value) (w : World) (hW : WkR H Wb w dv gv last fl S tv lv) (hd : RdP H w dv doc) (hgv : RdI H w gv gs) (hH : H ≤ w.heap.size) (hb0 : 0 ≤ S.bytes) (hb1 : S.bytes + 4001 * sz (.un p x) ≤ 1000000000000) (hll : S.list.length + sz (.un p x) ≤ 1000000000) (hg : n + cntG (.un p x) ≤ S.taken.length) (hok : okN (.un p x)) (hi0 : 0 ≤ ind) (hi1 : ind + nestT (.un p x) ≤ 4000) (hpast : S.past = false) (hq : ¬ gs[n + cntG x]?.getD 0 = 1) (he : ¬ ((n + cntG x : Nat) : Int) = last) :
    Calls Tryd.prog 27 #[.pointer (some ⟨Wb, 0, none⟩), .int .i64 fr, .int .i64 ((a + 1 : Nat) : Int), .int .i64 ind] w fun e w' => e = .returned (.tuple #[]) ∧ (∃ lv', WkR H Wb w' dv gv last fl (goT gs last fl (.un p x) n ind S) tv lv') ∧ Below H w w' := by
  have hnU := hn
  have hokU := hok
  have hi0U := hi0
  have hi1U := hi1
  have hllU := hll
  obtain ⟨ha, hpa⟩ := List.getElem?_eq_some_iff.1 hp
  obtain ⟨b, off, cap, tx, hdv, hbH, hP⟩ := hd.at a ha
  rw [hpa] at hP
  obtain ⟨c0, c1, c2, c3, c4, c5, c6, c7, cf⟩ := hW.cell
  have k0 := hP.k
  have k1 := hP.t
  have k2 := hP.n
  have cf7 := cf 7
  have hin : (a : Int) < (doc.length : Int) := by omega
  obtain ⟨ta, tc, htx, htl, htm⟩ := hP.sl
  subst htx
  have hWlt := hW.lt
  have hlo := hW.lo
  have gA := fun k => World.grownBy_alloc w (Obj.cells #[.int .i64 k, .slice ta p.t.length tc, .int .i64 p.n] 40) none
  have HW := hide hW
  have HD := hide hd
  subst hdv
  rw [show ((a + 1 : Nat) : Int) = (a : Int) + 1 by omega]
  simp only [cntG, nestT, sz, okN] at hg hi1 hb1 hok hll
  rw [if_pos hk] at hg
  have gd : w.grownBy (w.alloc (Obj.cells #[.int .i64 8, .slice ta p.t.length tc, .int .i64 p.n] 40)).drew none := grown_trans (gA 8) ⟨rfl, rfl, rfl, Nat.le_refl _, fun _ _ _ => rfl⟩
  have hsA := (gA 8).size
  have hsz : (w.alloc (Obj.cells #[.int .i64 8, .slice ta p.t.length tc, .int .i64 p.n] 40)).drew.heap.size = w.heap.size + 1 := by simp
  have HG := hide (groupsTo_any _ doc a (w.alloc (Obj.cells #[.int .i64 8, .slice ta p.t.length tc, .int .i64 p.n] 40)) ((hd.keep (gA 8)).wide (by omega)) hn (by omega))
  rw [hga] at HG
  obtain ⟨lv', w', hrun, hW2, hB2, ⟨d6, d7, df6⟩, la, lc, hlv'⟩ := (hW.keep gd).meet (by omega) ((n + cntG x : Nat) : Int) (by omega)
  rw [hsz] at hrun
  replace hrun : (Builtin.append_ #[36, 36] 36 #[lv, .slice (some ⟨w.heap.size + 1, 0, none⟩) 1 1]).run Tryd.prog ((w.alloc (Obj.cells #[.int .i64 8, .slice ta p.t.length tc, .int .i64 p.n] 40)).alloc (Obj.cells #[.int .i64 ((n + cntG x : Nat) : Int), .int .i64 S.bytes] 42)).drew = .ok lv' w' := hrun
  have cc6 := gd.cell c6 (by simp)
  have cc7 := gd.cell c7 (by simp)
  have gE := World.grownBy_alloc (w.alloc (Obj.cells #[.int .i64 8, .slice ta p.t.length tc, .int .i64 p.n] 40)).drew (Obj.cells #[.int .i64 ((n + cntG x : Nat) : Int), .int .i64 S.bytes] 42) none
  have ce6 := gE.cell cc6 (by simp)
  have ce7 := gE.cell cc7 (by simp)
  have hBw := (((Below.refl H w).alloc hH (Obj.cells #[.int .i64 8, .slice ta p.t.length tc, .int .i64 p.n] 40)).drew).trans hB2
  have hgv2 := Rd.below hgv hBw
  have hd2 := hd.below hBw
  obtain ⟨la0, lc0, hlv0⟩ : ∃ a c, lv = .slice a S.list.length c := by
    rcases hW.ls.2 with ⟨h1, h2⟩ | ⟨g', cap', cur, h1, _⟩
    · exact ⟨none, 0, by rw [h1, h2]⟩
    · exact ⟨_, _, h1⟩
  have hsz2 := hBw.size
  have HM : Hid (meetS last (n + cntG x) S = { past := false, taken := S.taken, list := S.list ++ [(((n + cntG x : Nat) : Int), S.bytes)], bytes := S.bytes }) := by unfold Hid meetS; rw [hpast, decide_eq_false he]; rfl
  have HF : Hid (isFl gs last fl (n + cntG x) S = false) := by unfold Hid isFl; rw [if_neg he, hpast, decide_eq_false hq]; rfl
  have HS : Hid (goT gs last fl (.un p x) n ind S = goT gs last fl x n ind (putS (n + cntG x) (meetS last (n + cntG x) S))) := by unfold Hid; rw [goT, if_neg (by omega), HF.out]; simp
  rw [hk] at k0
  have hGint : ((n + cntG x : Nat) : Int) ≤ 1000000000 := by have := grp_le doc a; omega
  have hGt : n + cntG x < S.taken.length := by omega
  have qe : (((n + cntG x : Nat) : Int) == last) = false := by simpa using he
  have hflb := flB_le (.un p x)
  simp only [sz] at hflb
  have HG8 := hide hg
  have hmore : n + cntG x + 1 ≤ S.taken.length := by omega
  have hgU := hgl
  generalize n + cntG x = G at *
  clear hP cf HW HD
  go_enter Tryd.func27, Tryd.ntmps27
  go_wp2_with fail
  refine HG.out.mono ?_
  rintro e w1 ⟨rfl, rfl⟩
  clear HG
  go_wp2
  obtain ⟨I, hI⟩ : ∃ I : World → Prop, I = (fun W : World => W.cell? ⟨Wb, 6, none⟩ = some lv ∧ W.cell? ⟨Wb, 7, none⟩ = some (.int .i64 S.bytes)) := ⟨_, rfl⟩
  have HI0 : I (w.alloc (Obj.cells #[.int .i64 8, .slice ta p.t.length tc, .int .i64 p.n] 40)).drew := by rw [hI]; exact ⟨cc6, cc7⟩
  have HI1 : I ((w.alloc (Obj.cells #[.int .i64 8, .slice ta p.t.length tc, .int .i64 p.n] 40)).alloc (Obj.cells #[.int .i64 (G : Int), .int .i64 S.bytes] 42)).drew := by rw [hI]; exact ⟨ce6, ce7⟩
  have HI2 : I w' := by rw [hI]; exact ⟨d6, d7⟩
  refine region_anyI I (fun i => i == 15) (by kernel_rfl) ?_
  show anyI _ _ _ _ _ _ 16 (Array.replicate 16 false) _ _
  refine anyI_take (i := 0) (.pointer (some ⟨Wb, 0, none⟩)) rfl (by kernel_rfl) (by kernel_rfl) (by kernel_rfl) (by kernel_rfl) (fun _ _ _ h => h) HI0 (yldI rfl (fun W hW => by rw [hI] at hW; obtain ⟨h6, h7⟩ := hW; go_simp)) ?_
  refine anyI_take (i := 1) (.pointer (some ⟨Wb, 0, none⟩)) rfl (by kernel_rfl) (by kernel_rfl) (by kernel_rfl) (by kernel_rfl) (fun _ _ _ h => h) HI0 (yldI rfl (fun W hW => by rw [hI] at hW; obtain ⟨h6, h7⟩ := hW; go_simp)) ?_
  refine anyI_take (i := 2) (.pointer (some ⟨Wb, 0, none⟩)) rfl (by kernel_rfl) (by kernel_rfl) (by kernel_rfl) (by kernel_rfl) (fun _ _ _ h => h) HI0 (yldI rfl (fun W hW => by rw [hI] at hW; obtain ⟨h6, h7⟩ := hW; go_simp)) ?_
  refine anyI_take (i := 3) (.pointer (some ⟨Wb, 6, none⟩)) rfl (by kernel_rfl) (by kernel_rfl) (by kernel_rfl) (by kernel_rfl) (fun _ _ _ h => h) HI0 (yldI rfl (fun W hW => by rw [hI] at hW; obtain ⟨h6, h7⟩ := hW; go_simp)) ?_
  refine anyI_take (i := 4) (lv) rfl (by kernel_rfl) (by kernel_rfl) (by kernel_rfl) (by kernel_rfl) (fun _ _ _ h => h) HI0 (yldI rfl (fun W hW => by rw [hI] at hW; obtain ⟨h6, h7⟩ := hW; go_simp)) ?_
  refine anyI_take (i := 5) (.int .i64 (G : Int)) rfl (by kernel_rfl) (by kernel_rfl) (by kernel_rfl) (by kernel_rfl) (fun _ _ _ h => h) HI0 (yldI rfl (fun W hW => by rw [hI] at hW; obtain ⟨h6, h7⟩ := hW; go_simp)) ?_
  refine anyI_take (i := 6) (.pointer (some ⟨Wb, 0, none⟩)) rfl (by kernel_rfl) (by kernel_rfl) (by kernel_rfl) (by kernel_rfl) (fun _ _ _ h => h) HI0 (yldI rfl (fun W hW => by rw [hI] at hW; obtain ⟨h6, h7⟩ := hW; go_simp)) ?_
  refine anyI_take (i := 7) (.pointer (some ⟨Wb, 0, none⟩)) rfl (by kernel_rfl) (by kernel_rfl) (by kernel_rfl) (by kernel_rfl) (fun _ _ _ h => h) HI0 (yldI rfl (fun W hW => by rw [hI] at hW; obtain ⟨h6, h7⟩ := hW; go_simp)) ?_
  refine anyI_take (i := 8) (.pointer (some ⟨Wb, 7, none⟩)) rfl (by kernel_rfl) (by kernel_rfl) (by kernel_rfl) (by kernel_rfl) (fun _ _ _ h => h) HI0 (yldI rfl (fun W hW => by rw [hI] at hW; obtain ⟨h6, h7⟩ := hW; go_simp)) ?_
  refine anyI_take (i := 9) (.int .i64 S.bytes) rfl (by kernel_rfl) (by kernel_rfl) (by kernel_rfl) (by kernel_rfl) (fun _ _ _ h => h) HI0 (yldI rfl (fun W hW => by rw [hI] at hW; obtain ⟨h6, h7⟩ := hW; go_simp)) ?_
  generalize hGG : Act.put _ _ _ = A0
  simp [Act.put] at hGG
  subst hGG
  subst hlv' hlv0
  refine anyI_one (i := 10) (by kernel_rfl) (wpOp_val (w' := (w.alloc (Obj.cells #[.int .i64 8, .slice ta p.t.length tc, .int .i64 p.n] 40)).drew) (v := .agg #[.int .i64 (G : Int), .int .i64 S.bytes]) rfl rfl (by go_simp) ⟨.inr HI0, ?_⟩)
  refine anyI_one (i := 11) (by kernel_rfl) (wpOp_val (w' := ((w.alloc (Obj.cells #[.int .i64 8, .slice ta p.t.length tc, .int .i64 p.n] 40)).alloc (Obj.cells #[.int .i64 (G : Int), .int .i64 S.bytes] 42)).drew) (v := .slice (some ⟨w.heap.size + 1, 0, none⟩) 1 1) rfl rfl (by go_simp) ⟨.inr HI1, ?_⟩)
  refine anyI_one (i := 12) (by kernel_rfl) (wpOp_val (w' := w') (v := .slice la (S.list.length + 1) lc) rfl rfl (by go_simp) ⟨.inr HI2, ?_⟩)
  refine anyI_one (i := 13) (by kernel_rfl) (wpOp_val (w' := w') (v := .pointer (some ⟨Wb, 0, none⟩)) rfl rfl (by go_simp) ⟨.inr HI2, ?_⟩)
  refine anyI_one (i := 14) (by kernel_rfl) (wpOp_val (w' := w') (v := .pointer (some ⟨Wb, 6, none⟩)) rfl rfl (by go_simp) ⟨.inr HI2, ?_⟩)
  refine anyI_one (i := 15) (by kernel_rfl) (wpOp_skip (w' := w'.setCell ⟨Wb, 6, none⟩ (.slice la (S.list.length + 1) lc)) rfl rfl (by go_simp) ⟨.inl rfl, ?_⟩)
  refine anyI_done (by kernel_rfl) ?_ _
  subst hI
  clear HI0 HI1 HI2 hrun d6 d7 df6 cc6 cc7 ce6 ce7 gE c0 c1 c2 c3 c4 c5 c6 c7 k0 k1 k2 cf7 gd gA
  generalize w'.setCell ⟨Wb, 6, none⟩ (.slice la (S.list.length + 1) lc) = w2 at *
  obtain ⟨c0, c1, c2, c3, c4, c5, c6, c7, cf⟩ := hW2.cell
  have cf4 := cf 4
  simp only [hpast] at c4
  obtain ⟨ga, gc, hgv0, hgr⟩ := id hgv2
  subst hgv0
  obtain ⟨tg, tcap, htv, tc0, tcf, htH⟩ := hW2.row (j := G) hGt
  obtain ⟨gb, goff, hga0, hgb, hgc⟩ := hgr (fun e => by rw [e] at hgl; simp at hgl)
  subst hga0
  have gx := hgc (G) hgl
  have qz : (gs[G]?.getD 0 == 1) = false := by simpa using hq
  have hgI : (G : Int) < (gs.length : Int) := by omega
  clear hgc
  generalize gs[G]?.getD 0 = z at gx qz
  have hW3 := hW2
  have hB3 := hBw
  have hS3 : { S with list := S.list ++ [((G : Int), S.bytes)] } = ({ past := false, taken := S.taken, list := S.list ++ [((G : Int), S.bytes)], bytes := S.bytes } : WS) := by rw [← hpast]
  rw [hS3] at hW3
  subst htv
  have hW4 := hW3.put (G) 2
  have hB4 := hB3.setCell (p := ⟨tg, G, none⟩) htH (.int .i64 2)
  have IH := hide (ih fr ind _ _ _ hW4 (hd.below hB4) (Rd.below hgv hB4) (by have := hB4.size; omega) hb0 (by show S.bytes + _ ≤ _; omega) (by show (S.list ++ _).length + _ ≤ _; rw [List.length_append]; simp only [List.length_cons, List.length_nil]; omega) (by show _ ≤ (S.taken.set _ _).length; rw [List.length_set]; omega) hok.2 hi0 (by have := nestT_pos x hok.2; omega))
  have hti : (G : Int) < (S.taken.length : Int) := by omega
  have HB3 := hide hB4
  have htWb : ¬ tg = Wb := fun e => hW2.tw (by rw [e]; rfl)
  clear hW3 hB3 hW4 hB4 hW2 hBw hgv2 hd2 hgr ih HF cf hk hgv hd hW hB2
  go_wp2_with fail
  refine IH.out.mono ?_
  rintro e w3 ⟨rfl, W1, B1⟩
  have HW1 := hide W1
  have HB1 := hide (HB3.out.trans B1)
  clear IH W1 B1
  go_wp2
  go_returns
  rw [HS.out, HM.out]
  exact ⟨rfl, HW1.out, HB1.out⟩

end Go.Proofs.YtgmjpdejfdldlaaDoor

