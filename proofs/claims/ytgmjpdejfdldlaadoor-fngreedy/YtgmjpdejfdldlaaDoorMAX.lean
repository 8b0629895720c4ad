import Derived.BigRegion
import Derived.Test.YtgmjpdejfdldlaaDoorMAV
import Derived.Test.YtgmjpdejfdldlaaDoorMAW
namespace Go.Proofs.YtgmjpdejfdldlaaDoor
open Go.RowKit

def cellsM : List (Int × Int) → List Value
  | [] => []
  | x :: r => .int .i64 x.1 :: .int .i64 x.2 :: cellsM r

/-- The walk in memory: its block, its two rows; all lies from block H on. -/
structure WkR (H Wb : Nat) (w : World) (dv gv : Value) (last : Int) (fl : Bool) (S : WS) (tv lv : Value) : Prop where
  blk : w.heap[Wb]? = some (.cells #[dv, gv, .int .i64 last, .bool fl, .bool S.past, tv, lv, .int .i64 S.bytes] 38 (0, 0))
  lo : H ≤ Wb
  tk : Ow .i64 3 H w tv S.taken
  ls : w.ownsRow H 42 2 lv S.list.length (cellsM S.list)
  tw : tv.ownBlock ≠ some Wb
  lw : lv.ownBlock ≠ some Wb
  tl : ∀ g, tv.ownBlock = some g → lv.ownBlock ≠ some g
theorem WkR.lt {H Wb : Nat} {w : World} {dv gv : Value} {last : Int} {fl : Bool} {S : WS} {tv lv : Value} (h : WkR H Wb w dv gv last fl S tv lv) : Wb < w.heap.size := (Array.getElem?_eq_some_iff.1 h.blk).1
theorem WkR.cell {H Wb : Nat} {w : World} {dv gv : Value} {last : Int} {fl : Bool} {S : WS} {tv lv : Value} (h : WkR H Wb w dv gv last fl S tv lv) :
    w.cell? ⟨Wb, 0, none⟩ = some dv ∧ w.cell? ⟨Wb, 1, none⟩ = some gv ∧ w.cell? ⟨Wb, 2, none⟩ = some (.int .i64 last) ∧ w.cell? ⟨Wb, 3, none⟩ = some (.bool fl) ∧ w.cell? ⟨Wb, 4, none⟩ = some (.bool S.past) ∧ w.cell? ⟨Wb, 5, none⟩ = some tv ∧ w.cell? ⟨Wb, 6, none⟩ = some lv ∧ w.cell? ⟨Wb, 7, none⟩ = some (.int .i64 S.bytes) ∧ ∀ j, w.frozen? ⟨Wb, j, none⟩ = false := by
  refine ⟨?_, ?_, ?_, ?_, ?_, ?_, ?_, ?_, fun j => frozen_of_row w Wb j _ _ h.blk⟩ <;> rw [cell_of_row w Wb _ _ _ _ h.blk] <;> rfl
theorem WkR.keep {H Wb : Nat} {w w' : World} {dv gv : Value} {last : Int} {fl : Bool} {S : WS} {tv lv : Value} (h : WkR H Wb w dv gv last fl S tv lv) (g : w.grownBy w' none) : WkR H Wb w' dv gv last fl S tv lv :=
  ⟨(g.block Wb h.lt (by simp)).trans h.blk, h.lo, World.ownsRow.kept h.tk g (by cases tv.ownBlock <;> simp), World.ownsRow.kept h.ls g (by cases lv.ownBlock <;> simp), h.tw, h.lw, h.tl⟩
/-- The number of bytes turns. -/
theorem WkR.by {H Wb : Nat} {w : World} {dv gv : Value} {last : Int} {fl : Bool} {S : WS} {tv lv : Value} (h : WkR H Wb w dv gv last fl S tv lv) (k : Int) : WkR H Wb (w.setCell ⟨Wb, 7, none⟩ (.int .i64 (S.bytes + k))) dv gv last fl (byS k S) tv lv := by
  have g := grown_set w ⟨Wb, 7, none⟩ (.int .i64 (S.bytes + k))
  exact ⟨heap_setCell_same w Wb 7 _ _ _ h.blk, h.lo, World.ownsRow.kept h.tk g (.inr h.tw), World.ownsRow.kept h.ls g (.inr h.lw), h.tw, h.lw, h.tl⟩

theorem RdP.below {B : Nat} {w w' : World} {v : Value} {doc : List Pc} (h : RdP B w v doc) (g : Below B w w') : RdP B w' v doc := by
  obtain ⟨a, cap, hv, h1, h2, hh⟩ := h
  refine ⟨a, cap, hv, h1, h2, fun h0 => ?_⟩
  obtain ⟨b, off, ha, hb, hc⟩ := hh h0
  refine ⟨b, off, ha, hb, fun j p hp => ?_⟩
  obtain ⟨tv, k, t, n, rd, sl⟩ := hc j p hp
  exact ⟨tv, (g.cell (p := ⟨b, off + j * 3, none⟩) hb).trans k, (g.cell (p := ⟨b, off + j * 3 + 1, none⟩) hb).trans t, (g.cell (p := ⟨b, off + j * 3 + 2, none⟩) hb).trans n, rd.below g, sl⟩
/-- A choice is put down. -/
theorem WkR.put {H Wb g cap : Nat} {w : World} {dv gv : Value} {last : Int} {fl : Bool} {S : WS} {lv : Value} (h : WkR H Wb w dv gv last fl S (.slice (some ⟨g, 0, none⟩) S.taken.length cap) lv) (j : Nat) (c : Int) :
    WkR H Wb (w.setCell ⟨g, j, none⟩ (.int .i64 c)) dv gv last fl { S with taken := S.taken.set j c } (.slice (some ⟨g, 0, none⟩) S.taken.length cap) lv := by
  obtain ⟨h1, h2⟩ := World.ownsRow.stored h.tk j (.int .i64 c)
  have hgW : Wb ≠ g := fun e => h.tw (by rw [e]; rfl)
  refine ⟨(h2.block Wb h.lt (by simpa using hgW)).trans h.blk, h.lo, ?_, World.ownsRow.kept h.ls h2 (.inr (h.tl g rfl)), h.tw, h.lw, h.tl⟩
  unfold Ow at *
  simpa [List.map_set] using h1
theorem WkR.row {H Wb : Nat} {w : World} {dv gv : Value} {last : Int} {fl : Bool} {S : WS} {tv lv : Value} (h : WkR H Wb w dv gv last fl S tv lv) {j : Nat} (hj : j < S.taken.length) : ∃ g cap, tv = .slice (some ⟨g, 0, none⟩) S.taken.length cap ∧ w.cell? ⟨g, j, none⟩ = some (.int .i64 (S.taken[j]?.getD 0)) ∧ w.frozen? ⟨g, j, none⟩ = false ∧ H ≤ g := by
  rcases h.tk.2 with ⟨_, h0⟩ | ⟨g, cap, cur, hv, hb, _⟩
  · omega
  · have h' := h.tk
    rw [hv] at h'
    refine ⟨g, cap, hv, ?_, World.ownsRow.frozenAt h' j, hb⟩
    rw [World.ownsRow.cellAt h' j (by omega)]
    simp [hj]

theorem wrapI {n : Int} (h0 : -9223372036854775808 ≤ n) (h1 : n ≤ 9223372036854775807) : IntKind.i64.wrap n = n := by rw [IntKind.wrap_i64]; omega

section
variable (H Wb : Nat) (dv gv : Value) (last : Int) (fl : Bool) (doc : List Pc) (tv lv : Value)
/-- The contract of flats at a part. -/
def FlAt (T : Tr) (n b : Nat) : Prop := ∀ (fr : Int) (S : WS) (w : World), WkR H Wb w dv gv last fl S tv lv → RdP H w dv doc → H ≤ w.heap.size → 0 ≤ S.bytes → S.bytes + flB T ≤ 1000000000000 → n + cntG T ≤ S.taken.length →
  Calls Tryd.prog 51 #[.pointer (some ⟨Wb, 0, none⟩), .int .i64 fr, .int .i64 (b : Int)] w fun e w' => e = .returned (.tuple #[]) ∧ WkR H Wb w' dv gv last fl (flS T n S) tv lv ∧ Below H w w'
end
theorem flB_pos : ∀ (T : Tr), 0 ≤ flB T
  | .leaf p => by
    simp only [flB]
    split
    · omega
    · split <;> omega
  | .un _ x => flB_pos x
  | .bin p x y => by have := flB_pos x; have := flB_pos y; simp only [flB]; split <;> omega
theorem flS_len (T : Tr) (n : Nat) (S : WS) : (flS T n S).taken.length = S.taken.length := markF_len _ _ _

set_option maxHeartbeats 4000000 in
set_option maxRecDepth 100000 in
theorem fl_text {H Wb : Nat} {dv gv : Value} {last : Int} {fl : Bool} {doc : List Pc} {tv lv : Value} (hn : doc.length ≤ 1048576) {p : Pc} {a n : Nat} (hp : doc[a]? = some p) (hk : p.k = 1) : FlAt H Wb dv gv last fl doc tv lv (.leaf p) n (a + 1) := by
  intro fr S w hW hd hH hb0 hb1 hg
  obtain ⟨ha, hpa⟩ := List.getElem?_eq_some_iff.1 hp
  obtain ⟨b, off, cap, tx, hdv, hbH, hP⟩ := hd.at a ha
  rw [hpa] at hP
  obtain ⟨c0, c1, c2, c3, c4, c5, c6, c7, cf⟩ := hW.cell
  have k0 := hP.k
  have k1 := hP.t
  have k2 := hP.n
  have cf7 := cf 7
  have hin : (a : Int) < (doc.length : Int) := by omega
  obtain ⟨ta, tc, htx, htl, htm⟩ := hP.sl
  subst htx
  have hWlt := hW.lt
  have hlo := hW.lo
  have gA := fun k => World.grownBy_alloc w (Obj.cells #[.int .i64 k, .slice ta p.t.length tc, .int .i64 p.n] 40) none
  have HW := hide hW
  have HD := hide hd
  subst hdv
  rw [show ((a + 1 : Nat) : Int) = (a : Int) + 1 by omega]
  have hfl : flB (.leaf p) = p.t.length := by simp only [flB]; rw [if_pos hk]
  rw [hfl] at hb1
  have HS : Hid (flS (.leaf p) n S = byS p.t.length S) := by unfold Hid flS byS; rw [hfl]; rfl
  rw [hk] at k0
  clear hk hfl
  clear hW hd hP cf
  go_enter Tryd.func51, Tryd.ntmps51
  go_wp2
  go_region
  go_wp2
  go_returns
  rw [HS.out]
  have g1 := World.grownBy_alloc (w.setCell ⟨Wb, 7, none⟩ (.int .i64 (S.bytes + (p.t.length : Int)))) (Obj.cells #[.int .i64 1, .slice ta p.t.length tc, .int .i64 p.n] 40) none
  exact ⟨rfl, ((HW.out.by p.t.length).keep g1).keep ⟨rfl, rfl, rfl, Nat.le_refl _, fun _ _ _ => rfl⟩, (((Below.refl H w).setCell (p := ⟨Wb, 7, none⟩) (by simpa using hlo) _).alloc (by simpa using hH) _).drew⟩

set_option maxHeartbeats 4000000 in
set_option maxRecDepth 100000 in
theorem fl_line {H Wb : Nat} {dv gv : Value} {last : Int} {fl : Bool} {doc : List Pc} {tv lv : Value} (hn : doc.length ≤ 1048576) {p : Pc} {a n : Nat} (hp : doc[a]? = some p) (hk : p.k = 2) : FlAt H Wb dv gv last fl doc tv lv (.leaf p) n (a + 1) := by
  intro fr S w hW hd hH hb0 hb1 hg
  obtain ⟨ha, hpa⟩ := List.getElem?_eq_some_iff.1 hp
  obtain ⟨b, off, cap, tx, hdv, hbH, hP⟩ := hd.at a ha
  rw [hpa] at hP
  obtain ⟨c0, c1, c2, c3, c4, c5, c6, c7, cf⟩ := hW.cell
  have k0 := hP.k
  have k1 := hP.t
  have k2 := hP.n
  have cf7 := cf 7
  have hin : (a : Int) < (doc.length : Int) := by omega
  obtain ⟨ta, tc, htx, htl, htm⟩ := hP.sl
  subst htx
  have hWlt := hW.lt
  have hlo := hW.lo
  have gA := fun k => World.grownBy_alloc w (Obj.cells #[.int .i64 k, .slice ta p.t.length tc, .int .i64 p.n] 40) none
  have HW := hide hW
  have HD := hide hd
  subst hdv
  rw [show ((a + 1 : Nat) : Int) = (a : Int) + 1 by omega]
  have hfl : flB (.leaf p) = 1 := by simp only [flB]; rw [if_neg (by omega), if_pos hk]
  rw [hfl] at hb1
  have HS : Hid (flS (.leaf p) n S = byS 1 S) := by unfold Hid flS byS; rw [hfl]; rfl
  rw [hk] at k0
  clear hk hfl
  clear hW hd hP cf
  go_enter Tryd.func51, Tryd.ntmps51
  go_wp2
  go_returns
  rw [HS.out]
  have g1 := World.grownBy_alloc (w.setCell ⟨Wb, 7, none⟩ (.int .i64 (S.bytes + 1))) (Obj.cells #[.int .i64 2, .slice ta p.t.length tc, .int .i64 p.n] 40) none
  exact ⟨rfl, (HW.out.by 1).keep g1, ((Below.refl H w).setCell (p := ⟨Wb, 7, none⟩) (by simpa using hlo) _).alloc (by simpa using hH) _⟩

set_option maxHeartbeats 4000000 in
set_option maxRecDepth 100000 in
theorem fl_none {H Wb : Nat} {dv gv : Value} {last : Int} {fl : Bool} {doc : List Pc} {tv lv : Value} (hn : doc.length ≤ 1048576) {p : Pc} {a n : Nat} (hp : doc[a]? = some p) (hk : p.k = 0 ∨ p.k = 3 ∨ p.k = 4 ∨ p.k = 5) : FlAt H Wb dv gv last fl doc tv lv (.leaf p) n (a + 1) := by
  intro fr S w hW hd hH hb0 hb1 hg
  obtain ⟨ha, hpa⟩ := List.getElem?_eq_some_iff.1 hp
  obtain ⟨b, off, cap, tx, hdv, hbH, hP⟩ := hd.at a ha
  rw [hpa] at hP
  obtain ⟨c0, c1, c2, c3, c4, c5, c6, c7, cf⟩ := hW.cell
  have k0 := hP.k
  have k1 := hP.t
  have k2 := hP.n
  have cf7 := cf 7
  have hin : (a : Int) < (doc.length : Int) := by omega
  obtain ⟨ta, tc, htx, htl, htm⟩ := hP.sl
  subst htx
  have hWlt := hW.lt
  have hlo := hW.lo
  have gA := fun k => World.grownBy_alloc w (Obj.cells #[.int .i64 k, .slice ta p.t.length tc, .int .i64 p.n] 40) none
  have HW := hide hW
  have HD := hide hd
  subst hdv
  rw [show ((a + 1 : Nat) : Int) = (a : Int) + 1 by omega]
  have hfl : flB (.leaf p) = 0 := by simp only [flB]; rw [if_neg (by omega), if_neg (by omega)]
  have HS : Hid (flS (.leaf p) n S = S) := by unfold Hid flS; rw [hfl, Int.add_zero]; rfl
  have q1 : (p.k == 1) = false := by simp; omega
  have q2 : (p.k == 2) = false := by simp; omega
  have q6 : (p.k == 6) = false := by simp; omega
  have q7 : (p.k == 7) = false := by simp; omega
  have q8 : (p.k == 8) = false := by simp; omega
  have q9 : (p.k == 9) = false := by simp; omega
  have gA' := gA p.k
  generalize p.k = kk at *
  clear hk hfl
  clear hW hd hP cf
  go_enter Tryd.func51, Tryd.ntmps51
  go_wp2
  go_returns
  rw [HS.out]
  exact ⟨rfl, HW.out.keep gA', (Below.refl H w).alloc hH _⟩

set_option maxHeartbeats 4000000 in
set_option maxRecDepth 100000 in
theorem fl_nest {H Wb : Nat} {dv gv : Value} {last : Int} {fl : Bool} {doc : List Pc} {tv lv : Value} (hn : doc.length ≤ 1048576) {p : Pc} {a n : Nat} {x : Tr} (hp : doc[a]? = some p) (hk : p.k = 7) (ih : FlAt H Wb dv gv last fl doc tv lv x n a) : FlAt H Wb dv gv last fl doc tv lv (.un p x) n (a + 1) := by
  intro fr S w hW hd hH hb0 hb1 hg
  obtain ⟨ha, hpa⟩ := List.getElem?_eq_some_iff.1 hp
  obtain ⟨b, off, cap, tx, hdv, hbH, hP⟩ := hd.at a ha
  rw [hpa] at hP
  obtain ⟨c0, c1, c2, c3, c4, c5, c6, c7, cf⟩ := hW.cell
  have k0 := hP.k
  have k1 := hP.t
  have k2 := hP.n
  have cf7 := cf 7
  have hin : (a : Int) < (doc.length : Int) := by omega
  obtain ⟨ta, tc, htx, htl, htm⟩ := hP.sl
  subst htx
  have hWlt := hW.lt
  have hlo := hW.lo
  have gA := fun k => World.grownBy_alloc w (Obj.cells #[.int .i64 k, .slice ta p.t.length tc, .int .i64 p.n] 40) none
  have HW := hide hW
  have HD := hide hd
  subst hdv
  rw [show ((a + 1 : Nat) : Int) = (a : Int) + 1 by omega]
  simp only [cntG] at hg
  have IH := hide (ih fr S (w.alloc (Obj.cells #[.int .i64 7, .slice ta p.t.length tc, .int .i64 p.n] 40)) (hW.keep (gA 7)) (hd.keep (gA 7)) (by have := (gA 7).size; omega) hb0 hb1 (by omega))
  have HS : Hid (flS (.un p x) n S = flS x n S) := by unfold Hid flS; simp only [markF, flB]; rw [if_neg (by omega)]
  rw [hk] at k0
  clear hk ih
  clear hW hd hP cf
  go_enter Tryd.func51, Tryd.ntmps51
  go_wp2_with fail
  refine IH.out.mono ?_
  rintro e w1 ⟨rfl, W1, B1⟩
  have HW1 := hide W1
  have HB1 := hide (((Below.refl H w).alloc hH _).trans B1)
  clear IH W1 B1
  go_wp2
  go_returns
  rw [HS.out]
  exact ⟨rfl, HW1.out, HB1.out⟩

set_option maxHeartbeats 4000000 in
set_option maxRecDepth 100000 in
theorem fl_group {H Wb : Nat} {dv gv : Value} {last : Int} {fl : Bool} {doc : List Pc} {tv lv : Value} (hn : doc.length ≤ 1048576) {p : Pc} {a n : Nat} {x : Tr} (hp : doc[a]? = some p) (hk : p.k = 8) (hga : grp doc a = n + cntG x) (ih : FlAt H Wb dv gv last fl doc tv lv x n a) : FlAt H Wb dv gv last fl doc tv lv (.un p x) n (a + 1) := by
  intro fr S w hW hd hH hb0 hb1 hg
  obtain ⟨ha, hpa⟩ := List.getElem?_eq_some_iff.1 hp
  obtain ⟨b, off, cap, tx, hdv, hbH, hP⟩ := hd.at a ha
  rw [hpa] at hP
  obtain ⟨c0, c1, c2, c3, c4, c5, c6, c7, cf⟩ := hW.cell
  have k0 := hP.k
  have k1 := hP.t
  have k2 := hP.n
  have cf7 := cf 7
  have hin : (a : Int) < (doc.length : Int) := by omega
  obtain ⟨ta, tc, htx, htl, htm⟩ := hP.sl
  subst htx
  have hWlt := hW.lt
  have hlo := hW.lo
  have gA := fun k => World.grownBy_alloc w (Obj.cells #[.int .i64 k, .slice ta p.t.length tc, .int .i64 p.n] 40) none
  have HW := hide hW
  have HD := hide hd
  subst hdv
  rw [show ((a + 1 : Nat) : Int) = (a : Int) + 1 by omega]
  simp only [cntG] at hg
  rw [if_pos hk] at hg
  obtain ⟨g, gc, htv, gc0, gcf, hgH⟩ := hW.row (j := n + cntG x) (by omega)
  have gd : w.grownBy (w.alloc (Obj.cells #[.int .i64 8, .slice ta p.t.length tc, .int .i64 p.n] 40)).drew none := grown_trans (gA 8) ⟨rfl, rfl, rfl, Nat.le_refl _, fun _ _ _ => rfl⟩
  have hgl : g < w.heap.size := World.block_lt_of_cell? w _ gc0
  have hsz : (w.alloc (Obj.cells #[.int .i64 8, .slice ta p.t.length tc, .int .i64 p.n] 40)).drew.heap.size = w.heap.size + 1 := by simp
  have HG := hide (groupsTo_any _ doc a (w.alloc (Obj.cells #[.int .i64 8, .slice ta p.t.length tc, .int .i64 p.n] 40)).drew ((hd.keep gd).wide (by omega)) hn (by omega))
  rw [hga] at HG
  subst htv
  have gd2 : (w.setCell ⟨g, n + cntG x, none⟩ (.int .i64 1)).grownBy ((w.setCell ⟨g, n + cntG x, none⟩ (.int .i64 1)).alloc (Obj.cells #[.int .i64 8, .slice ta p.t.length tc, .int .i64 p.n] 40)).drew none := grown_trans (World.grownBy_alloc _ _ _) ⟨rfl, rfl, rfl, Nat.le_refl _, fun _ _ _ => rfl⟩
  have W2 := (hW.put (n + cntG x) 1).keep gd2
  have B2 : Below H w ((w.setCell ⟨g, n + cntG x, none⟩ (.int .i64 1)).alloc (Obj.cells #[.int .i64 8, .slice ta p.t.length tc, .int .i64 p.n] 40)).drew := (((Below.refl H w).setCell (p := ⟨g, n + cntG x, none⟩) hgH _).alloc (by simpa using hH) _).drew
  have IH := hide (ih fr _ _ W2 ((hd.below B2)) (by simp; omega) hb0 hb1 (by simp; omega))
  have HB2 := hide B2
  have HS : Hid (flS (.un p x) n S = flS x n { S with taken := S.taken.set (n + cntG x) 1 }) := by unfold Hid flS; simp only [markF, flB]; rw [if_pos hk]
  rw [hk] at k0
  have hgt : ((n + cntG x : Nat) : Int) < (S.taken.length : Int) := by omega
  have cc5 := gd.cell c5 (by simp)
  have cc0 := gd.cell c0 (by simp)
  have gcc := gd.cell gc0 (by simp)
  have gff : (w.alloc (Obj.cells #[.int .i64 8, .slice ta p.t.length tc, .int .i64 p.n] 40)).drew.frozen? ⟨g, n + cntG x, none⟩ = false := by rw [World.frozen?_of_block (gd.block g hgl (by simp))]; exact gcf
  generalize n + cntG x = G at *
  clear hk ih W2 B2 gd2
  clear hW hd hP cf
  go_enter Tryd.func51, Tryd.ntmps51
  go_wp2
  obtain ⟨I, hI⟩ : ∃ I : World → Prop, I = (fun W : World => W = (w.alloc (Obj.cells #[.int .i64 8, .slice ta p.t.length tc, .int .i64 p.n] 40)).drew) := ⟨_, rfl⟩
  have HI0 : I (w.alloc (Obj.cells #[.int .i64 8, .slice ta p.t.length tc, .int .i64 p.n] 40)).drew := by rw [hI]
  refine region_anyI I (fun i => i == 12) (by kernel_rfl) ?_
  show anyI _ _ _ _ _ _ 13 (Array.replicate 13 false) _ _
  refine anyI_take (i := 0) (.pointer (some ⟨Wb, 0, none⟩)) rfl (by kernel_rfl) (by kernel_rfl) (by kernel_rfl) (by kernel_rfl) (fun _ _ _ h => h) HI0 (yldI rfl (fun W hW => by rw [hI] at hW; subst hW; go_simp)) ?_
  refine anyI_take (i := 1) (.pointer (some ⟨Wb, 0, none⟩)) rfl (by kernel_rfl) (by kernel_rfl) (by kernel_rfl) (by kernel_rfl) (fun _ _ _ h => h) HI0 (yldI rfl (fun W hW => by rw [hI] at hW; subst hW; go_simp)) ?_
  refine anyI_take (i := 2) (.pointer (some ⟨Wb, 5, none⟩)) rfl (by kernel_rfl) (by kernel_rfl) (by kernel_rfl) (by kernel_rfl) (fun _ _ _ h => h) HI0 (yldI rfl (fun W hW => by rw [hI] at hW; subst hW; go_simp)) ?_
  refine anyI_take (i := 3) (.slice (some ⟨g, 0, none⟩) S.taken.length gc) rfl (by kernel_rfl) (by kernel_rfl) (by kernel_rfl) (by kernel_rfl) (fun _ _ _ h => h) HI0 (yldI rfl (fun W hW => by rw [hI] at hW; subst hW; go_simp)) ?_
  refine anyI_take (i := 4) (.pointer (some ⟨Wb, 0, none⟩)) rfl (by kernel_rfl) (by kernel_rfl) (by kernel_rfl) (by kernel_rfl) (fun _ _ _ h => h) HI0 (yldI rfl (fun W hW => by rw [hI] at hW; subst hW; go_simp)) ?_
  refine anyI_take (i := 5) (.pointer (some ⟨Wb, 0, none⟩)) rfl (by kernel_rfl) (by kernel_rfl) (by kernel_rfl) (by kernel_rfl) (fun _ _ _ h => h) HI0 (yldI rfl (fun W hW => by rw [hI] at hW; subst hW; go_simp)) ?_
  refine anyI_take (i := 6) (.pointer (some ⟨Wb, 0, none⟩)) rfl (by kernel_rfl) (by kernel_rfl) (by kernel_rfl) (by kernel_rfl) (fun _ _ _ h => h) HI0 (yldI rfl (fun W hW => by rw [hI] at hW; subst hW; go_simp)) ?_
  refine anyI_take (i := 7) (.slice (some ⟨b, off, none⟩) doc.length cap) rfl (by kernel_rfl) (by kernel_rfl) (by kernel_rfl) (by kernel_rfl) (fun _ _ _ h => h) HI0 (yldI rfl (fun W hW => by rw [hI] at hW; subst hW; go_simp)) ?_
  refine anyI_take (i := 8) (.int .i64 ((a : Int) + 1)) rfl (by kernel_rfl) (by kernel_rfl) (by kernel_rfl) (by kernel_rfl) (fun _ _ _ h => h) HI0 (yldI rfl (fun W hW => by rw [hI] at hW; subst hW; go_simp)) ?_
  refine anyI_take (i := 9) (.int .i64 (a : Int)) rfl (by kernel_rfl) (by kernel_rfl) (by kernel_rfl) (by kernel_rfl) (fun _ _ _ h => h) HI0 (yldI rfl (fun W hW => by rw [hI] at hW; subst hW; go_simp; exact wrapI (by omega) (by omega))) ?_
  generalize hGG : Act.put _ _ _ = A0
  simp [Act.put] at hGG
  subst hGG
  refine anyI_one (i := 10) (by kernel_rfl) (wpOp_call rfl rfl (by go_simp) HG.out ?_)
  rintro e w1 ⟨rfl, rfl⟩
  refine ⟨_, rfl, .inr HI0, ?_⟩
  refine anyI_one (i := 11) (by kernel_rfl) (wpOp_val (w' := (w.alloc (Obj.cells #[.int .i64 8, .slice ta p.t.length tc, .int .i64 p.n] 40)).drew) (v := .pointer (some ⟨g, G, none⟩)) rfl rfl (by go_simp) ⟨.inr HI0, ?_⟩)
  refine anyI_one (i := 12) (by kernel_rfl) (wpOp_skip (w' := (w.alloc (Obj.cells #[.int .i64 8, .slice ta p.t.length tc, .int .i64 p.n] 40)).drew.setCell ⟨g, G, none⟩ (.int .i64 1)) rfl rfl (by go_simp) ⟨.inl rfl, ?_⟩)
  refine anyI_done (by kernel_rfl) ?_ _
  subst hI
  clear HI0 HG
  go_wp2_with fail
  refine IH.out.mono ?_
  rintro e w1 ⟨rfl, W1, B1⟩
  have HW1 := hide W1
  have HB1 := hide (HB2.out.trans B1)
  clear IH W1 B1
  go_wp2
  go_returns
  rw [HS.out]
  exact ⟨rfl, HW1.out, HB1.out⟩

set_option maxHeartbeats 4000000 in
set_option maxRecDepth 100000 in
theorem fl_cat {H Wb : Nat} {dv gv : Value} {last : Int} {fl : Bool} {doc : List Pc} {tv lv : Value} (hn : doc.length ≤ 1048576) {p : Pc} {a n : Nat} {x y : Tr} (hp : doc[a]? = some p) (hk : p.k = 6) {st : List Int} {c : Nat} (hy : Seg doc st y c a) (ihx : FlAt H Wb dv gv last fl doc tv lv x n c) (ihy : FlAt H Wb dv gv last fl doc tv lv y (n + cntG x) a) : FlAt H Wb dv gv last fl doc tv lv (.bin p x y) n (a + 1) := by
  intro fr S w hW hd hH hb0 hb1 hg
  obtain ⟨ha, hpa⟩ := List.getElem?_eq_some_iff.1 hp
  obtain ⟨b, off, cap, tx, hdv, hbH, hP⟩ := hd.at a ha
  rw [hpa] at hP
  obtain ⟨c0, c1, c2, c3, c4, c5, c6, c7, cf⟩ := hW.cell
  have k0 := hP.k
  have k1 := hP.t
  have k2 := hP.n
  have cf7 := cf 7
  have hin : (a : Int) < (doc.length : Int) := by omega
  obtain ⟨ta, tc, htx, htl, htm⟩ := hP.sl
  subst htx
  have hWlt := hW.lt
  have hlo := hW.lo
  have gA := fun k => World.grownBy_alloc w (Obj.cells #[.int .i64 k, .slice ta p.t.length tc, .int .i64 p.n] 40) none
  have HW := hide hW
  have HD := hide hd
  subst hdv
  rw [show ((a + 1 : Nat) : Int) = (a : Int) + 1 by omega]
  simp only [cntG] at hg
  have hfl : flB (.bin p x y) = flB x + flB y := by simp only [flB]; rw [if_pos hk]
  have hfx := flB_pos x
  have hfy := flB_pos y
  rw [hfl] at hb1
  have hsA := (gA 6).size
  have HG := hide (begin_any _ doc (w.alloc (Obj.cells #[.int .i64 6, .slice ta p.t.length tc, .int .i64 p.n] 40)) ((hd.keep (gA 6)).wide (by omega)) hn (by omega) hy)
  have IHX := hide (ihx fr S (w.alloc (Obj.cells #[.int .i64 6, .slice ta p.t.length tc, .int .i64 p.n] 40)) (hW.keep (gA 6)) (hd.keep (gA 6)) (by omega) hb0 (by omega) (by omega))
  have IHY : Hid (∀ W : World, WkR H Wb W _ gv last fl (flS x n S) tv lv → Below H w W → _) := fun W hW' hB => ihy (c : Int) (flS x n S) W hW' (hd.below hB) (Nat.le_trans hH hB.size) (by show 0 ≤ S.bytes + flB x; omega) (by show S.bytes + flB x + flB y ≤ _; omega) (by rw [flS_len]; omega)
  have HS : Hid (flS (.bin p x y) n S = flS y (n + cntG x) (flS x n S)) := by unfold Hid flS; simp only [markF]; rw [if_pos hk, hfl, Int.add_assoc]
  have hcc : (c : Int) ≤ 1048576 := by have := hy.lt; omega
  rw [hk] at k0
  clear hk ihx ihy hfl hy
  clear hW hd hP cf
  go_enter Tryd.func51, Tryd.ntmps51
  go_wp2_with fail
  refine HG.out.mono ?_
  rintro e w1 ⟨rfl, rfl⟩
  clear HG
  go_wp2_with fail
  refine IHX.out.mono ?_
  rintro e w1 ⟨rfl, W1, B1⟩
  have B1' := ((Below.refl H w).alloc hH (Obj.cells #[.int .i64 6, .slice ta p.t.length tc, .int .i64 p.n] 40)).trans B1
  have IHY2 := hide (IHY.out w1 W1 B1')
  have HB1 := hide B1'
  clear IHX IHY W1 B1 B1'
  go_wp2_with fail
  refine IHY2.out.mono ?_
  rintro e w2 ⟨rfl, W2, B2⟩
  have HW2 := hide W2
  have HB2 := hide (HB1.out.trans B2)
  clear IHY2 W2 B2
  go_wp2
  go_returns
  rw [HS.out]
  exact ⟨rfl, HW2.out, HB2.out⟩

set_option maxHeartbeats 4000000 in
set_option maxRecDepth 100000 in
theorem fl_alt {H Wb : Nat} {dv gv : Value} {last : Int} {fl : Bool} {doc : List Pc} {tv lv : Value} (hn : doc.length ≤ 1048576) {p : Pc} {a n : Nat} {x y : Tr} (hp : doc[a]? = some p) (hk : p.k = 9) {st : List Int} {c : Nat} (hy : Seg doc st y c a) (ihy : FlAt H Wb dv gv last fl doc tv lv y (n + cntG x) a) : FlAt H Wb dv gv last fl doc tv lv (.bin p x y) n (a + 1) := by
  intro fr S w hW hd hH hb0 hb1 hg
  obtain ⟨ha, hpa⟩ := List.getElem?_eq_some_iff.1 hp
  obtain ⟨b, off, cap, tx, hdv, hbH, hP⟩ := hd.at a ha
  rw [hpa] at hP
  obtain ⟨c0, c1, c2, c3, c4, c5, c6, c7, cf⟩ := hW.cell
  have k0 := hP.k
  have k1 := hP.t
  have k2 := hP.n
  have cf7 := cf 7
  have hin : (a : Int) < (doc.length : Int) := by omega
  obtain ⟨ta, tc, htx, htl, htm⟩ := hP.sl
  subst htx
  have hWlt := hW.lt
  have hlo := hW.lo
  have gA := fun k => World.grownBy_alloc w (Obj.cells #[.int .i64 k, .slice ta p.t.length tc, .int .i64 p.n] 40) none
  have HW := hide hW
  have HD := hide hd
  subst hdv
  rw [show ((a + 1 : Nat) : Int) = (a : Int) + 1 by omega]
  simp only [cntG] at hg
  have hfl : flB (.bin p x y) = flB y := by simp only [flB]; rw [if_neg (by omega)]
  rw [hfl] at hb1
  have hsA := (gA 9).size
  have HG := hide (begin_any _ doc (w.alloc (Obj.cells #[.int .i64 9, .slice ta p.t.length tc, .int .i64 p.n] 40)) ((hd.keep (gA 9)).wide (by omega)) hn (by omega) hy)
  have IHX := hide (ihy (c : Int) S (w.alloc (Obj.cells #[.int .i64 9, .slice ta p.t.length tc, .int .i64 p.n] 40)) (hW.keep (gA 9)) (hd.keep (gA 9)) (by omega) hb0 (by omega) (by omega))
  have HS : Hid (flS (.bin p x y) n S = flS y (n + cntG x) S) := by unfold Hid flS; simp only [markF]; rw [if_neg (by omega), hfl]
  rw [hk] at k0
  clear hk ihy hfl hy
  clear hW hd hP cf
  go_enter Tryd.func51, Tryd.ntmps51
  go_wp2_with fail
  refine HG.out.mono ?_
  rintro e w1 ⟨rfl, rfl⟩
  clear HG
  go_wp2_with fail
  refine IHX.out.mono ?_
  rintro e w1 ⟨rfl, W1, B1⟩
  have HW2 := hide W1
  have HB2 := hide (((Below.refl H w).alloc hH (Obj.cells #[.int .i64 9, .slice ta p.t.length tc, .int .i64 p.n] 40)).trans B1)
  clear IHX W1 B1
  go_wp2
  go_returns
  rw [HS.out]
  exact ⟨rfl, HW2.out, HB2.out⟩

theorem flats_any {H Wb : Nat} {dv gv : Value} {last : Int} {fl : Bool} {doc : List Pc} {st : List Int} {tv lv : Value} (hn : doc.length ≤ 1048576) : ∀ {T : Tr} {a b : Nat}, Seg doc st T a b → KOk T → FlAt H Wb dv gv last fl doc tv lv T (grp doc a) b
  | .leaf p, a, b, h, hk => by
    obtain ⟨rfl, hp, _, _⟩ := h
    have := hk.1
    by_cases h1 : p.k = 1
    · exact fl_text hn hp h1
    · by_cases h2 : p.k = 2
      · exact fl_line hn hp h2
      · exact fl_none hn hp (by omega)
  | .un p x, a, b, h, hk => by
    obtain ⟨m, rfl, hp, _, _, hx⟩ := h
    have ih := flats_any (H := H) (Wb := Wb) (dv := dv) (gv := gv) (last := last) (fl := fl) (tv := tv) (lv := lv) hn hx hk.2
    rcases hk.1 with h7 | h8
    · exact fl_nest hn hp h7 ih
    · exact fl_group hn hp h8 (grp_seg hx) ih
  | .bin p x y, a, b, h, hk => by
    obtain ⟨c, m, rfl, hp, _, _, hx, hy⟩ := h
    have ihx := flats_any (H := H) (Wb := Wb) (dv := dv) (gv := gv) (last := last) (fl := fl) (tv := tv) (lv := lv) hn hx hk.2.1
    have ihy := flats_any (H := H) (Wb := Wb) (dv := dv) (gv := gv) (last := last) (fl := fl) (tv := tv) (lv := lv) hn hy hk.2.2
    rw [grp_seg hx] at ihy
    rcases hk.1 with h6 | h9
    · exact fl_cat hn hp h6 hy ihx ihy
    · exact fl_alt hn hp h9 hy ihy

end Go.Proofs.YtgmjpdejfdldlaaDoor

