import Derived.Test.YtgmjpdejfdldlaaDoorMAX
namespace Go.Proofs.YtgmjpdejfdldlaaDoor
open Go.RowKit

theorem flB_le : ∀ (T : Tr), flB T ≤ sz T
  | .leaf p => by
    simp only [flB, sz]
    split
    · omega
    · split <;> omega
  | .un p x => by have := flB_le x; simp only [flB, sz]; omega
  | .bin p x y => by
    have := flB_le x; have := flB_le y
    simp only [flB, sz]
    split <;> omega
/-- How far a walk counts. -/
theorem goT_bd (gs : List Int) (last : Int) (fl : Bool) : ∀ (T : Tr) (n : Nat) (ind : Int) (S : WS), okN T → 0 ≤ ind → ind + nestT T ≤ 4000 →
    S.bytes ≤ (goT gs last fl T n ind S).bytes ∧ (goT gs last fl T n ind S).bytes ≤ S.bytes + 4001 * sz T ∧ (goT gs last fl T n ind S).list.length ≤ S.list.length + sz T ∧ (goT gs last fl T n ind S).taken.length = S.taken.length
  | .leaf p, n, ind, S, _, h0, h1 => by
    simp only [nestT] at h1
    simp only [goT, sz]
    split
    · refine ⟨?_, ?_, ?_, rfl⟩ <;> dsimp only [byS] <;> omega
    · split
      · refine ⟨?_, ?_, ?_, rfl⟩ <;> dsimp only [byS] <;> omega
      · split
        · refine ⟨?_, ?_, ?_, rfl⟩ <;> dsimp only [byS] <;> omega
        · refine ⟨?_, ?_, ?_, rfl⟩ <;> omega
  | .un p x, n, ind, S, hk, h0, h1 => by
    simp only [nestT, okN] at h1 hk
    have hfx := flB_le x
    have hf0 := flB_pos x
    simp only [goT, sz]
    split
    · have := goT_bd gs last fl x n (ind + p.n) S hk.2 (by omega) (by omega)
      omega
    · split
      · refine ⟨?_, ?_, ?_, markF_len _ _ _⟩ <;> dsimp only [flS, meetS, flB] <;> (try rw [List.length_append]) <;> (try simp only [List.length_cons, List.length_nil]) <;> omega
      · have := goT_bd gs last fl x n ind (putS (n + cntG x) (meetS last (n + cntG x) S)) hk.2 (by omega) (by omega)
        simp only [putS, meetS, List.length_append, List.length_cons, List.length_nil, List.length_set] at this ⊢
        omega
  | .bin p x y, n, ind, S, hk, h0, h1 => by
    simp only [nestT, okN] at h1 hk
    have h2 := goT_bd gs last fl x n ind S hk.1 (by omega) (by omega)
    have h3 := goT_bd gs last fl y (n + cntG x) ind (goT gs last fl x n ind S) hk.2 (by omega) (by omega)
    simp only [goT, sz]
    split <;> omega

section
variable (H Wb : Nat) (dv gv : Value) (gs : List Int) (last : Int) (fl : Bool) (doc : List Pc) (tv : Value)
/-- The contract of goes at a part. -/
def GoAt (T : Tr) (n b : Nat) : Prop := ∀ (fr ind : Int) (S : WS) (lv : Value) (w : World), WkR H Wb w dv gv last fl S tv lv → RdP H w dv doc → RdI H w gv gs → H ≤ w.heap.size → 0 ≤ S.bytes → S.bytes + 4001 * sz T ≤ 1000000000000 → S.list.length + sz T ≤ 1000000000 → n + cntG T ≤ S.taken.length →
  okN T → 0 ≤ ind → ind + nestT T ≤ 4000 →
  Calls Tryd.prog 27 #[.pointer (some ⟨Wb, 0, none⟩), .int .i64 fr, .int .i64 (b : Int), .int .i64 ind] w fun e w' => e = .returned (.tuple #[]) ∧ (∃ lv', WkR H Wb w' dv gv last fl (goT gs last fl T n ind S) tv lv') ∧ Below H w w'
end

set_option maxHeartbeats 4000000 in
set_option maxRecDepth 100000 in
theorem go_text {H Wb : Nat} {dv gv : Value} {gs : List Int} {last : Int} {fl : Bool} {doc : List Pc} {tv : Value} (hn : doc.length ≤ 1048576) {p : Pc} {a n : Nat} (hp : doc[a]? = some p) (hk : p.k = 1) : GoAt H Wb dv gv gs last fl doc tv (.leaf p) n (a + 1) := by
  intro fr ind S lv w hW hd hgv hH hb0 hb1 hll hg hok hi0 hi1
  have hnU := hn
  obtain ⟨ha, hpa⟩ := List.getElem?_eq_some_iff.1 hp
  obtain ⟨b, off, cap, tx, hdv, hbH, hP⟩ := hd.at a ha
  rw [hpa] at hP
  obtain ⟨c0, c1, c2, c3, c4, c5, c6, c7, cf⟩ := hW.cell
  have k0 := hP.k
  have k1 := hP.t
  have k2 := hP.n
  have cf7 := cf 7
  have hin : (a : Int) < (doc.length : Int) := by omega
  obtain ⟨ta, tc, htx, htl, htm⟩ := hP.sl
  subst htx
  have hWlt := hW.lt
  have hlo := hW.lo
  have gA := fun k => World.grownBy_alloc w (Obj.cells #[.int .i64 k, .slice ta p.t.length tc, .int .i64 p.n] 40) none
  have HW := hide hW
  have HD := hide hd
  subst hdv
  rw [show ((a + 1 : Nat) : Int) = (a : Int) + 1 by omega]
  simp only [nestT, sz] at hi1 hb1
  have HS : Hid (goT gs last fl (.leaf p) n ind S = byS ((p.t.length : Int)) S) := by unfold Hid; simp only [goT]; rw [if_pos hk]
  rw [hk] at k0
  clear hk
  clear hW hd hP cf
  go_enter Tryd.func27, Tryd.ntmps27
  go_wp2
  go_region
  go_wp2
  go_returns
  rw [HS.out]
  have g1 := World.grownBy_alloc (w.setCell ⟨Wb, 7, none⟩ (.int .i64 (S.bytes + ((p.t.length : Int))))) (Obj.cells #[.int .i64 1, .slice ta p.t.length tc, .int .i64 p.n] 40) none
  exact ⟨rfl, ⟨lv, ((HW.out.by _).keep g1).keep ⟨rfl, rfl, rfl, Nat.le_refl _, fun _ _ _ => rfl⟩⟩, (((Below.refl H w).setCell (p := ⟨Wb, 7, none⟩) (by simpa using hlo) _).alloc (by simpa using hH) _).drew⟩

set_option maxHeartbeats 4000000 in
set_option maxRecDepth 100000 in
theorem go_raw {H Wb : Nat} {dv gv : Value} {gs : List Int} {last : Int} {fl : Bool} {doc : List Pc} {tv : Value} (hn : doc.length ≤ 1048576) {p : Pc} {a n : Nat} (hp : doc[a]? = some p) (hk : p.k = 5) : GoAt H Wb dv gv gs last fl doc tv (.leaf p) n (a + 1) := by
  intro fr ind S lv w hW hd hgv hH hb0 hb1 hll hg hok hi0 hi1
  have hnU := hn
  obtain ⟨ha, hpa⟩ := List.getElem?_eq_some_iff.1 hp
  obtain ⟨b, off, cap, tx, hdv, hbH, hP⟩ := hd.at a ha
  rw [hpa] at hP
  obtain ⟨c0, c1, c2, c3, c4, c5, c6, c7, cf⟩ := hW.cell
  have k0 := hP.k
  have k1 := hP.t
  have k2 := hP.n
  have cf7 := cf 7
  have hin : (a : Int) < (doc.length : Int) := by omega
  obtain ⟨ta, tc, htx, htl, htm⟩ := hP.sl
  subst htx
  have hWlt := hW.lt
  have hlo := hW.lo
  have gA := fun k => World.grownBy_alloc w (Obj.cells #[.int .i64 k, .slice ta p.t.length tc, .int .i64 p.n] 40) none
  have HW := hide hW
  have HD := hide hd
  subst hdv
  rw [show ((a + 1 : Nat) : Int) = (a : Int) + 1 by omega]
  simp only [nestT, sz] at hi1 hb1
  have HS : Hid (goT gs last fl (.leaf p) n ind S = byS (1) S) := by unfold Hid; simp only [goT]; rw [if_neg (by omega), if_pos hk]
  rw [hk] at k0
  clear hk
  clear hW hd hP cf
  go_enter Tryd.func27, Tryd.ntmps27
  go_wp2
  go_returns
  rw [HS.out]
  have g1 := World.grownBy_alloc (w.setCell ⟨Wb, 7, none⟩ (.int .i64 (S.bytes + (1)))) (Obj.cells #[.int .i64 5, .slice ta p.t.length tc, .int .i64 p.n] 40) none
  exact ⟨rfl, ⟨lv, (HW.out.by _).keep g1⟩, ((Below.refl H w).setCell (p := ⟨Wb, 7, none⟩) (by simpa using hlo) _).alloc (by simpa using hH) _⟩

set_option maxHeartbeats 4000000 in
set_option maxRecDepth 100000 in
theorem go_l2 {H Wb : Nat} {dv gv : Value} {gs : List Int} {last : Int} {fl : Bool} {doc : List Pc} {tv : Value} (hn : doc.length ≤ 1048576) {p : Pc} {a n : Nat} (hp : doc[a]? = some p) (hk : p.k = 2) : GoAt H Wb dv gv gs last fl doc tv (.leaf p) n (a + 1) := by
  intro fr ind S lv w hW hd hgv hH hb0 hb1 hll hg hok hi0 hi1
  have hnU := hn
  obtain ⟨ha, hpa⟩ := List.getElem?_eq_some_iff.1 hp
  obtain ⟨b, off, cap, tx, hdv, hbH, hP⟩ := hd.at a ha
  rw [hpa] at hP
  obtain ⟨c0, c1, c2, c3, c4, c5, c6, c7, cf⟩ := hW.cell
  have k0 := hP.k
  have k1 := hP.t
  have k2 := hP.n
  have cf7 := cf 7
  have hin : (a : Int) < (doc.length : Int) := by omega
  obtain ⟨ta, tc, htx, htl, htm⟩ := hP.sl
  subst htx
  have hWlt := hW.lt
  have hlo := hW.lo
  have gA := fun k => World.grownBy_alloc w (Obj.cells #[.int .i64 k, .slice ta p.t.length tc, .int .i64 p.n] 40) none
  have HW := hide hW
  have HD := hide hd
  subst hdv
  rw [show ((a + 1 : Nat) : Int) = (a : Int) + 1 by omega]
  simp only [nestT, sz] at hi1 hb1
  have HS : Hid (goT gs last fl (.leaf p) n ind S = byS (1 + ind) S) := by unfold Hid; simp only [goT]; rw [if_neg (by omega), if_neg (by omega), if_pos (by omega)]
  rw [hk] at k0
  clear hk
  clear hW hd hP cf
  go_enter Tryd.func27, Tryd.ntmps27
  go_wp2
  go_returns
  rw [HS.out]
  have g1 := World.grownBy_alloc (w.setCell ⟨Wb, 7, none⟩ (.int .i64 (S.bytes + (1 + ind)))) (Obj.cells #[.int .i64 2, .slice ta p.t.length tc, .int .i64 p.n] 40) none
  exact ⟨rfl, ⟨lv, (HW.out.by _).keep g1⟩, ((Below.refl H w).setCell (p := ⟨Wb, 7, none⟩) (by simpa using hlo) _).alloc (by simpa using hH) _⟩

set_option maxHeartbeats 4000000 in
set_option maxRecDepth 100000 in
theorem go_l3 {H Wb : Nat} {dv gv : Value} {gs : List Int} {last : Int} {fl : Bool} {doc : List Pc} {tv : Value} (hn : doc.length ≤ 1048576) {p : Pc} {a n : Nat} (hp : doc[a]? = some p) (hk : p.k = 3) : GoAt H Wb dv gv gs last fl doc tv (.leaf p) n (a + 1) := by
  intro fr ind S lv w hW hd hgv hH hb0 hb1 hll hg hok hi0 hi1
  have hnU := hn
  obtain ⟨ha, hpa⟩ := List.getElem?_eq_some_iff.1 hp
  obtain ⟨b, off, cap, tx, hdv, hbH, hP⟩ := hd.at a ha
  rw [hpa] at hP
  obtain ⟨c0, c1, c2, c3, c4, c5, c6, c7, cf⟩ := hW.cell
  have k0 := hP.k
  have k1 := hP.t
  have k2 := hP.n
  have cf7 := cf 7
  have hin : (a : Int) < (doc.length : Int) := by omega
  obtain ⟨ta, tc, htx, htl, htm⟩ := hP.sl
  subst htx
  have hWlt := hW.lt
  have hlo := hW.lo
  have gA := fun k => World.grownBy_alloc w (Obj.cells #[.int .i64 k, .slice ta p.t.length tc, .int .i64 p.n] 40) none
  have HW := hide hW
  have HD := hide hd
  subst hdv
  rw [show ((a + 1 : Nat) : Int) = (a : Int) + 1 by omega]
  simp only [nestT, sz] at hi1 hb1
  have HS : Hid (goT gs last fl (.leaf p) n ind S = byS (1 + ind) S) := by unfold Hid; simp only [goT]; rw [if_neg (by omega), if_neg (by omega), if_pos (by omega)]
  rw [hk] at k0
  clear hk
  clear hW hd hP cf
  go_enter Tryd.func27, Tryd.ntmps27
  go_wp2
  go_returns
  rw [HS.out]
  have g1 := World.grownBy_alloc (w.setCell ⟨Wb, 7, none⟩ (.int .i64 (S.bytes + (1 + ind)))) (Obj.cells #[.int .i64 3, .slice ta p.t.length tc, .int .i64 p.n] 40) none
  exact ⟨rfl, ⟨lv, (HW.out.by _).keep g1⟩, ((Below.refl H w).setCell (p := ⟨Wb, 7, none⟩) (by simpa using hlo) _).alloc (by simpa using hH) _⟩

set_option maxHeartbeats 4000000 in
set_option maxRecDepth 100000 in
theorem go_l4 {H Wb : Nat} {dv gv : Value} {gs : List Int} {last : Int} {fl : Bool} {doc : List Pc} {tv : Value} (hn : doc.length ≤ 1048576) {p : Pc} {a n : Nat} (hp : doc[a]? = some p) (hk : p.k = 4) : GoAt H Wb dv gv gs last fl doc tv (.leaf p) n (a + 1) := by
  intro fr ind S lv w hW hd hgv hH hb0 hb1 hll hg hok hi0 hi1
  have hnU := hn
  obtain ⟨ha, hpa⟩ := List.getElem?_eq_some_iff.1 hp
  obtain ⟨b, off, cap, tx, hdv, hbH, hP⟩ := hd.at a ha
  rw [hpa] at hP
  obtain ⟨c0, c1, c2, c3, c4, c5, c6, c7, cf⟩ := hW.cell
  have k0 := hP.k
  have k1 := hP.t
  have k2 := hP.n
  have cf7 := cf 7
  have hin : (a : Int) < (doc.length : Int) := by omega
  obtain ⟨ta, tc, htx, htl, htm⟩ := hP.sl
  subst htx
  have hWlt := hW.lt
  have hlo := hW.lo
  have gA := fun k => World.grownBy_alloc w (Obj.cells #[.int .i64 k, .slice ta p.t.length tc, .int .i64 p.n] 40) none
  have HW := hide hW
  have HD := hide hd
  subst hdv
  rw [show ((a + 1 : Nat) : Int) = (a : Int) + 1 by omega]
  simp only [nestT, sz] at hi1 hb1
  have HS : Hid (goT gs last fl (.leaf p) n ind S = byS (1 + ind) S) := by unfold Hid; simp only [goT]; rw [if_neg (by omega), if_neg (by omega), if_pos (by omega)]
  rw [hk] at k0
  clear hk
  clear hW hd hP cf
  go_enter Tryd.func27, Tryd.ntmps27
  go_wp2
  go_returns
  rw [HS.out]
  have g1 := World.grownBy_alloc (w.setCell ⟨Wb, 7, none⟩ (.int .i64 (S.bytes + (1 + ind)))) (Obj.cells #[.int .i64 4, .slice ta p.t.length tc, .int .i64 p.n] 40) none
  exact ⟨rfl, ⟨lv, (HW.out.by _).keep g1⟩, ((Below.refl H w).setCell (p := ⟨Wb, 7, none⟩) (by simpa using hlo) _).alloc (by simpa using hH) _⟩

set_option maxHeartbeats 4000000 in
set_option maxRecDepth 100000 in
theorem go_nil {H Wb : Nat} {dv gv : Value} {gs : List Int} {last : Int} {fl : Bool} {doc : List Pc} {tv : Value} (hn : doc.length ≤ 1048576) {p : Pc} {a n : Nat} (hp : doc[a]? = some p) (hk : p.k = 0) : GoAt H Wb dv gv gs last fl doc tv (.leaf p) n (a + 1) := by
  intro fr ind S lv w hW hd hgv hH hb0 hb1 hll hg hok hi0 hi1
  have hnU := hn
  obtain ⟨ha, hpa⟩ := List.getElem?_eq_some_iff.1 hp
  obtain ⟨b, off, cap, tx, hdv, hbH, hP⟩ := hd.at a ha
  rw [hpa] at hP
  obtain ⟨c0, c1, c2, c3, c4, c5, c6, c7, cf⟩ := hW.cell
  have k0 := hP.k
  have k1 := hP.t
  have k2 := hP.n
  have cf7 := cf 7
  have hin : (a : Int) < (doc.length : Int) := by omega
  obtain ⟨ta, tc, htx, htl, htm⟩ := hP.sl
  subst htx
  have hWlt := hW.lt
  have hlo := hW.lo
  have gA := fun k => World.grownBy_alloc w (Obj.cells #[.int .i64 k, .slice ta p.t.length tc, .int .i64 p.n] 40) none
  have HW := hide hW
  have HD := hide hd
  subst hdv
  rw [show ((a + 1 : Nat) : Int) = (a : Int) + 1 by omega]
  have HS : Hid (goT gs last fl (.leaf p) n ind S = S) := by unfold Hid; simp only [goT]; rw [if_neg (by omega), if_neg (by omega), if_neg (by omega)]
  have gA' := gA 0
  rw [hk] at k0
  clear hk
  clear hW hd hP cf
  go_enter Tryd.func27, Tryd.ntmps27
  go_wp2
  go_returns
  rw [HS.out]
  exact ⟨rfl, ⟨lv, HW.out.keep gA'⟩, (Below.refl H w).alloc hH _⟩

set_option maxHeartbeats 4000000 in
set_option maxRecDepth 100000 in
theorem go_nest {H Wb : Nat} {dv gv : Value} {gs : List Int} {last : Int} {fl : Bool} {doc : List Pc} {tv : Value} (hn : doc.length ≤ 1048576) {p : Pc} {a n : Nat} {x : Tr} (hp : doc[a]? = some p) (hk : p.k = 7) (ih : GoAt H Wb dv gv gs last fl doc tv x n a) : GoAt H Wb dv gv gs last fl doc tv (.un p x) n (a + 1) := by
  intro fr ind S lv w hW hd hgv hH hb0 hb1 hll hg hok hi0 hi1
  have hnU := hn
  obtain ⟨ha, hpa⟩ := List.getElem?_eq_some_iff.1 hp
  obtain ⟨b, off, cap, tx, hdv, hbH, hP⟩ := hd.at a ha
  rw [hpa] at hP
  obtain ⟨c0, c1, c2, c3, c4, c5, c6, c7, cf⟩ := hW.cell
  have k0 := hP.k
  have k1 := hP.t
  have k2 := hP.n
  have cf7 := cf 7
  have hin : (a : Int) < (doc.length : Int) := by omega
  obtain ⟨ta, tc, htx, htl, htm⟩ := hP.sl
  subst htx
  have hWlt := hW.lt
  have hlo := hW.lo
  have gA := fun k => World.grownBy_alloc w (Obj.cells #[.int .i64 k, .slice ta p.t.length tc, .int .i64 p.n] 40) none
  have HW := hide hW
  have HD := hide hd
  subst hdv
  rw [show ((a + 1 : Nat) : Int) = (a : Int) + 1 by omega]
  simp only [cntG, nestT, sz, okN] at hg hi1 hb1 hok hll
  have hnx := nestT_pos x hok.2
  have hsA := (gA 7).size
  have IH := hide (ih fr (ind + p.n) S lv (w.alloc (Obj.cells #[.int .i64 7, .slice ta p.t.length tc, .int .i64 p.n] 40)) (hW.keep (gA 7)) (hd.keep (gA 7)) (hgv.keep (gA 7)) (by omega) hb0 (by omega) (by omega) (by omega) hok.2 (by omega) (by omega))
  have HS : Hid (goT gs last fl (.un p x) n ind S = goT gs last fl x n (ind + p.n) S) := by unfold Hid; simp only [goT]; rw [if_pos hk]
  rw [hk] at k0
  clear hk ih
  clear hW hd hP cf
  go_enter Tryd.func27, Tryd.ntmps27
  go_wp2_with fail
  refine IH.out.mono ?_
  rintro e w1 ⟨rfl, W1, B1⟩
  have HW1 := hide W1
  have HB1 := hide (((Below.refl H w).alloc hH _).trans B1)
  clear IH W1 B1
  go_wp2
  go_returns
  rw [HS.out]
  exact ⟨rfl, HW1.out, HB1.out⟩

set_option maxHeartbeats 4000000 in
set_option maxRecDepth 100000 in
theorem go_alt {H Wb : Nat} {dv gv : Value} {gs : List Int} {last : Int} {fl : Bool} {doc : List Pc} {tv : Value} (hn : doc.length ≤ 1048576) {p : Pc} {a n : Nat} {x y : Tr} (hp : doc[a]? = some p) (hk : p.k = 9) {st : List Int} {c : Nat} (hy : Seg doc st y c a) (ih : GoAt H Wb dv gv gs last fl doc tv x n c) : GoAt H Wb dv gv gs last fl doc tv (.bin p x y) n (a + 1) := by
  intro fr ind S lv w hW hd hgv hH hb0 hb1 hll hg hok hi0 hi1
  have hnU := hn
  obtain ⟨ha, hpa⟩ := List.getElem?_eq_some_iff.1 hp
  obtain ⟨b, off, cap, tx, hdv, hbH, hP⟩ := hd.at a ha
  rw [hpa] at hP
  obtain ⟨c0, c1, c2, c3, c4, c5, c6, c7, cf⟩ := hW.cell
  have k0 := hP.k
  have k1 := hP.t
  have k2 := hP.n
  have cf7 := cf 7
  have hin : (a : Int) < (doc.length : Int) := by omega
  obtain ⟨ta, tc, htx, htl, htm⟩ := hP.sl
  subst htx
  have hWlt := hW.lt
  have hlo := hW.lo
  have gA := fun k => World.grownBy_alloc w (Obj.cells #[.int .i64 k, .slice ta p.t.length tc, .int .i64 p.n] 40) none
  have HW := hide hW
  have HD := hide hd
  subst hdv
  rw [show ((a + 1 : Nat) : Int) = (a : Int) + 1 by omega]
  simp only [cntG, nestT, sz, okN] at hg hi1 hb1 hok hll
  have hsA := (gA 9).size
  have HG := hide (begin_any _ doc (w.alloc (Obj.cells #[.int .i64 9, .slice ta p.t.length tc, .int .i64 p.n] 40)) ((hd.keep (gA 9)).wide (by omega)) hn (by omega) hy)
  have IH := hide (ih fr ind S lv (w.alloc (Obj.cells #[.int .i64 9, .slice ta p.t.length tc, .int .i64 p.n] 40)) (hW.keep (gA 9)) (hd.keep (gA 9)) (hgv.keep (gA 9)) (by omega) hb0 (by omega) (by omega) (by omega) hok.1 (by omega) (by omega))
  have HS : Hid (goT gs last fl (.bin p x y) n ind S = goT gs last fl x n ind S) := by unfold Hid; simp only [goT]; rw [if_neg (by omega)]
  have hcc : (c : Int) ≤ 1048576 := by have := hy.lt; omega
  rw [hk] at k0
  clear hk ih hy
  clear hW hd hP cf
  go_enter Tryd.func27, Tryd.ntmps27
  go_wp2_with fail
  refine HG.out.mono ?_
  rintro e w1 ⟨rfl, rfl⟩
  clear HG
  go_wp2_with fail
  refine IH.out.mono ?_
  rintro e w1 ⟨rfl, W1, B1⟩
  have HW1 := hide W1
  have HB1 := hide (((Below.refl H w).alloc hH _).trans B1)
  clear IH W1 B1
  go_wp2
  go_returns
  rw [HS.out]
  exact ⟨rfl, HW1.out, HB1.out⟩

set_option maxHeartbeats 4000000 in
set_option maxRecDepth 100000 in
theorem go_cat {H Wb : Nat} {dv gv : Value} {gs : List Int} {last : Int} {fl : Bool} {doc : List Pc} {tv : Value} (hn : doc.length ≤ 1048576) {p : Pc} {a n : Nat} {x y : Tr} (hp : doc[a]? = some p) (hk : p.k = 6) {st : List Int} {c : Nat} (hy : Seg doc st y c a) (ihx : GoAt H Wb dv gv gs last fl doc tv x n c) (ihy : GoAt H Wb dv gv gs last fl doc tv y (n + cntG x) a) : GoAt H Wb dv gv gs last fl doc tv (.bin p x y) n (a + 1) := by
  intro fr ind S lv w hW hd hgv hH hb0 hb1 hll hg hok hi0 hi1
  have hnU := hn
  obtain ⟨ha, hpa⟩ := List.getElem?_eq_some_iff.1 hp
  obtain ⟨b, off, cap, tx, hdv, hbH, hP⟩ := hd.at a ha
  rw [hpa] at hP
  obtain ⟨c0, c1, c2, c3, c4, c5, c6, c7, cf⟩ := hW.cell
  have k0 := hP.k
  have k1 := hP.t
  have k2 := hP.n
  have cf7 := cf 7
  have hin : (a : Int) < (doc.length : Int) := by omega
  obtain ⟨ta, tc, htx, htl, htm⟩ := hP.sl
  subst htx
  have hWlt := hW.lt
  have hlo := hW.lo
  have gA := fun k => World.grownBy_alloc w (Obj.cells #[.int .i64 k, .slice ta p.t.length tc, .int .i64 p.n] 40) none
  have HW := hide hW
  have HD := hide hd
  subst hdv
  rw [show ((a + 1 : Nat) : Int) = (a : Int) + 1 by omega]
  simp only [cntG, nestT, sz, okN] at hg hi1 hb1 hok hll
  have hsA := (gA 6).size
  have HG := hide (begin_any _ doc (w.alloc (Obj.cells #[.int .i64 6, .slice ta p.t.length tc, .int .i64 p.n] 40)) ((hd.keep (gA 6)).wide (by omega)) hn (by omega) hy)
  have IHX := hide (ihx fr ind S lv (w.alloc (Obj.cells #[.int .i64 6, .slice ta p.t.length tc, .int .i64 p.n] 40)) (hW.keep (gA 6)) (hd.keep (gA 6)) (hgv.keep (gA 6)) (by omega) hb0 (by omega) (by omega) (by omega) hok.1 (by omega) (by omega))
  have hbd := goT_bd gs last fl x n ind S hok.1 (by omega) (by omega)
  have IHY : Hid (∀ (lv' : Value) (W : World), WkR H Wb W _ gv last fl (goT gs last fl x n ind S) tv lv' → Below H w W → _) := fun lv' W hW' hB => ihy (c : Int) ind (goT gs last fl x n ind S) lv' W hW' (hd.below hB) (Rd.below hgv hB) (Nat.le_trans hH hB.size) (by omega) (by omega) (by omega) (by omega) hok.2 (by omega) (by omega)
  have HS : Hid (goT gs last fl (.bin p x y) n ind S = goT gs last fl y (n + cntG x) ind (goT gs last fl x n ind S)) := by unfold Hid; rw [goT, if_pos hk]
  have hcc : (c : Int) ≤ 1048576 := by have := hy.lt; omega
  rw [hk] at k0
  clear hk ihx ihy hy hbd
  clear hW hd hP cf
  go_enter Tryd.func27, Tryd.ntmps27
  go_wp2_with fail
  refine HG.out.mono ?_
  rintro e w1 ⟨rfl, rfl⟩
  clear HG
  go_wp2_with fail
  refine IHX.out.mono ?_
  rintro e w1 ⟨rfl, ⟨lv1, W1⟩, B1⟩
  have B1' := ((Below.refl H w).alloc hH (Obj.cells #[.int .i64 6, .slice ta p.t.length tc, .int .i64 p.n] 40)).trans B1
  have IHY2 := hide (IHY.out lv1 w1 W1 B1')
  have HB1 := hide B1'
  clear IHX IHY W1 B1 B1'
  go_wp2_with fail
  refine IHY2.out.mono ?_
  rintro e w2 ⟨rfl, W2, B2⟩
  have HW2 := hide W2
  have HB2 := hide (HB1.out.trans B2)
  clear IHY2 W2 B2
  go_wp2
  go_returns
  rw [HS.out]
  exact ⟨rfl, HW2.out, HB2.out⟩

end Go.Proofs.YtgmjpdejfdldlaaDoor

