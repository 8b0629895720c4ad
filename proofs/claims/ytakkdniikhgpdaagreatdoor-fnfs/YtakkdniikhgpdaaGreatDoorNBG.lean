import Derived.Test.YtakkdniikhgpdaaGreatDoorMAS
import Derived.Test.YtakkdniikhgpdaaGreatDoorNAU
import Derived.Test.YtakkdniikhgpdaaGreatDoorNAW
import Derived.Test.YtakkdniikhgpdaaGreatDoorNBB
import Derived.Test.YtakkdniikhgpdaaGreatDoorNBF
namespace Go.Proofs.YtakkdniikhgpdaaGreatDoor
open Go.RowKit
attribute [-go_sem] Builtin.append_

/-! A row of files of one's own whose texts may be shared. -/
structure LoX (B : Nat) (w : World) (g : Option Nat) (fs : List Fl) (xs : List (Value × Value)) : Prop where
  len : xs.length = fs.length
  own : ∀ (j : Nat) (p : Fl) (x : Value × Value), fs[j]? = some p → xs[j]? = some x → OwB B w x.1 p.n ∧ OwB B w x.2 p.d ∧ (∀ k, g = some k → x.1.ownBlock ≠ some k ∧ x.2.ownBlock ≠ some k)
def LoF (B : Nat) (w : World) (v : Value) (fs : List Fl) : Prop :=
  ∃ xs : List (Value × Value), w.ownsRow B 45 3 v fs.length (cellsF fs xs) ∧ LoX B w v.ownBlock fs xs
theorem OwF.lo {B : Nat} {w : World} {v : Value} {fs : List Fl} (h : OwF B w v fs) : LoF B w v fs := by
  obtain ⟨xs, ho, ht⟩ := h
  exact ⟨xs, ho, ht.len, ht.own⟩
theorem LoF.rd {B : Nat} {w : World} {v : Value} {fs : List Fl} (h : LoF B w v fs) : RdF w.heap.size w v fs := by
  obtain ⟨xs, ho, ht⟩ := h
  refine row_rd ht.len ho (Nat.le_refl _) (fun j p x hp hxj => ?_)
  obtain ⟨o1, o2, _⟩ := ht.own j p x hp hxj
  exact ⟨o1.rd, o1.sl, o2.rd, o2.sl⟩
/-- The texts stay where the row turns or moves. -/
theorem LoX.row {B : Nat} {w w' : World} {g g' : Option Nat} {fs : List Fl} {xs : List (Value × Value)} (h : LoX B w g fs xs) (hg : w.grownBy w' g) (hg' : ∀ k, g' = some k → g = some k ∨ w.heap.size ≤ k) : LoX B w' g' fs xs :=
  ⟨h.len, fun j p x h1 h2 => by
    obtain ⟨o1, o2, o3⟩ := h.own j p x h1 h2
    refine ⟨o1.beside hg (fun k hk i hi e => ?_), o2.beside hg (fun k hk i hi e => ?_), fun k hk => ?_⟩
    · subst e; exact (o3 k hi).1 hk
    · subst e; exact (o3 k hi).2 hk
    · rcases hg' k hk with e | e
      · exact o3 k e
      · exact ⟨fun e2 => by have := World.ownsRow.lt o1 _ e2; omega, fun e2 => by have := World.ownsRow.lt o2 _ e2; omega⟩⟩
theorem LoF.later {B : Nat} {w w' : World} {v : Value} {fs : List Fl} (h : LoF B w v fs) (hg : w.grownBy w' none) : LoF B w' v fs := by
  obtain ⟨xs, ho, ht⟩ := h
  refine ⟨xs, World.ownsRow.kept ho hg (by cases v.ownBlock <;> simp), ht.len, fun j p x h1 h2 => ?_⟩
  obtain ⟨o1, o2, o3⟩ := ht.own j p x h1 h2
  exact ⟨o1.later hg, o2.later hg, o3⟩
theorem LoF.base {B B' : Nat} {w : World} {v : Value} {fs : List Fl} (h : LoF B w v fs) (hB : B' ≤ B) : LoF B' w v fs := by
  obtain ⟨xs, ho, ht⟩ := h
  exact ⟨xs, row_base hB ho, ht.len, fun j p x h1 h2 => by obtain ⟨o1, o2, o3⟩ := ht.own j p x h1 h2; exact ⟨row_base hB o1, row_base hB o2, o3⟩⟩
/-- .. over a write into a block that is none of theirs. -/
theorem LoF.set {B : Nat} {w : World} {v : Value} {fs : List Fl} (h : LoF B w v fs) (a : Addr) (u : Value) (hb : ∀ t ty n zs, w.ownsRow B ty 1 t n zs → t.ownBlock ≠ some a.block) (hv : v.ownBlock ≠ some a.block) : LoF B (w.setCell a u) v fs := by
  have hg : w.grownBy (w.setCell a u) (some a.block) := ⟨rfl, rfl, rfl, by simp, fun i _ hn => Below.heap_setCell _ _ _ _ (fun e => hn (by rw [e]))⟩
  obtain ⟨xs, ho, ht⟩ := h
  refine ⟨xs, World.ownsRow.kept ho hg (.inr hv), ht.len, fun j p x h1 h2 => ?_⟩
  obtain ⟨o1, o2, o3⟩ := ht.own j p x h1 h2
  exact ⟨o1.beside hg (fun k hk i hi e => by cases hi; subst e; exact hb _ _ _ _ o1 hk), o2.beside hg (fun k hk i hi e => by cases hi; subst e; exact hb _ _ _ _ o2 hk), o3⟩
theorem LoF.setLow {B : Nat} {w : World} {v : Value} {fs : List Fl} (h : LoF B w v fs) (a : Addr) (u : Value) (hb : a.block < B) : LoF B (w.setCell a u) v fs :=
  h.set a u (fun t ty n zs o e => by have := World.ownsRow.lt o _ e; omega) (by obtain ⟨xs, ho, _⟩ := h; exact fun e => by have := World.ownsRow.lt ho _ e; omega)

theorem cellsF_app : ∀ (a b : List Fl) (x y : List (Value × Value)), x.length = a.length → cellsF (a ++ b) (x ++ y) = cellsF a x ++ cellsF b y
  | [], _, [], _, _ => rfl
  | p :: a, b, q :: x, y, h => by simp only [List.cons_append, cellsF, cellsF_app a b x y (by simpa using h)]
  | [], _, _ :: _, _, h => by simp at h
  | _ :: _, _, [], _, h => by simp at h
theorem cellsF_cut (fs : List Fl) (xs : List (Value × Value)) (h : xs.length = fs.length) (i : Nat) (hi : i ≤ fs.length) : (cellsF fs xs).take (i * 3) = cellsF (fs.take i) (xs.take i) ∧ (cellsF fs xs).drop (i * 3) = cellsF (fs.drop i) (xs.drop i) := by
  have hl : (cellsF (fs.take i) (xs.take i)).length = i * 3 := by rw [cellsF_len _ _ (by simp [h]), List.length_take, Nat.min_eq_left hi]
  have e := cellsF_app (fs.take i) (fs.drop i) (xs.take i) (xs.drop i) (by simp [h])
  rw [List.take_append_drop, List.take_append_drop] at e
  rw [e]
  exact ⟨by rw [← hl, List.take_left], by rw [← hl, List.drop_left]⟩
theorem cellsF_oneL {fs : List Fl} {xs : List (Value × Value)} {B : Nat} {w : World} {g : Option Nat} (h : LoX B w g fs xs) : ∀ u ∈ cellsF fs xs, u.oneCell' = true := by
  have key : ∀ (fs : List Fl) (xs : List (Value × Value)), xs.length = fs.length → (∀ (j : Nat) (p : Fl) (x : Value × Value), fs[j]? = some p → xs[j]? = some x → OwB B w x.1 p.n ∧ OwB B w x.2 p.d) → ∀ u ∈ cellsF fs xs, u.oneCell' = true := by
    intro fs
    induction fs with
    | nil => intro xs _ _ u hu; cases xs <;> simp [cellsF] at hu
    | cons p fs ih =>
      intro xs hl hx u hu
      cases xs with
      | nil => simp at hl
      | cons x xs =>
        obtain ⟨o1, o2⟩ := hx 0 p x rfl rfl
        simp only [cellsF, List.mem_cons] at hu
        rcases hu with rfl | rfl | rfl | hu
        · obtain ⟨a, c, e, _⟩ := o1.sl; rw [e]; rfl
        · obtain ⟨a, c, e, _⟩ := o2.sl; rw [e]; rfl
        · rfl
        · exact ih xs (by simpa using hl) (fun j p x h1 h2 => hx (j + 1) p x h1 h2) u hu
  exact key fs xs h.len (fun j p x h1 h2 => ⟨(h.own j p x h1 h2).1, (h.own j p x h1 h2).2.1⟩)

/-- A file put between. -/
theorem LoF.ins {B : Nat} {w w' : World} {v v' : Value} {fs : List Fl} {xs : List (Value × Value)} {i : Nat} {p : Fl} {x : Value × Value} (hX : LoX B w v.ownBlock fs xs) (hi : i ≤ fs.length) (ho : w'.ownsRow B 45 3 v' (fs.length + 1) ((cellsF fs xs).take (i * 3) ++ ([x.1, x.2, .int .i64 p.s] ++ (cellsF fs xs).drop (i * 3))))
    (hg : w.grownBy w' v.ownBlock) (hb : v'.ownBlock = v.ownBlock ∨ ∃ k, v'.ownBlock = some k ∧ w.heap.size ≤ k) (h1 : OwB B w x.1 p.n) (h2 : OwB B w x.2 p.d) (h3 : ∀ k, v.ownBlock = some k → x.1.ownBlock ≠ some k ∧ x.2.ownBlock ≠ some k) : LoF B w' v' (fs.take i ++ p :: fs.drop i) := by
  have hb' : ∀ k, v'.ownBlock = some k → v.ownBlock = some k ∨ w.heap.size ≤ k := fun k hk => by
    rcases hb with h | ⟨j, hj, hl⟩
    · rw [h] at hk; exact .inl hk
    · rw [hj] at hk; cases hk; exact .inr hl
  have hX' := hX.row hg hb'
  have h4 : OwB B w' x.1 p.n ∧ OwB B w' x.2 p.d ∧ (∀ k, v'.ownBlock = some k → x.1.ownBlock ≠ some k ∧ x.2.ownBlock ≠ some k) := by
    have hY : LoX B w v.ownBlock [p] [x] := ⟨rfl, fun j q y e1 e2 => by
      match j, e1, e2 with
      | 0, e1, e2 => simp at e1 e2; subst e1 e2; exact ⟨h1, h2, h3⟩
      | j + 1, e1, _ => simp at e1⟩
    exact (hY.row hg hb').own 0 p x rfl rfl
  obtain ⟨c1, c2⟩ := cellsF_cut fs xs hX.len i hi
  have hlt : (xs.take i).length = (fs.take i).length := by simp [hX.len]
  refine ⟨xs.take i ++ x :: xs.drop i, ?_, ?_, fun j q y e1 e2 => ?_⟩
  · rw [cellsF_app _ _ _ _ hlt]
    rw [c1, c2] at ho
    have hl : (fs.take i ++ p :: fs.drop i).length = fs.length + 1 := by simp; omega
    rw [hl]
    exact ho
  · simp [hX.len]
  · by_cases hj : j < i
    · rw [List.getElem?_append_left (by simp; omega), List.getElem?_take_of_lt hj] at e1
      rw [List.getElem?_append_left (by simp [hX.len]; omega), List.getElem?_take_of_lt hj] at e2
      exact hX'.own j q y e1 e2
    · have l1 : (fs.take i).length = i := by simp; omega
      have l2 : (xs.take i).length = i := by simp [hX.len]; omega
      rw [List.getElem?_append_right (by omega), l1] at e1
      rw [List.getElem?_append_right (by omega), l2] at e2
      cases hk : j - i with
      | zero =>
        rw [hk] at e1 e2
        simp at e1 e2
        subst e1 e2
        exact h4
      | succ m =>
        rw [hk] at e1 e2
        simp only [List.getElem?_cons_succ, List.getElem?_drop] at e1 e2
        exact hX'.own _ q y e1 e2
/-- A file taken out. -/
theorem LoF.del {B : Nat} {w w' : World} {g cap : Nat} {fs : List Fl} {xs : List (Value × Value)} {i : Nat} (hX : LoX B w (some g) fs xs) (hi : i < fs.length) (ho : w'.ownsRow B 45 3 (.slice (some ⟨g, 0, none⟩) (fs.length - 1) cap) (fs.length - 1) ((cellsF fs xs).take (i * 3) ++ (cellsF fs xs).drop ((i + 1) * 3)))
    (hg : w.grownBy w' (some g)) : LoF B w' (.slice (some ⟨g, 0, none⟩) (fs.length - 1) cap) (fs.take i ++ fs.drop (i + 1)) := by
  have hX' := hX.row (g' := some g) hg (fun k e => .inl e)
  obtain ⟨c1, _⟩ := cellsF_cut fs xs hX.len i (by omega)
  obtain ⟨_, c2⟩ := cellsF_cut fs xs hX.len (i + 1) (by omega)
  have hlt : (xs.take i).length = (fs.take i).length := by simp [hX.len]
  refine ⟨xs.take i ++ xs.drop (i + 1), ?_, ?_, fun j q y e1 e2 => ?_⟩
  · rw [cellsF_app _ _ _ _ hlt]
    rw [c1, c2] at ho
    have hl : (fs.take i ++ fs.drop (i + 1)).length = fs.length - 1 := by simp; omega
    rw [hl]
    exact ho
  · simp [hX.len]
  · by_cases hj : j < i
    · rw [List.getElem?_append_left (by simp; omega), List.getElem?_take_of_lt hj] at e1
      rw [List.getElem?_append_left (by simp [hX.len]; omega), List.getElem?_take_of_lt hj] at e2
      exact hX'.own j q y e1 e2
    · have l1 : (fs.take i).length = i := by simp; omega
      have l2 : (xs.take i).length = i := by simp [hX.len]; omega
      rw [List.getElem?_append_right (by omega), l1, List.getElem?_drop] at e1
      rw [List.getElem?_append_right (by omega), l2, List.getElem?_drop] at e2
      exact hX'.own _ q y e1 e2
end Go.Proofs.YtakkdniikhgpdaaGreatDoor

namespace Go.Proofs.YtakkdniikhgpdaaGreatDoor
open Go.RowKit

set_option maxHeartbeats 8000000 in
set_option maxRecDepth 100000 in
theorem binary_any (v nv : Value) (fs : List Fl) (n : List Int) (w : World) (hv : RdF w.heap.size w v fs) (hd : Fss fs) (hval : validF fs = true) (hn : RdB w.heap.size w nv n) (hs : Sl nv n.length) (hb : Byt n) :
    Calls Tryz.prog 58 #[v, nv, .func (.func 47) #[] #[]] w fun e w' => ∃ i : Nat, e = .returned (.tuple #[.int .i64 i, .bool (decide (∃ hi : i < fs.length, fs[i].n = n))]) ∧ Pos fs n i ∧ w.grownBy w' none := by
  obtain ⟨a, cap, hv0, hcap, hmax, _⟩ := id hv
  obtain ⟨na, ncap, hnv0, _, _⟩ := id hs
  have hlen := valid_len hval
  have HV := hide hv
  have HN := hide hn
  have HD := hide hd
  have HB := hide hb
  have HA := hide (valid_asc hval)
  subst hv0 hnv0
  clear hv hn hs hd hb hval
  go_enter Tryz.func58, Tryz.ntmps58
  go_wp2
  go_loopw [9, 10] (fun i j wr => ∃ (x y : Nat), x ≤ y ∧ y ≤ fs.length ∧ i = .int .i64 x ∧ j = .int .i64 y ∧ Hid (w.grownBy wr none) ∧ Hid (∀ k (hk : k < fs.length), k < x → ltB fs[k].n n = true) ∧ Hid (∀ k (hk : k < fs.length), y ≤ k → ltB fs[k].n n = false)) (fun i j _ => (intOf j).toNat - (intOf i).toNat)
  case atStart => exact ⟨0, fs.length, Nat.zero_le _, Nat.le_refl _, rfl, rfl, World.grownBy.refl _ _, fun k hk h0 => by omega, fun k hk h0 => by omega⟩
  case round =>
    obtain ⟨x, y, hxy, hyl, rfl, rfl, HG, HL, HH⟩ := hrel
    by_cases hlt : x < y
    · have hx2 : (x + y) / 2 < fs.length := by omega
      obtain ⟨b, off, cap', u, hva, hb, hp⟩ := (HV.out.now HG.out).at ((x + y) / 2) hx2
      cases hva
      obtain ⟨pv, pd⟩ := u
      have y0 := hp.n; have y1 := hp.d; have y2 := hp.s
      have HCm := hide (compareName_any pv pd (.slice na n.length ncap) fs[(x + y) / 2].s fs[(x + y) / 2].n n wr hp.rn hp.sn ((HN.out.keep HG.out).wideF HG.out.size) (HD.out.byt _ (List.getElem_mem hx2)).1 HB.out)
      obtain ⟨pa, pcap, hpv, hq1, hq2⟩ := hp.sn
      obtain ⟨qa, qcap, hqv, hr1, hr2⟩ := hp.sd
      simp only at hpv hqv
      subst hpv hqv
      clear hp
      have hxi : (x : Int) < y := by omega
      have hm : (((x + y) / 2 : Nat) : Int) = ((x : Int) + y) / 2 := by omega
      by_cases hc : cmpB fs[(x + y) / 2].n n < 0
      · have HL2 : Hid (∀ k (hk : k < fs.length), k < (x + y) / 2 + 1 → ltB fs[k].n n = true) := fun k hk hkx => by
          by_cases e : k = (x + y) / 2
          · subst e; exact (cmpB_lt _ _).1 hc
          · exact ltB_trans _ _ _ (HA.out k ((x + y) / 2) (by omega) hx2) ((cmpB_lt _ _).1 hc)
        generalize cmpB fs[(x + y) / 2].n n = c at *
        go_wp2_with fail
        refine HCm.out.mono ?_
        rintro e w1 ⟨rfl, g⟩
        have HG1 : Hid (w.grownBy w1 none) := grown_trans HG.out g
        clear g
        go_wp2
        go_roundw
        case rel => exact ⟨(x + y) / 2 + 1, y, by omega, hyl, by rw [← hm]; go_num, rfl, HG1, HL2, HH⟩
        case measure => simp only [intOf]; omega
      · have HH2 : Hid (∀ k (hk : k < fs.length), (x + y) / 2 ≤ k → ltB fs[k].n n = false) := fun k hk hkx => by
          have h1 : ltB fs[(x + y) / 2].n n = false := by
            rw [Bool.eq_false_iff]; exact fun e => hc ((cmpB_lt _ _).2 e)
          by_cases e : k = (x + y) / 2
          · subst e; exact h1
          · rw [Bool.eq_false_iff]
            intro e2
            have := ltB_trans _ _ _ (HA.out ((x + y) / 2) k (by omega) hk) e2
            rw [h1] at this; cases this
        generalize cmpB fs[(x + y) / 2].n n = c at *
        go_wp2_with fail
        refine HCm.out.mono ?_
        rintro e w1 ⟨rfl, g⟩
        have HG1 : Hid (w.grownBy w1 none) := grown_trans HG.out g
        clear g
        go_wp2
        go_roundw
        case rel => exact ⟨x, (x + y) / 2, by omega, by omega, rfl, by rw [← hm], HG1, HL, HH2⟩
        case measure => simp only [intOf]; omega
    · have hxy2 : x = y := by omega
      subst hxy2
      by_cases hxl : x < fs.length
      · obtain ⟨b, off, cap', u, hva, hb, hp⟩ := (HV.out.now HG.out).at x hxl
        cases hva
        obtain ⟨pv, pd⟩ := u
        have y0 := hp.n; have y1 := hp.d; have y2 := hp.s
        have HCm := hide (fun (w' : World) (g : wr.grownBy w' none) => compareName_any pv pd (.slice na n.length ncap) fs[x].s fs[x].n n w' ((hp.rn.keep g).wideF g.size) hp.sn (((HN.out.keep HG.out).keep g).wideF (Nat.le_trans HG.out.size g.size)) (HD.out.byt _ (List.getElem_mem hxl)).1 HB.out)
        obtain ⟨pa, pcap, hpv, hq1, hq2⟩ := hp.sn
        obtain ⟨qa, qcap, hqv, hr1, hr2⟩ := hp.sd
        simp only at hpv hqv
        subst hpv hqv
        clear hp
        have hxi : (x : Int) < fs.length := by omega
        have HP : Hid (Pos fs n x) := ⟨hyl, HL.out, HH.out⟩
        by_cases hc : cmpB fs[x].n n = 0
        · have HF : Hid (decide (∃ hi : x < fs.length, fs[x].n = n) = true) := by
            unfold Hid; rw [decide_eq_true_eq]; exact ⟨hxl, (cmpB_eq _ _).1 hc⟩
          rw [hc] at HCm
          clear hc
          go_wp2_with fail
          refine (HCm.out _ (World.grownBy.refl _ _)).mono ?_
          rintro e w1 ⟨rfl, g⟩
          go_wp2
          go_ret2
          exact ⟨x, by rw [HF.out]; rfl, HP.out, grown_trans HG.out g⟩
        · have HF : Hid (decide (∃ hi : x < fs.length, fs[x].n = n) = false) := by
            unfold Hid; rw [decide_eq_false_iff_not]; rintro ⟨_, e⟩; exact hc ((cmpB_eq _ _).2 e)
          generalize cmpB fs[x].n n = c at *
          go_wp2_with fail
          refine (HCm.out _ (World.grownBy.refl _ _)).mono ?_
          rintro e w1 ⟨rfl, g⟩
          go_wp2
          go_ret2
          exact ⟨x, by rw [HF.out, ← decide_eq_false hc]; rfl, HP.out, grown_trans HG.out g⟩
      · have HP : Hid (Pos fs n x) := ⟨hyl, HL.out, HH.out⟩
        have HF : Hid (decide (∃ hi : x < fs.length, fs[x].n = n) = false) := by
          unfold Hid; rw [decide_eq_false_iff_not]; rintro ⟨e, _⟩; omega
        go_wp2
        go_ret2
        exact ⟨x, by rw [HF.out]; rfl, HP.out, HG.out⟩

end Go.Proofs.YtakkdniikhgpdaaGreatDoor

namespace Go.Proofs.YtakkdniikhgpdaaGreatDoor
open Go.RowKit

/-- What find answers. -/
inductive Found (fs : List Fl) (n : List Int) (a0 a1 : Addr) : Value → Prop
  | bad : nameOK n = false → Found fs n a0 a1 (.tuple #[.int .i64 0, Er a0])
  | none (i : Nat) : nameOK n = true → Pos fs n i → findF fs n = none → Found fs n a0 a1 (.tuple #[.int .i64 i, Er a1])
  | yes (i : Nat) (hi : i < fs.length) : nameOK n = true → Pos fs n i → fs[i].n = n → findF fs n = some fs[i] → Found fs n a0 a1 (.tuple #[.int .i64 i, .nilIface])

set_option maxHeartbeats 4000000 in
set_option maxRecDepth 100000 in
theorem find_any (h : Nat) (v nv : Value) (fs : List Fl) (n : List Int) (a0 a1 a2 : Addr) (w : World) (hc : w.cell? ⟨h, 0, none⟩ = some v) (hv : RdF w.heap.size w v fs) (hd : Fss fs) (hval : validF fs = true) (hn : RdB w.heap.size w nv n) (hs : Sl nv n.length) (hb : Byt n) (he : Errs w a0 a1 a2) :
    Calls Tryz.prog 50 #[.pointer (some ⟨h, 0, none⟩), nv] w fun e w' => ∃ u, e = .returned u ∧ Found fs n a0 a1 u ∧ w.grownBy w' none := by
  obtain ⟨na, ncap, hnv0, hn1, hn2⟩ := id hs
  unfold maxLen at hn2
  have HNm := hide (fun w => canBeName_any na n ncap w (by omega))
  obtain ⟨a, cap, hv0, _⟩ := id hv
  by_cases hok : nameOK n = true
  · rw [hok] at HNm
    have HBn := hide (binary_any v nv fs n w hv hd hval hn hs hb)
    have HVl := hide hval
    have HE := hide he
    subst hnv0 hv0
    clear hv hn hs hval he hd hb
    go_enter Tryz.func50, Tryz.ntmps50
    go_wp2_with fail
    refine (HNm.out _).mono ?_; rintro e w1 ⟨rfl, rfl⟩
    go_wp2_with fail
    refine HBn.out.mono ?_
    rintro e w1 ⟨i, rfl, hp, g⟩
    have HG := hide g
    have HP := hide hp
    have he1 := (HE.out.keep g).g1
    by_cases hf : ∃ hi : i < fs.length, fs[i].n = n
    · have HF : Hid (Found fs n a0 a1 (.tuple #[.int .i64 i, .nilIface])) := by
        obtain ⟨hi, e⟩ := hf
        exact .yes i hi hok hp e (pos_find hp hi e)
      rw [decide_eq_true hf]
      clear hf hp g
      go_wp2
      go_ret2
      exact ⟨_, rfl, HF.out, HG.out⟩
    · have HF : Hid (Found fs n a0 a1 (.tuple #[.int .i64 i, Er a1])) := .none i hok hp (pos_none HVl.out hp (fun hi e => hf ⟨hi, e⟩))
      rw [decide_eq_false hf]
      clear hf hp g
      go_wp2
      go_quiet (fail)
      go_wp2
      go_ret2
      exact ⟨_, rfl, HF.out, grown_drewN HG.out _⟩
  · have HF : Hid (Found fs n a0 a1 (.tuple #[.int .i64 0, Er a0])) := .bad (by simpa using hok)
    rw [show nameOK n = false by simpa using hok] at HNm
    have he0 := he.g0
    subst hnv0 hv0
    clear hv hn hs hval he hd hb
    go_enter Tryz.func50, Tryz.ntmps50
    go_wp2_with fail
    refine (HNm.out _).mono ?_; rintro e w1 ⟨rfl, rfl⟩
    go_wp2
    go_quiet (fail)
    go_wp2
    go_ret2
    exact ⟨_, rfl, HF.out, grown_drewN (World.grownBy.refl _ _) _⟩

end Go.Proofs.YtakkdniikhgpdaaGreatDoor

namespace Go.Proofs.YtakkdniikhgpdaaGreatDoor
open Go.RowKit
attribute [-go_sem] Builtin.append_

theorem own_type {w : World} {B : Nat} {e : TypeId} {size n : Nat} {v : Value} {xs : List Value} (h : w.ownsRow B e size v n xs) {k : Nat} (hk : v.ownBlock = some k) : ∃ cur, w.heap[k]? = some (.cells cur e (0, 0)) := by
  rcases h.2 with ⟨rfl, _⟩ | ⟨g, cap, cur, rfl, _, hg, _⟩
  · cases hk
  · cases hk; exact ⟨cur, hg⟩

/-- A list of files as the program holds it. -/
structure HL (B h : Nat) (w : World) (v : Value) (fs : List Fl) : Prop where
  hp : w.heap[h]? = some (.cells #[v] 81 (0, 0))
  lo : LoF B w v fs
  hB : B ≤ h
theorem HL.cell {B h : Nat} {w : World} {v : Value} {fs : List Fl} (H : HL B h w v fs) : w.cell? ⟨h, 0, none⟩ = some v := by
  rw [cell_of_row w h 0 _ _ (0, 0) H.hp]
  rfl
theorem HL.frz {B h : Nat} {w : World} {v : Value} {fs : List Fl} (H : HL B h w v fs) : w.frozen? ⟨h, 0, none⟩ = false := frozen_of_row w h 0 _ _ H.hp
theorem HL.lt {B h : Nat} {w : World} {v : Value} {fs : List Fl} (H : HL B h w v fs) : h < w.heap.size := (Array.getElem?_eq_some_iff.1 H.hp).1
theorem HL.later {B h : Nat} {w w' : World} {v : Value} {fs : List Fl} (H : HL B h w v fs) (g : w.grownBy w' none) : HL B h w' v fs :=
  ⟨by rw [g.block h H.lt (by simp)]; exact H.hp, H.lo.later g, H.hB⟩
theorem HL.rd {B h : Nat} {w : World} {v : Value} {fs : List Fl} (H : HL B h w v fs) : RdF w.heap.size w v fs := H.lo.rd
/-- Another list is put into it. -/
theorem HL.put {B h : Nat} {w : World} {v v' : Value} {fs' : List Fl} (hp : w.heap[h]? = some (.cells #[v] 81 (0, 0))) (hB : B ≤ h) (hl : LoF B w v' fs') : HL B h (w.setCell ⟨h, 0, none⟩ v') v' fs' := by
  refine ⟨by rw [heap_setCell_same w h 0 _ _ v' hp]; rfl, ?_, hB⟩
  obtain ⟨xs, ho, ht⟩ := hl
  have hg : w.grownBy (w.setCell ⟨h, 0, none⟩ v') (some h) := ⟨rfl, rfl, rfl, by simp, fun i _ hn => Below.heap_setCell _ _ _ _ (fun e => hn (by rw [e]))⟩
  have hne : ∀ {e : TypeId} {size n : Nat} {u : Value} {ys : List Value}, w.ownsRow B e size u n ys → e ≠ 81 → u.ownBlock ≠ some h := fun o hn e => by
    obtain ⟨cur, hc⟩ := own_type o e
    rw [hp] at hc
    cases hc
    exact hn rfl
  refine ⟨xs, World.ownsRow.kept ho hg (.inr (hne ho (by decide))), ht.len, fun j p x h1 h2 => ?_⟩
  obtain ⟨o1, o2, o3⟩ := ht.own j p x h1 h2
  exact ⟨o1.beside hg (fun k hk i hi e => by cases hi; subst e; exact hne o1 (by decide) hk), o2.beside hg (fun k hk i hi e => by cases hi; subst e; exact hne o2 (by decide) hk), o3⟩

/-- What a method leaves: the list fs', and nothing below B turned. -/
def Lft (B h : Nat) (w : World) (fs' : List Fl) (w' : World) : Prop := (∃ v', HL B h w' v' fs') ∧ Below B w w'

set_option maxHeartbeats 4000000 in
set_option maxRecDepth 100000 in
theorem remove_any (B h : Nat) (v nv : Value) (fs : List Fl) (n : List Int) (a0 a1 a2 : Addr) (w : World) (H : HL B h w v fs) (hd : Fss fs) (hval : validF fs = true) (hn : RdB w.heap.size w nv n) (hs : Sl nv n.length) (hb : Byt n) (hok : nameOK n = true) (he : Errs w a0 a1 a2) :
    Calls Tryz.prog 121 #[.pointer (some ⟨h, 0, none⟩), nv] w fun e w' => (findF fs n = none ∧ e = .returned (Er a1) ∧ Lft B h w fs w') ∨ ∃ (i : Nat) (hi : i < fs.length), Pos fs n i ∧ fs[i].n = n ∧ e = .returned .nilIface ∧ Lft B h w (fs.take i ++ fs.drop (i + 1)) w' := by
  have HF := hide (find_any h v nv fs n a0 a1 a2 w H.cell H.rd hd hval hn hs hb he)
  have HH := hide H
  have hlen : fs.length ≤ 50 := by
    by_cases hh : 50 < fs.length
    · rw [valid_long hh] at hval; cases hval
    · omega
  have hc := H.cell
  have hf := H.frz
  have hBh := H.hB
  have hhl := H.lt
  obtain ⟨va, vc, hv0, _⟩ := H.rd
  obtain ⟨na, ncap, hnv0, _, _⟩ := id hs
  have hn1 : ∀ (t : TypeId) (u : Value) (w : World), (binOp .neq 54 (.iface t u) .nilIface).run Tryz.prog w = .ok (.bool true) w := fun _ _ _ => rfl
  have hn2 : ∀ (w : World), (binOp .neq 54 .nilIface .nilIface).run Tryz.prog w = .ok (.bool false) w := fun _ => rfl
  subst hnv0 hv0
  clear hn hs hval he hd hb H
  go_enter Tryz.func121, Tryz.ntmps121
  go_wp2_with fail
  refine HF.out.mono ?_
  rintro e w1 ⟨u, rfl, fd, g⟩
  have HG := hide g
  have hc1 := g.cell hc (by simp)
  have hb1 : Below B w w1 := (below_of_grown g).mono (by omega)
  clear hc HF
  cases fd with
  | bad hk => rw [hok] at hk; cases hk
  | none i hk _ hf' =>
    have HFf := hide hf'
    have HB := hide hb1
    clear g hb1
    go_wp2
    go_ret
    exact .inl ⟨HFf.out, rfl, ⟨_, HH.out.later HG.out⟩, HB.out⟩
  | yes i hi hk hpos heq _ =>
    have HP := hide hpos
    have HQ := hide heq
    have H1 := HH.out.later g
    obtain ⟨xs, ho, ht⟩ := H1.lo
    obtain ⟨g0, hva⟩ : ∃ g0, va = some ⟨g0, 0, none⟩ := by
      rcases ho.2 with ⟨e, e2⟩ | ⟨g0, cap, cur, e, _⟩
      · omega
      · cases e; exact ⟨g0, rfl⟩
    subst hva
    have hgh : g0 ≠ h := fun e => by
      obtain ⟨cur, hc⟩ := own_type ho (k := g0) rfl
      rw [e, H1.hp] at hc
      cases hc
    have HD := hide (delete_any g0 fs.length vc i (cellsF fs xs) B w1 ho hi (by omega) (cellsF_oneL ht))
    have HT := hide ht
    have HP1 := hide H1.hp
    have HB1 := hide hb1
    have hl1 := g.size
    have hBg := (own_cap ho).2.2.1
    have hw1 : IntKind.i64.wrap ((i : Int) + 1) = (i : Int) + 1 := by rw [IntKind.wrap_i64]; omega
    clear g hb1 H1 ho ht hf
    go_wp2_with fail
    refine HD.out.mono ?_
    rintro e w2 ⟨rfl, o2, g2⟩
    have hp2 : w2.heap[h]? = _ := (g2.block h (by omega) (by simpa using fun e => hgh e.symm)).trans HP1.out
    have c2 : w2.cell? ⟨h, 0, none⟩ = some (.slice (some ⟨g0, 0, none⟩) fs.length vc) := by rw [cell_of_row w2 h 0 _ _ (0, 0) hp2]; rfl
    have f2 : w2.frozen? ⟨h, 0, none⟩ = false := frozen_of_row w2 h 0 _ _ hp2
    have HL2 := hide (HL.put hp2 hBh (LoF.del HT.out hi o2 g2))
    have HB2 : Hid (Below B w (w2.setCell ⟨h, 0, none⟩ (.slice (some ⟨g0, 0, none⟩) (fs.length - 1) vc))) := (HB1.out.trans ((Below.refl B w1).grown g2 (by omega) (fun k e => by cases e; exact hBg))).setCell (by simpa using hBh) _
    clear hp2 o2 g2 HT HP1 HB1 HD
    go_wp2
    go_ret
    exact .inr ⟨i, hi, HP.out, HQ.out, rfl, ⟨_, HL2.out⟩, HB2.out⟩
end Go.Proofs.YtakkdniikhgpdaaGreatDoor

namespace Go.Proofs.YtakkdniikhgpdaaGreatDoor
open Go.RowKit
attribute [-go_sem] Builtin.append_

/-- slices.Insert, whatever the room. -/
theorem insert_any (v : Value) (n i vb : Nat) (xs : List Value) (e0 e1 e2 : Value) (B : Nat) (w : World) (ho : w.ownsRow B 45 3 v n xs) (hi : i ≤ n) (hn : n ≤ 100) (hvb : w.heap[vb]? = some (.cells #[e0, e1, e2] 45 (0, 0))) (hne : v.ownBlock ≠ some vb) (hB : B ≤ w.heap.size) (h1 : ∀ u ∈ xs, u.oneCell' = true) (h2 : ∀ u ∈ [e0, e1, e2], u.oneCell' = true) :
    Calls Tryz.prog 127 #[v, .int .i64 i, .slice (some ⟨vb, 0, none⟩) 1 1] w fun e w' => Ins B w v n i xs e0 e1 e2 e w' := by
  by_cases hin : i = n
  · subst hin
    exact insert_end v i vb xs e0 e1 e2 B w ho hn hvb hB h2
  · rcases ho.2 with ⟨rfl, rfl⟩ | ⟨g, cap, cur, rfl, _⟩
    · omega
    · by_cases hc : n + 1 ≤ cap
      · exact insert_shift g n cap i vb xs e0 e1 e2 B w ho (by omega) hn hc hvb (fun e => hne (by rw [e]; rfl)) h1 h2
      · exact insert_grow g n cap i vb xs e0 e1 e2 B w ho (by omega) hn (by omega) hvb hB h1 h2

set_option maxHeartbeats 4000000 in
set_option maxRecDepth 100000 in
/-- A file with a name that is not there is put in its place. -/
theorem put_new (B h : Nat) (v x1 x2 : Value) (fs : List Fl) (p : Fl) (a0 a1 a2 : Addr) (w : World) (H : HL B h w v fs) (hd : Fss fs) (hval : validF fs = true) (h1 : OwB B w x1 p.n) (h2 : OwB B w x2 p.d) (h3 : ∀ k, v.ownBlock = some k → x1.ownBlock ≠ some k ∧ x2.ownBlock ≠ some k) (hb : Byt p.n) (hok : nameOK p.n = true) (hno : findF fs p.n = none) (hl : fs.length < 50) (he : Errs w a0 a1 a2) :
    Calls Tryz.prog 126 #[.pointer (some ⟨h, 0, none⟩), .agg #[x1, x2, .int .i64 p.s]] w fun e w' => e = .returned .nilIface ∧ ∃ i, Pos fs p.n i ∧ Lft B h w (fs.take i ++ p :: fs.drop i) w' := by
  obtain ⟨n1, c1, hx1, hl1, hm1⟩ := h1.sl
  obtain ⟨n2, c2, hx2, _, _⟩ := h2.sl
  have HF : Hid (∀ W : World, w.grownBy W none → _) := fun W (g : w.grownBy W none) => find_any h v x1 fs p.n a0 a1 a2 W (H.later g).cell (H.later g).rd hd hval ((h1.later g).rd) h1.sl hb (he.keep g)
  have HIs : Hid (∀ W : World, w.grownBy W none → _) := fun W (_ : w.grownBy W none) => is_it a1 W
  have HH := hide H
  have H1 := hide h1
  have H2 := hide h2
  have H3 := hide h3
  have HE := hide he
  have hBh := H.hB
  have hhl := H.lt
  obtain ⟨va, vc, hv0, _⟩ := H.rd
  have hn1 : ∀ (t : TypeId) (u : Value) (w : World), (binOp .eql 54 (.iface t u) .nilIface).run Tryz.prog w = .ok (.bool false) w := fun _ _ _ => rfl
  subst hx1 hx2 hv0
  obtain ⟨w0, hw0⟩ : ∃ w0, w0 = w.alloc (Obj.cells #[.slice n1 p.n.length c1, .slice n2 p.d.length c2, .int .i64 p.s] 45) := ⟨_, rfl⟩
  have g0 : w.grownBy w0 none := by rw [hw0]; exact World.grownBy_alloc _ _ _
  have k0 : w0.cell? ⟨w.heap.size, 0, none⟩ = some (.slice n1 p.n.length c1) := by rw [hw0]; simp [go_sem]
  have k1 : w0.cell? ⟨w.heap.size, 1, none⟩ = some (.slice n2 p.d.length c2) := by rw [hw0]; simp [go_sem]
  have k2 : w0.cell? ⟨w.heap.size, 2, none⟩ = some (.int .i64 p.s) := by rw [hw0]; simp [go_sem]
  have HF0 := hide (HF.out w0 g0)
  have HW0 := hide hw0
  rw [hw0] at HF0
  clear hval hd hb H he h1 h2 h3 HF hw0
  go_enter Tryz.func126, Tryz.ntmps126
  go_wp2_with fail
  refine HF0.out.mono ?_
  rintro e w1 ⟨u, rfl, fd, g⟩
  rw [← HW0.out] at g
  have l0 := g.cell k0 (by simp)
  have l1 := g.cell k1 (by simp)
  have l2 := g.cell k2 (by simp)
  replace g := grown_trans g0 g
  clear k0 k1 k2 HF0 HW0
  cases fd with
  | bad hk => rw [hok] at hk; cases hk
  | yes i hi hk hpos heq hf' => rw [hno] at hf'; cases hf'
  | none i hk hpos _ =>
    have HP := hide hpos
    have hil := hpos.le
    have HB1 : Hid (Below B w w1) := (below_of_grown g).mono (by omega)
    have H4 := HH.out.later g
    have hc1 := H4.cell
    have he1 := (HE.out.keep g).g1
    have hl1 := g.size
    have gA : w1.grownBy (w1.drew.alloc (Obj.cells #[.slice n1 p.n.length c1, .slice n2 p.d.length c2, .int .i64 p.s] 45)) none := grown_trans (show w1.grownBy w1.drew none from ⟨rfl, rfl, rfl, Nat.le_refl _, fun _ _ _ => rfl⟩) (World.grownBy_alloc w1.drew (Obj.cells #[.slice n1 p.n.length c1, .slice n2 p.d.length c2, .int .i64 p.s] 45) none)
    have H5 := H4.later gA
    obtain ⟨xs, ho, ht⟩ := H5.lo
    have hne : (Value.slice va fs.length vc).ownBlock ≠ some w1.heap.size := fun e => by
      obtain ⟨ys, ho4, _⟩ := H4.lo
      have := World.ownsRow.lt ho4 _ e
      omega
    have HI := hide (insert_any (w := w1.drew.alloc (Obj.cells #[.slice n1 p.n.length c1, .slice n2 p.d.length c2, .int .i64 p.s] 45)) (.slice va fs.length vc) fs.length i w1.heap.size (cellsF fs xs) (.slice n1 p.n.length c1) (.slice n2 p.d.length c2) (.int .i64 p.s) B ho hil (by omega) (heap_alloc_new w1.drew _) hne (by simp; omega) (cellsF_oneL ht) (by intro u hu; simp at hu; rcases hu with rfl | rfl | rfl <;> rfl))
    have HT := hide ht
    have HP5 := hide H5.hp
    have HX1 := hide ((H1.out.later g).later gA)
    have HX2 := hide ((H2.out.later g).later gA)
    have HGA := hide gA
    have hlen : ¬ ((fs.length : Int) = 50) := by omega
    have hl50 : ((fs.length : Int) == 50) = false := by simpa using hlen
    have hor : ∀ k, (Value.slice va fs.length vc).ownBlock = some k → B ≤ k ∧ k < w1.heap.size := fun k e => by
      obtain ⟨ys, ho4, _⟩ := H4.lo
      exact World.ownsRow.lt ho4 _ e
    have hrw : ∀ k, (Value.slice va fs.length vc).ownBlock = some k → k < w.heap.size := fun k e => by
      obtain ⟨ys, ho4, _⟩ := HH.out.lo
      exact (World.ownsRow.lt ho4 _ e).2
    have hvh : (Value.slice va fs.length vc).ownBlock ≠ some h := fun e => by
      obtain ⟨ys, ho4, _⟩ := H4.lo
      obtain ⟨cur, hc⟩ := own_type ho4 e
      rw [H4.hp] at hc
      cases hc
    clear H4 H5 ho ht gA g hpos
    go_wp2_with fail
    refine (is_it a1 w1).mono ?_
    rintro e w2 ⟨rfl, rfl⟩
    go_wp2
    obtain ⟨I, hI⟩ : ∃ I : World → Prop, I = (fun W : World => W.cell? ⟨h, 0, none⟩ = some (.slice va fs.length vc) ∧ W.cell? ⟨w.heap.size, 0, none⟩ = some (.slice n1 p.n.length c1) ∧ W.cell? ⟨w.heap.size, 1, none⟩ = some (.slice n2 p.d.length c2) ∧ W.cell? ⟨w.heap.size, 2, none⟩ = some (.int .i64 p.s)) := ⟨_, rfl⟩
    have HI0 : I w1.drew := by rw [hI]; exact ⟨hc1, l0, l1, l2⟩
    have HIA : I (w1.drew.alloc (Obj.cells #[.slice n1 p.n.length c1, .slice n2 p.d.length c2, .int .i64 p.s] 45)) := by
      rw [hI]
      exact ⟨HGA.out.cell hc1 (by simp), HGA.out.cell l0 (by simp), HGA.out.cell l1 (by simp), HGA.out.cell l2 (by simp)⟩
    refine region_anyI I (fun i => i == 11) (by kernel_rfl) ?_
    show anyI _ _ _ _ _ _ 12 (Array.replicate 12 false) _ _
    refine anyT (i := 0) (.pointer (some ⟨h, 0, none⟩)) rfl HI0 (yldI rfl (fun W hW => by go_simp)) ?_
    refine anyT (i := 1) (.pointer (some ⟨h, 0, none⟩)) rfl HI0 (yldI rfl (fun W hW => by go_simp)) ?_
    refine anyT (i := 2) (.pointer (some ⟨h, 0, none⟩)) rfl HI0 (yldI rfl (fun W hW => by go_simp)) ?_
    refine anyT (i := 3) (.pointer (some ⟨h, 0, none⟩)) rfl HI0 (yldI rfl (fun W hW => by go_simp)) ?_
    refine anyT (i := 4) (.slice va fs.length vc) rfl HI0 (yldI rfl (fun W hW => by rw [hI] at hW; obtain ⟨j0, j1, j2, j3⟩ := hW; go_simp)) ?_
    refine anyT (i := 5) (.int .i64 i) rfl HI0 (yldI rfl (fun W hW => by go_simp)) ?_
    refine anyT (i := 6) (.agg #[.slice n1 p.n.length c1, .slice n2 p.d.length c2, .int .i64 p.s]) rfl HI0 (yldI rfl (fun W hW => by rw [hI] at hW; obtain ⟨j0, j1, j2, j3⟩ := hW; go_simp)) ?_
    refine anyI_one (i := 7) (by kernel_rfl) (wpOp_val (v := .slice (some ⟨w1.heap.size, 0, none⟩) 1 1) (w' := w1.drew.alloc (Obj.cells #[.slice n1 p.n.length c1, .slice n2 p.d.length c2, .int .i64 p.s] 45)) rfl rfl (by go_simp) ⟨.inr HIA, ?_⟩)
    refine anyI_one (i := 8) (by kernel_rfl) (wpOp_call rfl rfl (by go_simp) HI.out ?_)
    rintro e w3 ⟨v', rfl, o3, g3, hb3, a3, c3, hv3⟩
    have hp3 : w3.heap[h]? = _ := (g3.block h (by simp; omega) (fun e => hvh e.symm)).trans HP5.out
    have cc3 : w3.cell? ⟨h, 0, none⟩ = some (.slice va fs.length vc) := by rw [cell_of_row w3 h 0 _ _ (0, 0) hp3]; rfl
    have f3 : w3.frozen? ⟨h, 0, none⟩ = false := frozen_of_row w3 h 0 _ _ hp3
    have HL3 := hide (HL.put hp3 hBh (LoF.ins (x := (.slice n1 p.n.length c1, .slice n2 p.d.length c2)) HT.out hil o3 g3 hb3 HX1.out HX2.out H3.out))
    have HB3 : Hid (Below B w (w3.setCell ⟨h, 0, none⟩ v')) := (HB1.out.trans (((Below.refl B w1).grown HGA.out (by omega) (fun k e => by cases e)).grown g3 (by simp; omega) (fun k e => (hor k e).1))).setCell (by simpa using hBh) _
    have HI3 : I w3 := by
      have hpn : ∀ j x, w1.cell? ⟨w.heap.size, j, none⟩ = some x → w3.cell? ⟨w.heap.size, j, none⟩ = some x := fun j x hx =>
        g3.cell (HGA.out.cell hx (by simp)) (fun e => by have := hrw _ e.symm; simp at this)
      rw [hI]
      exact ⟨cc3, hpn _ _ l0, hpn _ _ l1, hpn _ _ l2⟩
    refine ⟨_, rfl, .inr HI3, ?_⟩
    refine anyI_one (i := 9) (by kernel_rfl) (wpOp_val (v := .pointer (some ⟨h, 0, none⟩)) rfl rfl (by go_simp) ⟨.inr HI3, ?_⟩)
    refine anyI_one (i := 10) (by kernel_rfl) (wpOp_val (v := .pointer (some ⟨h, 0, none⟩)) rfl rfl (by go_simp) ⟨.inr HI3, ?_⟩)
    refine anyI_one (i := 11) (by kernel_rfl) (wpOp_skip (w' := w3.setCell ⟨h, 0, none⟩ v') rfl rfl (by go_simp) ⟨.inl rfl, ?_⟩)
    refine anyI_done (by kernel_rfl) ?_ _
    clear HI0 HIA HI3 hI
    clear hp3 o3 g3 hb3 HI HT HP5 hv3 cc3 f3
    go_wp2
    go_ret
    exact ⟨rfl, i, HP.out, ⟨_, HL3.out⟩, HB3.out⟩
end Go.Proofs.YtakkdniikhgpdaaGreatDoor

namespace Go.Proofs.YtakkdniikhgpdaaGreatDoor
open Go.RowKit
attribute [-go_sem] Builtin.append_

theorem Lft.pre {B h : Nat} {w w1 w' : World} {fs' : List Fl} (H : Lft B h w1 fs' w') (hb : Below B w w1) : Lft B h w fs' w' := ⟨H.1, hb.trans H.2⟩

set_option maxHeartbeats 4000000 in
set_option maxRecDepth 100000 in
theorem write_new (B h : Nat) (v nv dv : Value) (fs : List Fl) (n d : List Int) (a0 a1 a2 : Addr) (w : World) (H : HL B h w v fs) (hd : Fss fs) (hval : validF fs = true) (hn : RdB w.heap.size w nv n) (hs : Sl nv n.length) (hdd : RdB w.heap.size w dv d) (hsd : Sl dv d.length) (hb : Byt n) (hok : nameOK n = true) (hno : findF fs n = none) (hl : fs.length < 50) (hdl : d.length ≤ 4194304) (he : Errs w a0 a1 a2) :
    Calls Tryz.prog 124 #[.pointer (some ⟨h, 0, none⟩), nv, dv] w fun e w' => e = .returned .nilIface ∧ ∃ i, Pos fs n i ∧ Lft B h w (fs.take i ++ (⟨n, d, 0⟩ : Fl) :: fs.drop i) w' := by
  have hnl : n.length ≤ 100 := by
    unfold nameOK at hok
    have := of_decide_eq_true hok
    omega
  have HC1 : Hid (∀ W : World, w.grownBy W none → _) := fun W (g : w.grownBy W none) => bytesClone_any nv n W ((hn.keep g).wideF g.size) (by omega)
  have HC2 : Hid (∀ W : World, w.grownBy W none → _) := fun W (g : w.grownBy W none) => bytesClone_any dv d W ((hdd.keep g).wideF g.size) hdl
  have HPut : Hid (∀ (W : World) (x1 x2 : Value), w.grownBy W none → OwB w.heap.size W x1 n → OwB w.heap.size W x2 d → _) := fun W x1 x2 (g : w.grownBy W none) (h1 : OwB w.heap.size W x1 n) (h2 : OwB w.heap.size W x2 d) =>
    put_new B h v x1 x2 fs ⟨n, d, 0⟩ a0 a1 a2 W (H.later g) hd hval (row_base (by have := H.hB; have := H.lt; omega) h1) (row_base (by have := H.hB; have := H.lt; omega) h2) (fun k e => by
      obtain ⟨ys, ho, _⟩ := H.lo
      have := World.ownsRow.lt ho _ e
      exact ⟨fun e2 => by have := World.ownsRow.lt h1 _ e2; omega, fun e2 => by have := World.ownsRow.lt h2 _ e2; omega⟩) hb hok hno hl (he.keep g)
  have hBl : B ≤ w.heap.size := by have := H.hB; have := H.lt; omega
  obtain ⟨na, nc, hnv0, _, _⟩ := id hs
  obtain ⟨da, dc, hdv0, _, _⟩ := id hsd
  subst hnv0 hdv0
  clear H hd hval hn hs hdd hsd he
  go_enter Tryz.func124, Tryz.ntmps124
  go_wp2_with fail
  refine (HC1.out w (World.grownBy.refl _ _)).mono ?_
  rintro e w1 ⟨x1, rfl, o1, g1⟩
  have G1 := hide g1
  have HC := hide (HC2.out w1 g1)
  have O1 := hide o1
  obtain ⟨m1, k1, hx1, _, _⟩ := o1.sl
  subst hx1
  clear o1 g1
  go_wp2_with fail
  refine HC.out.mono ?_
  rintro e w2 ⟨x2, rfl, o2, g2⟩
  have G2 := hide (grown_trans G1.out g2)
  have HP := hide (HPut.out w2 _ x2 G2.out (O1.out.later g2) (row_base G1.out.size o2))
  obtain ⟨m2, k2, hx2, _, _⟩ := o2.sl
  subst hx2
  clear o2 g2
  go_wp2_with fail
  refine HP.out.mono ?_
  rintro e w3 ⟨rfl, i, hp, hL⟩
  have HR : Hid (Pos fs n i ∧ Lft B h w (fs.take i ++ (⟨n, d, 0⟩ : Fl) :: fs.drop i) w3) := ⟨hp, hL.pre ((below_of_grown G2.out).mono hBl)⟩
  clear hp hL
  go_wp2
  go_ret
  exact ⟨rfl, i, HR.out⟩
end Go.Proofs.YtakkdniikhgpdaaGreatDoor

