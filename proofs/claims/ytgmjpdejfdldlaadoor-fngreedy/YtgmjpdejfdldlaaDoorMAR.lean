import Derived.Deep.RegionLaw
import Derived.Test.YtgmjpdejfdldlaaDoorMAO
import Derived.Test.YtgmjpdejfdldlaaDoorMAQ
namespace Go.Proofs.YtgmjpdejfdldlaaDoor
open Go.RowKit

theorem hidG {p : Prop} (h : p) : Hid p := h
def gVal (b : Nat) : Value := .iface 135 (.pointer (some ⟨b, 0, none⟩))
def isG : Value → Bool
  | .iface t _ => t == 135
  | _ => false
/-- How many groups the list holds. -/
def cntV (l : List Value) : Nat := (l.filter isG).length
theorem cntV_snoc (l : List Value) (v : Value) : cntV (l ++ [v]) = cntV l + if isG v then 1 else 0 := by
  unfold cntV
  rw [List.filter_append, List.length_append]
  cases h : isG v <;> simp [h]
theorem cntV_le (l : List Value) : cntV l ≤ l.length := List.length_filter_le _ _

/-- The numbers of the groups of the list up to k. -/
structure GTab (l : List Value) (k : Nat) (f : Value → Option Value) : Prop where
  at_ : ∀ i b, i < k → l[i]? = some (gVal b) → f (.pointer (some ⟨b, 0, none⟩)) = some (.int .i64 (cntV (l.take i) : Int))
  only : ∀ b, f (.pointer (some ⟨b, 0, none⟩)) ≠ none → gVal b ∈ l.take k

set_option maxHeartbeats 2000000 in
set_option maxRecDepth 100000 in
theorem groupNumbers_any (B : Nat) (nv u0 : Value) (T0 : Tr) (l : List Value) (w : World) (hrow : w.ownsRow B 70 1 nv l.length l) (hr : Rep (fun _ => False) B w u0 T0) (hp : Post w u0 T0 l) (ho : Once (fun _ => False) w l) :
    Calls Tryd.prog 45 #[nv] w fun e w' => ∃ f, e = .returned (.map (some w.heap.size)) ∧ P.MapIs w' w.heap.size f (cntV l) ∧ GTab l l.length f ∧ w.grownBy w' none := by
  obtain ⟨a, cap, hnv, hnc, hnm⟩ := row_form hrow
  subst hnv
  unfold maxLen at hnm
  have HR : Hid (w.ownsRow B 70 1 (.slice a l.length cap) l.length l) := hrow
  have HRp : Hid (Rep (fun _ => False) B w u0 T0) := hr
  have HPo : Hid (Post w u0 T0 l) := hp
  have HOn : Hid (Once (fun _ => False) w l) := ho
  clear hrow hr hp ho
  have hmk : (Instr.makeMap 61 none).run Tryd.prog w = .ok (.map (some w.heap.size)) (w.alloc (.map #[] 0)) := run_makeMap _ _
  go_enter Tryd.func45, Tryd.ntmps45
  go_wp2
  go_loopw [11] (fun i wr => ∃ (k : Nat) (f : Value → Option Value), k ≤ l.length ∧ i = .int .i64 k ∧ P.MapIs wr w.heap.size f (cntV (l.take k)) ∧ Hid (GTab l k f) ∧ w.grownBy wr none) (fun i _ => l.length - (intOf i).toNat)
  case atStart => exact ⟨0, _, Nat.zero_le _, rfl, P.mapIs_made w, ⟨fun i b h => by omega, fun b h => absurd rfl h⟩, World.grownBy_alloc _ _ _⟩
  case round =>
    obtain ⟨k, f, hk, rfl, hM, HN, hg⟩ := hrel
    by_cases hlt : k < l.length
    · obtain ⟨v, hv⟩ : ∃ v, l[k]? = some v := ⟨_, List.getElem?_eq_getElem hlt⟩
      obtain ⟨T, he, hrT, hsT⟩ := post_elem HRp.out HPo.out k v hv
      have hvl : v ∈ l := List.mem_of_getElem? hv
      have htk1 : l.take (k + 1) = l.take k ++ [v] := by rw [List.take_add_one, hv]; rfl
      have hcs1 := cntV_snoc (l.take k) v
      rw [← htk1] at hcs1
      have hcl := cntV_le (l.take k)
      rw [List.length_take] at hcl
      rcases HR.out.2 with ⟨_, h0⟩ | ⟨g, cp, cur, hrg, hbg, hgg, hnc', hcm, hcs, htk⟩
      · omega
      cases hrg
      have m00 := World.ownsRow.cellAt HR.out k (by omega)
      rw [hv] at m00
      have m0 := hg.cell m00 (by simp)
      clear m00 hgg hcs htk
      have HM := hidG hM
      have HG := hidG hg
      by_cases hgr : isG v = true
      · obtain ⟨b, hvb⟩ : ∃ b, v = gVal b := by
          cases T with
          | leaf p =>
            exfalso
            simp only [Rep] at hrT
            rcases hrT with h | h | h | h | h | ⟨_, b, tv, h, _⟩
            · rw [h.2] at hgr; simp [isG] at hgr
            · rw [h.2] at hgr; simp [isG] at hgr
            · rw [h.2] at hgr; simp [isG] at hgr
            · rw [h.2] at hgr; simp [isG] at hgr
            · rw [h.2] at hgr; simp [isG] at hgr
            · rw [h] at hgr; simp [isG] at hgr
          | un p x =>
            simp only [Rep] at hrT
            obtain ⟨b, u, _, _, _, _, h | h⟩ := hrT
            · exact ⟨b, h.2⟩
            · rw [h.2] at hgr; simp [isG] at hgr
          | bin p x y =>
            exfalso
            simp only [Rep] at hrT
            obtain ⟨b, u, u', _, _, _, _, _, _, h | h⟩ := hrT
            · rw [h.2] at hgr; simp [isG] at hgr
            · rw [h.2] at hgr; simp [isG] at hgr
        have hnot : gVal b ∉ l.take k := by
          intro hm
          have hpw := HOn.out.nd
          obtain ⟨i, hi⟩ := List.mem_iff_getElem?.1 hm
          have hik : i < k := by have := (List.getElem?_eq_some_iff.1 hi).1; simp at this; omega
          rw [List.getElem?_take_of_lt hik] at hi
          have := List.pairwise_iff_getElem.1 hpw i k (by omega) hlt hik
          have e1 : l[i]'(by omega) = gVal b := (List.getElem?_eq_some_iff.1 hi).2
          have e2 : l[k] = gVal b := by rw [← hvb]; exact (List.getElem?_eq_some_iff.1 hv).2
          exact this _ b e2 (by rw [e1, e2])
        have hfn : f (.pointer (some ⟨b, 0, none⟩)) = none := by
          cases hx : f (.pointer (some ⟨b, 0, none⟩)) with
          | none => rfl
          | some y => exact absurd (HN.out.only b (by rw [hx]; simp)) hnot
        have hpk : P.NKey wr (.pointer (some ⟨b, 0, none⟩)) := by
          rw [hvb] at hvl
          obtain ⟨_, cs, t', hb⟩ := HOn.out.lt _ _ hvl
          exact (P.NKey.ptr b cs t' hb).keep hg
        have HPk := hidG hpk
        have HStep : Hid (GTab l (k + 1) (fun k' => if kEq (.pointer (some ⟨b, 0, none⟩)) k' then some (.int .i64 (cntV (l.take k) : Int)) else f k')) := by
          refine ⟨fun i c hi hc => ?_, fun c hc => ?_⟩
          · by_cases e : i = k
            · subst e
              rw [hv, hvb] at hc
              have hbc : b = c := by simpa [gVal] using hc
              subst hbc
              rw [if_pos (P.kEq_self hpk)]
            · have hik : i < k := by omega
              have hne : b ≠ c := by
                intro hbc
                subst hbc
                refine hnot (List.mem_iff_getElem?.2 ⟨i, ?_⟩)
                rw [List.getElem?_take_of_lt hik]
                exact hc
              rw [if_neg (by simp [kEq, kCode, hne])]
              exact HN.out.at_ i c hik hc
          · rw [htk1]
            by_cases e : b = c
            · subst e
              rw [hvb]
              exact List.mem_append_right _ (by simp)
            · rw [if_neg (by simp [kEq, kCode, e])] at hc
              exact List.mem_append_left _ (HN.out.only c hc)
        have hlen := hM.run_len Tryd.underlying61 3
        have hnum : (if (f (.pointer (some ⟨b, 0, none⟩))).isSome then cntV (l.take k) else cntV (l.take k) + 1) = cntV (l.take (k + 1)) := by
          rw [hfn, hcs1, if_pos hgr]; simp
        have HNum := hidG hnum
        obtain ⟨f1, f2, f3, f4, f5, f6, f7, f8, f9, f10⟩ := tas_group (.pointer (some ⟨b, 0, none⟩))
        subst hvb
        unfold gVal at *
        clear hrT he HN hv hg hvl hM hpk hnot hfn hnum hcs1 htk1 hgr
        generalize cntV (l.take k) = ck at *
        go_wp2_with (at_mapUpdate; refine P.wpList_mapUpdate_node _ rfl _ _ _ 61 rfl 3 Tryd.underlying61 _ ck f rfl HM.out _ _ rfl rfl HPk.out ?_; intro w1 hM1 hg1)
        go_roundw
        case rel =>
          have hM2 : P.MapIs w1 w.heap.size (fun k' => if kEq (.pointer (some ⟨b, 0, none⟩)) k' then some (.int .i64 (ck : Int)) else f k') (if (f (.pointer (some ⟨b, 0, none⟩))).isSome then ck else ck + 1) := hM1
          rw [HNum.out] at hM2
          exact ⟨k + 1, _, by omega, by go_num, hM2, HStep.out, grown_new HG.out hg1 (fun j e => by cases e; exact Nat.le_refl _)⟩
        case measure => simp [intOf]; omega
      · have hcs2 : Hid (cntV (l.take (k + 1)) = cntV (l.take k)) := by unfold Hid; rw [hcs1, if_neg hgr]; rfl
        have HStep : Hid (GTab l (k + 1) f) := by
          refine ⟨fun i c hi hc => ?_, fun c hc => ?_⟩
          · by_cases e : i = k
            · subst e
              rw [hv] at hc
              rw [Option.some.inj hc] at hgr
              simp [gVal, isG] at hgr
            · exact HN.out.at_ i c (by omega) hc
          · rw [htk1]
            exact List.mem_append_left _ (HN.out.only c hc)
        obtain ⟨t, y, hform, hnt⟩ : ∃ t y, v = .iface t y ∧ TaNo t 135 y (.pointer none) := by
          cases T with
          | leaf p =>
            simp only [Rep] at hrT
            rcases hrT with h | h | h | h | h | ⟨_, b, tv, h, _⟩
            · exact ⟨_, _, h.2, tas_empty.2.2.2.2.2.2.1⟩
            · exact ⟨_, _, h.2, tas_line.2.2.2.2.2.2.1⟩
            · exact ⟨_, _, h.2, tas_soft.2.2.2.2.2.2.1⟩
            · exact ⟨_, _, h.2, tas_hard.2.2.2.2.2.2.1⟩
            · exact ⟨_, _, h.2, tas_raw.2.2.2.2.2.2.1⟩
            · exact ⟨_, _, h, (tas_text _).2.2.2.2.2.2.1⟩
          | un p x =>
            simp only [Rep] at hrT
            obtain ⟨b, u, _, _, _, _, h | h⟩ := hrT
            · rw [h.2] at hgr; simp [isG] at hgr
            · exact ⟨_, _, h.2, (tas_nest _).2.2.2.2.2.2.1⟩
          | bin p x y =>
            simp only [Rep] at hrT
            obtain ⟨b, u, u', _, _, _, _, _, _, h | h⟩ := hrT
            · exact ⟨_, _, h.2, (tas_cat _).2.2.2.2.2.2.1⟩
            · exact ⟨_, _, h.2, (tas_alt _).2.2.2.2.2.2.1⟩
        subst hform
        clear hrT he HN hv hg hvl hM hcs1 htk1 hgr
        go_wp2
        go_roundw
        case rel => exact ⟨k + 1, f, by omega, by go_num, by rw [hcs2.out]; exact HM.out, HStep.out, HG.out⟩
        case measure => simp [intOf]; omega
    · have hkn : k = l.length := by omega
      have HN2 : Hid (P.MapIs wr w.heap.size f (cntV l) ∧ GTab l l.length f) := by
        have h1 := HN.out
        rw [hkn] at h1 hM
        rw [List.take_length] at hM
        exact ⟨hM, h1⟩
      clear HN hM
      go_wp2
      go_ret
      exact ⟨f, rfl, HN2.out.1, HN2.out.2, hg⟩

end Go.Proofs.YtgmjpdejfdldlaaDoor

namespace Go.Proofs.YtgmjpdejfdldlaaDoor
open Go.RowKit

theorem infoTask : (Tryd.prog.info? 109).map (fun i => (i.zero, i.size, i.bytes)) = some (some (.agg #[.nilIface, .int .i64 0, .bool false, .int .i64 0, .bool false]), 5, 48) := by kernel_rfl

/-- A task: a node, its tree, the groups before it, its indent, its mode, and how what comes after it begins. -/
structure Tk where
  v : Value
  T : Tr
  n : Nat
  ind : Int
  fl : Bool
  bw : Int
  be : Bool
def Tk.val (t : Tk) : Value := .agg #[t.v, .int .i64 t.ind, .bool t.fl, .int .i64 t.bw, .bool t.be]
def Tk.cells (t : Tk) : List Value := [t.v, .int .i64 t.ind, .bool t.fl, .int .i64 t.bw, .bool t.be]
/-- The cells of the work, the next task last. -/
def tCells : List Tk → List Value
  | [] => []
  | t :: r => t.cells ++ tCells r
theorem tCells_len : ∀ (r : List Tk), (tCells r).length = r.length * 5
  | [] => rfl
  | t :: r => by simp only [tCells, List.length_append, tCells_len r, Tk.cells, List.length_cons, List.length_nil]; omega
theorem tCells_app : ∀ (r s : List Tk), tCells (r ++ s) = tCells r ++ tCells s
  | [], s => rfl
  | t :: r, s => by simp only [List.cons_append, tCells, tCells_app r s, List.append_assoc]
theorem tCells_one (t : Tk) : tCells [t] = t.cells := by simp [tCells]

/-- The printer at block pb; nothing below it has turned since w0. -/
structure Pr (pb : Nat) (w0 w : World) (a0 a1 a2 a3 wv tv hv : Value) (ts : List Tk) (tx : List Int) (col : Int) (ch : List Int) : Prop where
  bel : Below pb w0 w
  c0 : w.cell? ⟨pb, 0, none⟩ = some a0
  c1 : w.cell? ⟨pb, 1, none⟩ = some a1
  c2 : w.cell? ⟨pb, 2, none⟩ = some a2
  c3 : w.cell? ⟨pb, 3, none⟩ = some a3
  c4 : w.cell? ⟨pb, 4, none⟩ = some wv
  c5 : w.cell? ⟨pb, 5, none⟩ = some tv
  c6 : w.cell? ⟨pb, 6, none⟩ = some (.int .i64 col)
  c7 : w.cell? ⟨pb, 7, none⟩ = some hv
  fz : ∀ j, w.frozen? ⟨pb, j, none⟩ = false
  wrow : w.ownsRow (pb + 1) 109 5 wv ts.length (tCells ts)
  trow : OwB (pb + 1) w tv tx
  hrow : OwI (pb + 1) w hv ch
  dwt : ∀ g, wv.ownBlock = some g → tv.ownBlock ≠ some g
  dwh : ∀ g, wv.ownBlock = some g → hv.ownBlock ≠ some g
  dth : ∀ g, tv.ownBlock = some g → hv.ownBlock ≠ some g

section
variable {pb : Nat} {w0 w : World} {a0 a1 a2 a3 wv tv hv : Value} {ts : List Tk} {tx : List Int} {col : Int} {ch : List Int}

theorem Pr.lt (h : Pr pb w0 w a0 a1 a2 a3 wv tv hv ts tx col ch) : pb < w.heap.size := World.block_lt_of_cell? w _ h.c0

theorem frozen_keep {w w' : World} {pb : Nat} (hlt : pb < w.heap.size) {r : Option Nat} (hg : w.grownBy w' r) (hr : r ≠ some pb) (h : ∀ j, w.frozen? ⟨pb, j, none⟩ = false) : ∀ j, w'.frozen? ⟨pb, j, none⟩ = false :=
  fun j => (World.frozen?_of_block (hg.block pb hlt (fun e => hr e.symm))).trans (h j)

theorem row_keep {B : Nat} {w w' : World} {e : TypeId} {size n : Nat} {v : Value} {xs : List Value} {r : Option Nat} (h : w.ownsRow B e size v n xs) (hg : w.grownBy w' r) (hr : ∀ g, v.ownBlock = some g → r ≠ some g) : w'.ownsRow B e size v n xs :=
  World.ownsRow.kept h hg (by
    cases hv : v.ownBlock with
    | none => exact .inl rfl
    | some k => exact .inr fun e => hr k hv e.symm)

/-- What is laid anew leaves the printer as it is. -/
theorem Pr.keep (h : Pr pb w0 w a0 a1 a2 a3 wv tv hv ts tx col ch) {w' : World} (hg : w.grownBy w' none) : Pr pb w0 w' a0 a1 a2 a3 wv tv hv ts tx col ch :=
  ⟨h.bel.grown hg (Nat.le_of_lt h.lt) (fun k e => by cases e), hg.cell h.c0 (by simp), hg.cell h.c1 (by simp), hg.cell h.c2 (by simp), hg.cell h.c3 (by simp), hg.cell h.c4 (by simp), hg.cell h.c5 (by simp), hg.cell h.c6 (by simp), hg.cell h.c7 (by simp),
    frozen_keep h.lt hg (by simp) h.fz, row_keep h.wrow hg (by simp), row_keep h.trow hg (by simp), row_keep h.hrow hg (by simp), h.dwt, h.dwh, h.dth⟩

/-- The work is written anew: its row lies where it did, or in a new block. -/
theorem Pr.work (h : Pr pb w0 w a0 a1 a2 a3 wv tv hv ts tx col ch) {w1 : World} {wv' : Value} {ts' : List Tk} (hg : w.grownBy w1 wv.ownBlock) (hrow : w1.ownsRow (pb + 1) 109 5 wv' ts'.length (tCells ts'))
    (hat : wv'.ownBlock = wv.ownBlock ∨ ∃ g, wv'.ownBlock = some g ∧ w.heap.size ≤ g) : Pr pb w0 (w1.setCell ⟨pb, 4, none⟩ wv') a0 a1 a2 a3 wv' tv hv ts' tx col ch := by
  have hlt := h.lt
  have hwl := World.ownsRow.lt h.wrow
  have htl := World.ownsRow.lt h.trow
  have hhl := World.ownsRow.lt h.hrow
  have hn : wv.ownBlock ≠ some pb := fun e => by have := hwl pb e; omega
  have hn' : some pb ≠ wv.ownBlock := fun e => hn e.symm
  have hw' : ∀ g, wv'.ownBlock = some g → pb + 1 ≤ g := fun g e => (World.ownsRow.lt hrow g e).1
  have d0 := hg.cell h.c0 hn'
  have d1 := hg.cell h.c1 hn'
  have d2 := hg.cell h.c2 hn'
  have d3 := hg.cell h.c3 hn'
  have d4 := hg.cell h.c4 hn'
  have d5 := hg.cell h.c5 hn'
  have d6 := hg.cell h.c6 hn'
  have d7 := hg.cell h.c7 hn'
  have hfz := frozen_keep hlt hg hn h.fz
  have hsep : ∀ (v : Value), (∀ g, v.ownBlock = some g → g < w.heap.size) → (∀ g, wv.ownBlock = some g → v.ownBlock ≠ some g) → ∀ g, wv'.ownBlock = some g → v.ownBlock ≠ some g := by
    intro v hv1 hv2 g e1 e2
    rcases hat with e | ⟨g', e, hle⟩
    · exact hv2 g (by rw [← e]; exact e1) e2
    · rw [e1] at e; cases e; have := hv1 g e2; omega
  refine ⟨(h.bel.grown hg (Nat.le_of_lt hlt) (fun k e => by have := hwl k e; omega)).setCell (p := ⟨pb, 4, none⟩) (Nat.le_refl _) _, by simp [go_sem, d0], by simp [go_sem, d1], by simp [go_sem, d2], by simp [go_sem, d3], by simp [go_sem, d4], by simp [go_sem, d5], by simp [go_sem, d6], by simp [go_sem, d7], fun j => by simpa using hfz j, ?_, ?_, ?_, ?_, ?_, h.dth⟩
  · exact row_set hrow _ _ (fun e => by have := hw' pb e; omega)
  · exact row_set (row_keep h.trow hg (fun g e1 e2 => h.dwt g e2 e1)) _ _ (fun e => by have := htl pb e; omega)
  · exact row_set (row_keep h.hrow hg (fun g e1 e2 => h.dwh g e2 e1)) _ _ (fun e => by have := hhl pb e; omega)
  · exact hsep tv (fun g e => (htl g e).2) h.dwt
  · exact hsep hv (fun g e => (hhl g e).2) h.dwh

/-- The text is written anew. -/
theorem Pr.text (h : Pr pb w0 w a0 a1 a2 a3 wv tv hv ts tx col ch) {w1 : World} {tv' : Value} {tx' : List Int} (hg : w.grownBy w1 tv.ownBlock) (hrow : OwB (pb + 1) w1 tv' tx')
    (hat : tv'.ownBlock = tv.ownBlock ∨ ∃ g, tv'.ownBlock = some g ∧ w.heap.size ≤ g) : Pr pb w0 (w1.setCell ⟨pb, 5, none⟩ tv') a0 a1 a2 a3 wv tv' hv ts tx' col ch := by
  have hlt := h.lt
  have hwl := World.ownsRow.lt h.wrow
  have htl := World.ownsRow.lt h.trow
  have hhl := World.ownsRow.lt h.hrow
  have hn : tv.ownBlock ≠ some pb := fun e => by have := htl pb e; omega
  have hn' : some pb ≠ tv.ownBlock := fun e => hn e.symm
  have hw' : ∀ g, tv'.ownBlock = some g → pb + 1 ≤ g := fun g e => (World.ownsRow.lt hrow g e).1
  have d0 := hg.cell h.c0 hn'
  have d1 := hg.cell h.c1 hn'
  have d2 := hg.cell h.c2 hn'
  have d3 := hg.cell h.c3 hn'
  have d4 := hg.cell h.c4 hn'
  have d5 := hg.cell h.c5 hn'
  have d6 := hg.cell h.c6 hn'
  have d7 := hg.cell h.c7 hn'
  have hfz := frozen_keep hlt hg hn h.fz
  have hsep : ∀ (v : Value), (∀ g, v.ownBlock = some g → g < w.heap.size) → (∀ g, tv.ownBlock = some g → v.ownBlock ≠ some g) → ∀ g, tv'.ownBlock = some g → v.ownBlock ≠ some g := by
    intro v hv1 hv2 g e1 e2
    rcases hat with e | ⟨g', e, hle⟩
    · exact hv2 g (by rw [← e]; exact e1) e2
    · rw [e1] at e; cases e; have := hv1 g e2; omega
  refine ⟨(h.bel.grown hg (Nat.le_of_lt hlt) (fun k e => by have := htl k e; omega)).setCell (p := ⟨pb, 5, none⟩) (Nat.le_refl _) _, by simp [go_sem, d0], by simp [go_sem, d1], by simp [go_sem, d2], by simp [go_sem, d3], by simp [go_sem, d4], by simp [go_sem, d5], by simp [go_sem, d6], by simp [go_sem, d7], fun j => by simpa using hfz j, ?_, ?_, ?_, ?_, h.dwh, ?_⟩
  · exact row_set (row_keep h.wrow hg (fun g e1 e2 => h.dwt g e1 e2)) _ _ (fun e => by have := hwl pb e; omega)
  · exact row_set hrow _ _ (fun e => by have := hw' pb e; omega)
  · exact row_set (row_keep h.hrow hg (fun g e1 e2 => h.dth g e2 e1)) _ _ (fun e => by have := hhl pb e; omega)
  · exact fun g e1 e2 => hsep wv (fun g e => (hwl g e).2) (fun g e1 e2 => h.dwt g e2 e1) g e2 e1
  · exact hsep hv (fun g e => (hhl g e).2) h.dth

/-- The column is written. -/
theorem Pr.column (h : Pr pb w0 w a0 a1 a2 a3 wv tv hv ts tx col ch) (c : Int) : Pr pb w0 (w.setCell ⟨pb, 6, none⟩ (.int .i64 c)) a0 a1 a2 a3 wv tv hv ts tx c ch := by
  have hwl := World.ownsRow.lt h.wrow
  have htl := World.ownsRow.lt h.trow
  have hhl := World.ownsRow.lt h.hrow
  have d0 := h.c0; have d1 := h.c1; have d2 := h.c2; have d3 := h.c3; have d4 := h.c4; have d5 := h.c5; have d6 := h.c6; have d7 := h.c7
  have hfz := h.fz
  exact ⟨h.bel.setCell (p := ⟨pb, 6, none⟩) (Nat.le_refl _) _, by simp [go_sem, d0], by simp [go_sem, d1], by simp [go_sem, d2], by simp [go_sem, d3], by simp [go_sem, d4], by simp [go_sem, d5], by simp [go_sem, d6], by simp [go_sem, d7], fun j => by simpa using hfz j,
    row_set h.wrow _ _ (fun e => by have := hwl pb e; omega), row_set h.trow _ _ (fun e => by have := htl pb e; omega), row_set h.hrow _ _ (fun e => by have := hhl pb e; omega), h.dwt, h.dwh, h.dth⟩

/-- A block that is none of the printer's is written. -/
theorem Pr.aside (h : Pr pb w0 w a0 a1 a2 a3 wv tv hv ts tx col ch) (k j : Nat) (x : Value) (hk : pb < k) (h1 : wv.ownBlock ≠ some k) (h2 : tv.ownBlock ≠ some k) (h3 : hv.ownBlock ≠ some k) : Pr pb w0 (w.setCell ⟨k, j, none⟩ x) a0 a1 a2 a3 wv tv hv ts tx col ch := by
  have hg := grown_set w ⟨k, j, none⟩ x
  have hn' : some pb ≠ some k := fun e => by cases e; omega
  exact ⟨h.bel.setCell (p := ⟨k, j, none⟩) (by simp only; omega) _, hg.cell h.c0 hn', hg.cell h.c1 hn', hg.cell h.c2 hn', hg.cell h.c3 hn', hg.cell h.c4 hn', hg.cell h.c5 hn', hg.cell h.c6 hn', hg.cell h.c7 hn', fun j' => by simpa using h.fz j',
    row_set h.wrow _ _ h1, row_set h.trow _ _ h2, row_set h.hrow _ _ h3, h.dwt, h.dwh, h.dth⟩

/-- A choice is written. -/
theorem Pr.choice {g cap l : Nat} (h : Pr pb w0 w a0 a1 a2 a3 wv tv (.slice (some ⟨g, 0, none⟩) l cap) ts tx col ch) (hl : l = ch.length) (j : Nat) (x : Int) :
    Pr pb w0 (w.setCell ⟨g, j, none⟩ (.int .i64 x)) a0 a1 a2 a3 wv tv (.slice (some ⟨g, 0, none⟩) l cap) ts tx col (ch.set j x) := by
  have hlt := h.lt
  have hgl := World.ownsRow.lt h.hrow g rfl
  subst hl
  have h2 : w.ownsRow (pb + 1) 3 1 (.slice (some ⟨g, 0, none⟩) ch.length cap) ch.length (ch.map (Value.int .i64)) := h.hrow
  obtain ⟨r1, hg⟩ := World.ownsRow.stored h2 j (.int .i64 x)
  have hn' : some pb ≠ some g := fun e => by cases e; omega
  refine ⟨h.bel.setCell (p := ⟨g, j, none⟩) (by simp only; omega) _, hg.cell h.c0 hn', hg.cell h.c1 hn', hg.cell h.c2 hn', hg.cell h.c3 hn', hg.cell h.c4 hn', hg.cell h.c5 hn', hg.cell h.c6 hn', hg.cell h.c7 hn', frozen_keep hlt hg (fun e => hn' e.symm) h.fz,
    row_keep h.wrow hg (fun k e1 e2 => h.dwh k e1 e2), row_keep h.trow hg (fun k e1 e2 => h.dth k e1 e2), ?_, h.dwt, h.dwh, h.dth⟩
  unfold OwI Ow
  rw [List.map_set, List.length_set]
  exact r1
end

end Go.Proofs.YtgmjpdejfdldlaaDoor

namespace Go.Proofs.YtgmjpdejfdldlaaDoor
open Go.RowKit

/-- An append inside a region that draws its order, where what it does is known. -/
theorem step_append_pr {P : Program} {ops : Array Oper} {o : Oper} {a : Act} {w : World} {K : Act → World → Prop} {Q : Exit → Act → World → Prop} {E : Prop} (hg : o.guard = none) (s x : Operand) (t : TypeId)
    (hop : o.op = Op.call { callee := Callee.builtin Builtin.append, args := #[s, x], argTypes := #[t, t] }) (v xv v' : Value) (w' : World) (hs : a.eval s = v) (hx : a.eval x = xv)
    (hrun : (Builtin.append_ #[t, t] o.type #[v, xv]).run P w = .ok v' w') (hK : K (a.put o.dst v') w') : if Region.wanted o (yielded ops a.tmps) = true then Oper.wp P o a w K Q else E := by
  rw [if_pos (show Region.wanted o (yielded ops a.tmps) = true by simp [Region.wanted, hg])]
  unfold Oper.wp
  simp only [execOp, hop, resolve, invoke, builtin, Sem.run_bind, Sem.run_pure, Result.andThen_ok, List.map_toArray, List.map_cons, List.map_nil, hs, hx, hrun]
  exact hK

theorem cells_five (w : World) (a b c d e : Value) (t : TypeId) : ∀ j u, [a, b, c, d, e][j]? = some u → (w.alloc (.cells #[a, b, c, d, e] t)).cell? ((⟨w.heap.size, 0, none⟩ : Addr).add j) = some u := by
  intro j u hj
  match j, hj with
  | 0, hj => simp at hj; subst hj; simp [Addr.add]
  | 1, hj => simp at hj; subst hj; simp [Addr.add]
  | 2, hj => simp at hj; subst hj; simp [Addr.add]
  | 3, hj => simp at hj; subst hj; simp [Addr.add]
  | 4, hj => simp at hj; subst hj; simp [Addr.add]

set_option maxHeartbeats 1000000 in
set_option maxRecDepth 100000 in
theorem pushT_any (pb : Nat) (w0 w : World) (a0 a1 a2 a3 wv tv hv : Value) (ts : List Tk) (tx : List Int) (col : Int) (ch : List Int) (h : Pr pb w0 w a0 a1 a2 a3 wv tv hv ts tx col ch) (t : Tk) (ht : ∃ tt u, t.v = .iface tt u) (hl : ts.length ≤ 1000000) :
    Calls Tryd.prog 46 #[.pointer (some ⟨pb, 4, none⟩), t.val] w fun e w' => e = .returned (.tuple #[]) ∧ (∃ wv', Pr pb w0 w' a0 a1 a2 a3 wv' tv hv (ts ++ [t]) tx col ch ∧ (wv'.ownBlock = wv.ownBlock ∨ ∃ g, wv'.ownBlock = some g ∧ w.heap.size ≤ g)) ∧ w.heap.size ≤ w'.heap.size ∧ ∀ k, k < w.heap.size → k ≠ pb → wv.ownBlock ≠ some k → w'.heap[k]? = w.heap[k]? := by
  obtain ⟨i0, hi, hz0, hz1, hz2⟩ := info_parts infoTask
  obtain ⟨ra, rcap, hrv, _, _⟩ := row_form h.wrow
  have c4 := h.c4
  have f4 := h.fz 4
  have hlt := h.lt
  have hwl := World.ownsRow.lt h.wrow
  obtain ⟨tt, u, htv⟩ := ht
  have HP := hidN h
  have hval : t.val = .agg #[.iface tt u, .int .i64 t.ind, .bool t.fl, .int .i64 t.bw, .bool t.be] := by unfold Tk.val; rw [htv]
  rw [hval]
  have HC : Hid (t.cells = [.iface tt u, .int .i64 t.ind, .bool t.fl, .int .i64 t.bw, .bool t.be]) := by unfold Hid Tk.cells; rw [htv]
  have hrow := h.wrow
  subst hrv
  have hgI : w.grownBy (w.alloc (.cells #[.iface tt u, .int .i64 t.ind, .bool t.fl, .int .i64 t.bw, .bool t.be] 109)) none := World.grownBy_alloc _ _ _
  have hrI : (w.alloc (.cells #[.iface tt u, .int .i64 t.ind, .bool t.fl, .int .i64 t.bw, .bool t.be] 109)).drew.ownsRow (pb + 1) 109 5 (.slice ra ts.length rcap) ts.length (tCells ts) := (row_keep hrow hgI (by simp) : World.ownsRow _ (pb + 1) 109 5 (.slice ra ts.length rcap) ts.length (tCells ts))
  obtain ⟨v1, w1, hrun1, hown1, hgrow1, _, hat1⟩ := run_append_own_at (P := Tryd.prog) ((w.alloc (.cells #[.iface tt u, .int .i64 t.ind, .bool t.fl, .int .i64 t.bw, .bool t.be] 109)).drew.alloc (.cells #[.iface tt u, .int .i64 t.ind, .bool t.fl, .int .i64 t.bw, .bool t.be] 109)) (pb + 1) 62 62 109 i0 (.agg #[.nilIface, .int .i64 0, .bool false, .int .i64 0, .bool false]) 5 48 Tryd.underlying62 hi hz0 hz1 hz2 rfl (by decide) (.slice ra ts.length rcap) ts.length (tCells ts) (World.ownsRow.alloc hrI _) ⟨(w.alloc (.cells #[.iface tt u, .int .i64 t.ind, .bool t.fl, .int .i64 t.bw, .bool t.be] 109)).drew.heap.size, 0, none⟩ 1 1 [.iface tt u, .int .i64 t.ind, .bool t.fl, .int .i64 t.bw, .bool t.be] rfl (cells_five (w.alloc (.cells #[.iface tt u, .int .i64 t.ind, .bool t.fl, .int .i64 t.bw, .bool t.be] 109)).drew _ _ _ _ _ _) (by intro u hu; simp at hu; rcases hu with rfl | rfl | rfl | rfl | rfl <;> rfl) (by unfold maxLen; omega) (by omega) (by simp; omega)
  have hrun2 := hrun1
  simp only [World.alloc_drew, World.size_alloc, World.size_drew] at hrun2
  have hgI2 : w.grownBy ((w.alloc (.cells #[.iface tt u, .int .i64 t.ind, .bool t.fl, .int .i64 t.bw, .bool t.be] 109)).drew.alloc (.cells #[.iface tt u, .int .i64 t.ind, .bool t.fl, .int .i64 t.bw, .bool t.be] 109)) none := grown_trans hgI ⟨rfl, rfl, rfl, by simp, fun i hi _ => heap_alloc_old (w.alloc (.cells #[.iface tt u, .int .i64 t.ind, .bool t.fl, .int .i64 t.bw, .bool t.be] 109)).drew _ hi⟩
  have hne : (Value.slice ra ts.length rcap).ownBlock ≠ some pb := fun e => by have := hwl pb e; omega
  have x4 := hgrow1.cell (hgI2.cell c4 (by simp)) (fun e => hne e.symm)
  have y4 : w1.frozen? ⟨pb, 4, none⟩ = false := (World.frozen?_of_block (hgrow1.block pb (by have := hgI2.size; omega) (fun e => hne e.symm))).trans ((World.frozen?_of_block (hgI2.block pb hlt (by simp))).trans f4)
  obtain ⟨va, vcap, hv1, _, _⟩ := row_form hown1
  subst hv1
  have HO := hidN hown1
  have HG := hidN hgrow1
  have HA := hidN hat1
  have HG2 := hidN hgI2
  clear h hval htv hrun1 hown1 hgrow1 hat1 hgI hgI2 hrI hrow hne
  go_enter Tryd.func46, Tryd.ntmps46
  go_wp2
  go_region_law (refine step_append_pr rfl (.tmp 8) (.tmp 10) 62 rfl _ _ _ _ (by simp [Act.eval]) (by simp [Act.eval]) hrun2 ?_)
  all_goals
    go_simp
    go_wp2
    go_returns
    have hrow1 : w1.ownsRow (pb + 1) 109 5 (.slice va (ts.length + 1) vcap) (ts ++ [t]).length (tCells (ts ++ [t])) := by
      rw [tCells_app, tCells_one, HC.out, List.length_append]
      exact HO.out
    refine ⟨rfl, ⟨.slice va (ts.length + 1) vcap, ?_, ?_⟩, ?_, ?_⟩
    · refine Pr.work (HP.out.keep HG2.out) (wv' := .slice va (ts.length + 1) vcap) HG.out hrow1 ?_
      rcases HA.out with e | e
      · exact .inl e
      · exact .inr ⟨_, e, by simp⟩
    · rcases HA.out with e | e
      · exact .inl e
      · exact .inr ⟨_, e, by simp; omega⟩
    · have h1 := HG2.out.size
      have h2 := HG.out.size
      simp only [World.size_setCell]
      omega
    · intro k hk hkp hkw
      rw [heap_setCell_other _ _ _ _ (fun e => hkp (by simpa using e)), HG.out.block k (Nat.lt_of_lt_of_le hk HG2.out.size) (fun e => hkw e.symm), HG2.out.block k hk (by simp)]

theorem tCells_last (r : List Tk) (t : Tk) (j : Nat) (hj : j < 5) : (tCells (r ++ [t]))[r.length * 5 + j]? = t.cells[j]? := by
  rw [tCells_app, List.getElem?_append_right (by rw [tCells_len]; omega), tCells_len, tCells_one]
  congr 1
  omega

set_option maxHeartbeats 1000000 in
set_option maxRecDepth 100000 in
theorem popT_none (pb : Nat) (w0 w : World) (a0 a1 a2 a3 wv tv hv : Value) (tx : List Int) (col : Int) (ch : List Int) (h : Pr pb w0 w a0 a1 a2 a3 wv tv hv [] tx col ch) :
    Calls Tryd.prog 48 #[.pointer (some ⟨pb, 4, none⟩)] w fun e w' => e = .returned (.tuple #[.agg #[.nilIface, .int .i64 0, .bool false, .int .i64 0, .bool false], .bool false]) ∧ Pr pb w0 w' a0 a1 a2 a3 wv tv hv [] tx col ch := by
  obtain ⟨ra, rcap, hrv, _, _⟩ := row_form h.wrow
  have c4 := h.c4
  have f4 := h.fz 4
  have hlt := h.lt
  have HP := hidN h
  simp only [List.length_nil] at hrv
  subst hrv
  clear h
  go_enter Tryd.func48, Tryd.ntmps48
  go_wp2
  go_returns
  exact ⟨rfl, HP.out.keep (grown_trans (World.grownBy_alloc _ _ _) (World.grownBy_alloc _ _ _))⟩

set_option maxHeartbeats 1000000 in
set_option maxRecDepth 100000 in
theorem popT_any (pb : Nat) (w0 w : World) (a0 a1 a2 a3 wv tv hv : Value) (ts : List Tk) (t : Tk) (tx : List Int) (col : Int) (ch : List Int) (h : Pr pb w0 w a0 a1 a2 a3 wv tv hv (ts ++ [t]) tx col ch) (ht : ∃ tt u, t.v = .iface tt u) (hl : ts.length ≤ 1000000) :
    Calls Tryd.prog 48 #[.pointer (some ⟨pb, 4, none⟩)] w fun e w' => e = .returned (.tuple #[t.val, .bool true]) ∧ ∃ wv', Pr pb w0 w' a0 a1 a2 a3 wv' tv hv ts tx col ch := by
  obtain ⟨tt, u, htv⟩ := ht
  rcases h.wrow.2 with ⟨_, h0⟩ | ⟨g, cap, cur, hrv, hbg, hg, hnc, hcm, hcs, htake⟩
  · simp at h0
  subst hrv
  have hrow := h.wrow
  have hle : (ts ++ [t]).length = ts.length + 1 := by simp
  have m0 := World.ownsRow.cellAt hrow (ts.length * 5 + 0) (by rw [hle]; omega)
  have m1 := World.ownsRow.cellAt hrow (ts.length * 5 + 1) (by rw [hle]; omega)
  have m2 := World.ownsRow.cellAt hrow (ts.length * 5 + 2) (by rw [hle]; omega)
  have m3 := World.ownsRow.cellAt hrow (ts.length * 5 + 3) (by rw [hle]; omega)
  have m4 := World.ownsRow.cellAt hrow (ts.length * 5 + 4) (by rw [hle]; omega)
  rw [tCells_last ts t _ (by omega)] at m0 m1 m2 m3 m4
  simp only [Tk.cells, List.getElem?_cons_zero, List.getElem?_cons_succ, htv, Nat.add_zero] at m0 m1 m2 m3 m4
  have c4 := h.c4
  have f4 := h.fz 4
  have hlt := h.lt
  have hgl := World.ownsRow.lt hrow g rfl
  have HP := hidN h
  rw [hle] at c4 hnc
  unfold maxLen at hcm
  have hcut := row_cut hrow (m := ts.length) (by simp)
  have e1 : (tCells (ts ++ [t])).take (ts.length * 5) = tCells ts := by rw [tCells_app, ← tCells_len ts]; exact List.take_left
  rw [e1] at hcut
  have HCut := hidN hcut
  have HV : Hid (t.val = .agg #[.iface tt u, .int .i64 t.ind, .bool t.fl, .int .i64 t.bw, .bool t.be]) := by unfold Hid Tk.val; rw [htv]
  clear h hrow hg hcs htake hbg hcut e1 htv hle
  go_enter Tryd.func48, Tryd.ntmps48
  go_wp2
  go_returns
  exact ⟨by rw [HV.out], .slice (some ⟨g, 0, none⟩) ts.length cap, (Pr.work HP.out (World.grownBy.refl _ _) HCut.out (.inl rfl)).keep (grown_trans (World.grownBy_alloc _ _ _) (World.grownBy_alloc _ _ _))⟩

end Go.Proofs.YtgmjpdejfdldlaaDoor

