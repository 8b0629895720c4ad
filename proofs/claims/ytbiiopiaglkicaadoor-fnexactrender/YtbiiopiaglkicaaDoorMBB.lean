import Derived.Test.YtbiiopiaglkicaaDoorMAQ
import Derived.Test.YtbiiopiaglkicaaDoorMAW
namespace Go.Proofs.YtbiiopiaglkicaaDoor
open Go.RowKit

/-- A task without its node. -/
structure PT where
  T : Tr
  n : Nat
  ind : Int
  fl : Bool
  bw : Int
  be : Bool
def Tk.pt (t : Tk) : PT := ⟨t.T, t.n, t.ind, t.fl, t.bw, t.be⟩

/-- The printer's machine; d tells what is asked of group and line. -/
def pm (d : Nat → Int → Bool) : Nat → List PT → List Int → Int → List Int → List Int × List Int
  | 0, _, tx, _, ch => (tx, ch)
  | _ + 1, [], tx, _, ch => (tx, ch)
  | f + 1, ⟨.leaf p, _, ind, fl, _, _⟩ :: r, tx, col, ch =>
    if (brk (.leaf p) ind fl).2 = true then pm d f r (tx ++ [10] ++ List.replicate (brk (.leaf p) ind fl).1.toNat 32) (brk (.leaf p) ind fl).1 ch
    else if p.k = 1 then pm d f r (tx ++ p.t) (col + widthR p.t) ch
    else if p.k = 2 then pm d f r (tx ++ [32]) (col + 1) ch
    else pm d f r tx col ch
  | f + 1, ⟨.un p x, n, ind, fl, bw, be⟩ :: r, tx, col, ch =>
    if p.k = 7 then pm d f (⟨x, n, ind + p.n, fl, bw, be⟩ :: r) tx col ch
    else pm d f (⟨x, n, ind, fl || canR (flatW x) col bw (d (n + cntG x)), bw, be⟩ :: r) tx col (ch.set (n + cntG x) (if (fl || canR (flatW x) col bw (d (n + cntG x))) = true then 1 else 2))
  | f + 1, ⟨.bin p x y, n, ind, fl, bw, be⟩ :: r, tx, col, ch =>
    if p.k = 6 then pm d f (⟨x, n, ind, fl, if (leadT y).2 = true then (leadT y).1 else (leadT y).1 + bw, if (leadT y).2 = true then (leadT y).2 else be⟩ :: ⟨y, n + cntG x, ind, fl, bw, be⟩ :: r) tx col ch
    else pm d f (⟨if fl then y else x, if fl then n + cntG x else n, ind, fl, bw, be⟩ :: r) tx col ch

def szS (its : List Tk) : Nat := szs (its.map (·.T))
theorem szS_cons (t : Tk) (r : List Tk) : szS (t :: r) = sz t.T + szS r := rfl
theorem sz_pos (T : Tr) : 1 ≤ sz T := by cases T <;> simp only [sz] <;> omega
theorem szS_len : ∀ (r : List Tk), r.length ≤ szS r
  | [] => Nat.le_refl _
  | t :: r => by have := szS_len r; have := sz_pos t.T; rw [szS_cons, List.length_cons]; omega

/-- How much may lie behind each. -/
def bwOk : List Tk → Prop
  | [] => True
  | t :: r => (-(szS r : Int) ≤ t.bw ∧ t.bw ≤ szS r) ∧ bwOk r

structure TOk (B : Nat) (wm : World) (l : List Value) (G : Nat) (t : Tk) : Prop where
  node : NodeAt B wm l t.v t.T t.n
  ok : okN t.T
  lo : 0 ≤ t.ind
  hi : t.ind + nestT t.T ≤ 4000
  gb : t.n + cntG t.T ≤ G

structure PInv (B : Nat) (wm : World) (l : List Value) (G : Nat) (its : List Tk) (tx : List Int) (col : Int) (ch : List Int) : Prop where
  tok : ∀ t ∈ its, TOk B wm l G t
  bw : bwOk its
  tot : szS its ≤ 140000
  clen : ch.length = G
  lo : -(140000 - (szS its : Int)) ≤ col
  hi : col ≤ 4000 + (140000 - (szS its : Int))
  tl : tx.length + 4001 * szS its ≤ 4001 * 140000

theorem brk_bd {T : Tr} {ind : Int} {fl : Bool} (h0 : 0 ≤ ind) (h1 : ind ≤ 4000) : 0 ≤ (brk T ind fl).1 ∧ (brk T ind fl).1 ≤ 4000 := by
  unfold brk
  split
  · split
    · exact ⟨h0, h1⟩
    · split
      · exact ⟨h0, h1⟩
      · split <;> simp
  · simp

/-- A line. -/
theorem PInv.line {B : Nat} {wm : World} {l : List Value} {G : Nat} {t : Tk} {r : List Tk} {tx : List Int} {col : Int} {ch : List Int} (h : PInv B wm l G (t :: r) tx col ch) (i : Int) (h0 : 0 ≤ i) (h1 : i ≤ 4000) :
    PInv B wm l G r (tx ++ [10] ++ List.replicate i.toNat 32) i ch := by
  obtain ⟨a, b, c, d, e, f, g⟩ := h
  rw [szS_cons] at c e f g
  have := sz_pos t.T
  refine ⟨fun t ht => a t (List.mem_cons_of_mem _ ht), b.2, by omega, d, by omega, by omega, ?_⟩
  simp only [List.length_append, List.length_cons, List.length_nil, List.length_replicate]
  omega
/-- Something laid down. -/
theorem PInv.put {B : Nat} {wm : World} {l : List Value} {G : Nat} {t : Tk} {r : List Tk} {tx : List Int} {col : Int} {ch : List Int} (h : PInv B wm l G (t :: r) tx col ch) (s : List Int) (wd : Int) (hs : s.length ≤ sz t.T) (h0 : -(sz t.T : Int) ≤ wd) (h1 : wd ≤ sz t.T) :
    PInv B wm l G r (tx ++ s) (col + wd) ch := by
  obtain ⟨a, b, c, d, e, f, g⟩ := h
  rw [szS_cons] at c e f g
  refine ⟨fun t ht => a t (List.mem_cons_of_mem _ ht), b.2, by omega, d, by omega, by omega, ?_⟩
  simp only [List.length_append]
  omega
/-- A task in a task's place. -/
theorem PInv.one {B : Nat} {wm : World} {l : List Value} {G : Nat} {t u : Tk} {r : List Tk} {tx : List Int} {col : Int} {ch ch' : List Int} (h : PInv B wm l G (t :: r) tx col ch) (hu : TOk B wm l G u) (hb : u.bw = t.bw) (hs : sz u.T < sz t.T) (hc : ch'.length = ch.length) :
    PInv B wm l G (u :: r) tx col ch' := by
  obtain ⟨a, b, c, d, e, f, g⟩ := h
  rw [szS_cons] at c e f g
  refine ⟨fun s hs => ?_, ⟨by rw [hb]; exact b.1, b.2⟩, by rw [szS_cons]; omega, by omega, by rw [szS_cons]; omega, by rw [szS_cons]; omega, by rw [szS_cons]; omega⟩
  rcases List.mem_cons.1 hs with rfl | hs
  · exact hu
  · exact a s (List.mem_cons_of_mem _ hs)
/-- Two tasks in a task's place. -/
theorem PInv.two {B : Nat} {wm : World} {l : List Value} {G : Nat} {t u u' : Tk} {r : List Tk} {tx : List Int} {col : Int} {ch : List Int} (h : PInv B wm l G (t :: r) tx col ch) (hu : TOk B wm l G u) (hu' : TOk B wm l G u') (hb' : u'.bw = t.bw)
    (hb : u.bw = if (leadT u'.T).2 = true then (leadT u'.T).1 else (leadT u'.T).1 + t.bw) (hs : sz u.T + sz u'.T < sz t.T) : PInv B wm l G (u :: u' :: r) tx col ch := by
  obtain ⟨a, b, c, d, e, f, g⟩ := h
  rw [szS_cons] at c e f g
  have hl := leadT_le width_bd u'.T
  have hb1 := b.1
  refine ⟨fun s hs => ?_, ⟨?_, ⟨by rw [hb']; exact b.1, b.2⟩⟩, by rw [szS_cons, szS_cons]; omega, by omega, by rw [szS_cons, szS_cons]; omega, by rw [szS_cons, szS_cons]; omega, by rw [szS_cons, szS_cons]; omega⟩
  · rcases List.mem_cons.1 hs with rfl | hs
    · exact hu
    · rcases List.mem_cons.1 hs with rfl | hs
      · exact hu'
      · exact a s (List.mem_cons_of_mem _ hs)
  · rw [hb, szS_cons]
    split <;> omega

end Go.Proofs.YtbiiopiaglkicaaDoor

namespace Go.Proofs.YtbiiopiaglkicaaDoor
open Go.RowKit

set_option maxHeartbeats 2000000 in
set_option maxRecDepth 100000 in
theorem lay_skip (B pb : Nat) (wm w : World) (l : List Value) (a0 a1 a2 a3 wv tv hv : Value) (ts : List Tk) (tx : List Int) (col : Int) (ch : List Int) (h : Pr pb wm w a0 a1 a2 a3 wv tv hv ts tx col ch)
    (v : Value) (p : Pc) (n : Nat) (ind : Int) (fl : Bool) (bw : Int) (be : Bool) (hn : NodeAt B wm l v (.leaf p) n) (hk : p.k = 0 ∨ p.k = 3) :
    Calls Tryd.prog 74 #[.pointer (some ⟨pb, 0, none⟩), agg5 v ind fl bw be] w fun e w' => e = .returned (.tuple #[]) ∧ Pr pb wm w' a0 a1 a2 a3 wv tv hv ts tx col ch := by
  have hr := hn.rep
  simp only [Rep] at hr
  have HP := hidN h
  have hlt := h.lt
  unfold agg5
  clear h hn
  rcases hr with h | h | h | h | h | ⟨h1, b, tv', h, _⟩
  · obtain ⟨e1, e2, e3, e4, e5, e6, e7, e8, e9, e10⟩ := tas_empty
    rw [h.2]
    clear h
    go_enter Tryd.func74, Tryd.ntmps74
    go_wp2
    go_returns
    exact ⟨rfl, HP.out.keep (World.grownBy_alloc _ _ _)⟩
  · omega
  · obtain ⟨e1, e2, e3, e4, e5, e6, e7, e8, e9, e10⟩ := tas_soft
    rw [h.2]
    clear h
    go_enter Tryd.func74, Tryd.ntmps74
    go_wp2
    go_returns
    exact ⟨rfl, HP.out.keep (World.grownBy_alloc _ _ _)⟩
  · omega
  · omega
  · omega

set_option maxHeartbeats 2000000 in
set_option maxRecDepth 100000 in
theorem lay_text (B pb : Nat) (wm w : World) (hpb : pb = wm.heap.size) (l : List Value) (a0 a1 a2 a3 wv tv hv : Value) (ts : List Tk) (tx : List Int) (col : Int) (ch : List Int) (h : Pr pb wm w a0 a1 a2 a3 wv tv hv ts tx col ch)
    (v : Value) (p : Pc) (n : Nat) (ind : Int) (fl : Bool) (bw : Int) (be : Bool) (hn : NodeAt B wm l v (.leaf p) n) (hk : p.k = 1) (hB : B ≤ pb) (hcb : -1000000 ≤ col ∧ col ≤ 1000000) (hl : tx.length + p.t.length ≤ 700000000) :
    Calls Tryd.prog 74 #[.pointer (some ⟨pb, 0, none⟩), agg5 v ind fl bw be] w fun e w' => e = .returned (.tuple #[]) ∧ ∃ tv', Pr pb wm w' a0 a1 a2 a3 wv tv' hv ts (tx ++ p.t) (col + widthR p.t) ch := by
  subst hpb
  have hr := hn.rep
  simp only [Rep] at hr
  rcases hr with h | h | h | h | h | ⟨h1, b, sv, hv0, _, hbl, hbk, hrd, hsl⟩
  · omega
  · omega
  · omega
  · omega
  · omega
  subst hv0
  obtain ⟨e1, e2, e3, e4, e5, e6, e7, e8, e9, e10⟩ := tas_text (.pointer (some ⟨b, 0, none⟩))
  have hgm := grown_of_below h.bel
  have cs0 : wm.cell? ⟨b, 0, none⟩ = some sv := by simp [World.cell?, hbk]
  have cs1 : wm.cell? ⟨b, 1, none⟩ = some (.int .i64 (widthR p.t)) := by simp [World.cell?, hbk]
  have c0r := cell_any (hgm.cell cs0 (by simp))
  have c1r := cell_any (hgm.cell cs1 (by simp))
  have hlt := h.lt
  have HP := hidN h
  have hwb := width_bd p.t
  have gA : w.grownBy (w.alloc (.cells #[.iface 89 (.pointer (some ⟨b, 0, none⟩)), .int .i64 ind, .bool fl, .int .i64 bw, .bool be] 122)).drew none := grown_drew (World.grownBy_alloc _ _ _)
  have hPA := h.keep gA
  obtain ⟨tv', w2, hrun, hO2, hg2, hat2⟩ := append_text (wm.heap.size + 1) B (w.alloc (.cells #[.iface 89 (.pointer (some ⟨b, 0, none⟩)), .int .i64 ind, .bool fl, .int .i64 bw, .bool be] 122)).drew tv sv tx p.t hPA.trow (hrd.keep (grown_trans hgm gA)) (by have := hPA.lt; omega) (by omega)
  have htl := World.ownsRow.lt hPA.trow
  have hne : some wm.heap.size ≠ tv.ownBlock := fun e => by have := htl _ e.symm; omega
  have hne2 : tv.ownBlock ≠ some b := fun e => by have := htl _ e; omega
  have x5 := hg2.cell hPA.c5 hne
  have y5 : w2.frozen? ⟨wm.heap.size, 5, none⟩ = false := (World.frozen?_of_block (hg2.block wm.heap.size hPA.lt hne)).trans (hPA.fz 5)
  have hP2 := Pr.text hPA hg2 hO2 (hat2.imp id fun e => ⟨_, e, Nat.le_refl _⟩)
  have HP2 := hidN hP2
  have hbs : b ≠ wm.heap.size := by omega
  have hwc : IntKind.i64.wrap (col + widthR p.t) = col + widthR p.t := by simp [IntKind.wrap, IntKind.bits, IntKind.signed]; omega
  have gb1 : (w2.setCell ⟨wm.heap.size, 5, none⟩ tv').cell? ⟨b, 1, none⟩ = some (.int .i64 (widthR p.t)) := by
    exact (hP2.bel.cell (p := ⟨b, 1, none⟩) hbl).trans cs1
  have gb2 := hg2.cell ((grown_trans hgm gA).cell cs1 (by simp)) (fun e => hne2 e.symm)
  have d6 := hP2.c6
  have z6 := hP2.fz 6
  have d6w := hg2.cell hPA.c6 hne
  have z6w : w2.frozen? ⟨wm.heap.size, 6, none⟩ = false := (World.frozen?_of_block (hg2.block wm.heap.size hPA.lt hne)).trans (hPA.fz 6)
  obtain ⟨ta', tcap', htv', _, _⟩ := row_form hO2
  rw [List.length_append] at htv'
  obtain ⟨ta, tcap, htv, _, _⟩ := row_form h.trow
  obtain ⟨sa, scap, hsv, _, _⟩ := hsl
  have c5r := cell_any h.c5
  unfold agg5
  subst htv' htv hsv
  generalize widthR p.t = wd at *
  clear h hn hPA hP2 hg2 hO2 hat2 gA hrd hbk cs0 cs1 hgm c1r
  go_enter Tryd.func74, Tryd.ntmps74
  go_wp2_with fail
  go_region_law (refine step_append_pr rfl (.tmp 19) (.tmp 23) 24 rfl _ _ _ _ (by simp [Act.eval]) (by simp [Act.eval]) hrun ?_)
  all_goals
    go_simp
    go_wp2
    go_region
    all_goals
      go_wp2
      go_returns
      exact ⟨rfl, _, (HP2.out.column (col + wd)).keep (grown_drew (World.grownBy.refl _ _))⟩

set_option maxHeartbeats 2000000 in
set_option maxRecDepth 100000 in
theorem lay_line (B pb : Nat) (wm w : World) (hpb : pb = wm.heap.size) (l : List Value) (a0 a1 a2 a3 wv tv hv : Value) (ts : List Tk) (tx : List Int) (col : Int) (ch : List Int) (h : Pr pb wm w a0 a1 a2 a3 wv tv hv ts tx col ch)
    (v : Value) (p : Pc) (n : Nat) (ind : Int) (fl : Bool) (bw : Int) (be : Bool) (hn : NodeAt B wm l v (.leaf p) n) (hk : p.k = 2) (hcb : -1000000 ≤ col ∧ col ≤ 1000000) (hl : tx.length ≤ 700000000) :
    Calls Tryd.prog 74 #[.pointer (some ⟨pb, 0, none⟩), agg5 v ind fl bw be] w fun e w' => e = .returned (.tuple #[]) ∧ ∃ tv', Pr pb wm w' a0 a1 a2 a3 wv tv' hv ts (tx ++ [32]) (col + 1) ch := by
  subst hpb
  have hr := hn.rep
  simp only [Rep] at hr
  have hv0 : v = .iface 95 (.agg #[]) := by
    rcases hr with h | h | h | h | h | ⟨h1, b, tv', h, _⟩
    · omega
    · exact h.2
    · omega
    · omega
    · omega
    · omega
  subst hv0
  obtain ⟨e1, e2, e3, e4, e5, e6, e7, e8, e9, e10⟩ := tas_line
  have hlt := h.lt
  have HP := hidN h
  obtain ⟨i0, hi, hz0, hz1, hz2⟩ := info_parts info5
  have gA : w.grownBy ((w.alloc (.cells #[.iface 95 (.agg #[]), .int .i64 ind, .bool fl, .int .i64 bw, .bool be] 122)).alloc (.cells #[] 95)) none := grown_trans (World.grownBy_alloc _ _ _) (World.grownBy_alloc _ _ _)
  have hPA := h.keep gA
  have HPA := hidN hPA
  have htl := World.ownsRow.lt hPA.trow
  have hne : tv.ownBlock ≠ some wm.heap.size := fun e => by have := htl wm.heap.size e; omega
  have HNe := hidN hne
  have hrow : ((w.alloc (.cells #[.iface 95 (.agg #[]), .int .i64 ind, .bool fl, .int .i64 bw, .bool be] 122)).alloc (.cells #[] 95)).ownsRow (wm.heap.size + 1) 5 1 tv tx.length (tx.map (Value.int .u8)) := hPA.trow
  have HRow := hidN hrow
  have c5 := hPA.c5
  have c5w := h.c5
  have f5 := hPA.fz 5
  have hb0 : ¬ wm.heap.size = w.heap.size := by omega
  have hb1 : ¬ wm.heap.size = w.heap.size + 1 := by omega
  have hb2 : ¬ w.heap.size = wm.heap.size := by omega
  have hb3 : ¬ w.heap.size + 1 = wm.heap.size := by omega
  have hltA := hPA.lt
  have gI : ((w.alloc (.cells #[.iface 95 (.agg #[]), .int .i64 ind, .bool fl, .int .i64 bw, .bool be] 122)).alloc (.cells #[] 95)).grownBy (((w.alloc (.cells #[.iface 95 (.agg #[]), .int .i64 ind, .bool fl, .int .i64 bw, .bool be] 122)).alloc (.cells #[] 95)).alloc (.cells #[.int .u8 32] 5)) none := World.grownBy_alloc _ _ _
  have c5a := gI.cell c5 (by simp)
  have f5a : (((w.alloc (.cells #[.iface 95 (.agg #[]), .int .i64 ind, .bool fl, .int .i64 bw, .bool be] 122)).alloc (.cells #[] 95)).alloc (.cells #[.int .u8 32] 5)).frozen? ⟨wm.heap.size, 5, none⟩ = false := (World.frozen?_of_block (gI.block wm.heap.size hltA (by simp))).trans f5
  have GI := hidN gI
  have hcl := cells_sole ((w.alloc (.cells #[.iface 95 (.agg #[]), .int .i64 ind, .bool fl, .int .i64 bw, .bool be] 122)).alloc (.cells #[] 95)) (.int .u8 32) 5
  simp only [World.size_alloc] at hcl
  have HCl := hidN hcl
  obtain ⟨ta, tcap, htv, _, _⟩ := row_form h.trow
  subst htv
  unfold agg5
  clear h hn hr hPA hrow hne gA gI hcl
  go_enter Tryd.func74, Tryd.ntmps74
  go_wp2_with (at_builtin; refine wpList_append_own_at _ rfl _ _ 24 rfl (wm.heap.size + 1) 5 i0 (.int .u8 0) 1 1 Tryd.underlying24 hi hz0 hz1 hz2 rfl (by decide) _ _ _ rfl (World.ownsRow.alloc HRow.out _) ⟨w.heap.size + 1 + 1, 0, none⟩ 1 1 [.int .u8 32] rfl rfl HCl.out (by intro u hu; simp at hu; subst hu; rfl) (by unfold maxLen; omega) (by omega) (by simp; omega) ?_)
  intro v1 w1 hown1 hgrow1 _ hat1
  have x5 := hgrow1.cell c5a (fun e => HNe.out e.symm)
  have y5 : w1.frozen? ⟨wm.heap.size, 5, none⟩ = false := (World.frozen?_of_block (hgrow1.block wm.heap.size (by simp; omega) (fun e => HNe.out e.symm))).trans f5a
  have hP2 := Pr.text (HPA.out.keep GI.out) (tv' := v1) (tx' := tx ++ [32]) hgrow1 (by unfold OwB Ow; rw [List.map_append, List.length_append]; exact hown1) (hat1.imp id fun e => ⟨_, e, by simp⟩)
  have d6 := hP2.c6
  have z6 := hP2.fz 6
  have HP2 := hidN hP2
  obtain ⟨va, vcap, hv1, _, _⟩ := row_form hown1
  subst hv1
  clear hP2 hown1 hgrow1 hat1
  go_wp2
  go_returns
  exact ⟨rfl, _, HP2.out.column (col + 1)⟩

end Go.Proofs.YtbiiopiaglkicaaDoor

namespace Go.Proofs.YtbiiopiaglkicaaDoor
open Go.RowKit

set_option maxHeartbeats 4000000 in
set_option maxRecDepth 100000 in
theorem lay_group (B pb : Nat) (wm w : World) (hpb : pb = wm.heap.size) (l : List Value) (fb lb nb : Nat) (f0 f1 f2 : Value → Option Value) (hC : Ctx B wm l fb lb nb f0 f1 f2) (cf : Nat) (cap : Value) (wv tv : Value) (g gcap lc : Nat) (ts : List Tk) (tx : List Int) (col : Int) (ch : List Int)
    (h : Pr pb wm w (.map (some fb)) (.map (some lb)) (.map (some nb)) (.func (.func cf) #[] #[cap]) wv tv (.slice (some ⟨g, 0, none⟩) lc gcap) ts tx col ch) (hE : ∀ (args : Array Value) (W : World), (callFunc cf args).run Tryd.prog W = .ok (.enter cf args) W)
    (v : Value) (p : Pc) (x : Tr) (n : Nat) (ind : Int) (fl : Bool) (bw : Int) (be : Bool) (hn : NodeAt B wm l v (.un p x) n) (hk : p.k = 8) (hl : ts.length ≤ 1000000) (hlc : lc = ch.length) (hj : n + cntG x < ch.length) (hcl : ch.length ≤ 1000000) (d : Int → Bool)
    (hCl : ∀ W, wm.grownBy W none → Calls Tryd.prog cf #[.int .i64 ((n + cntG x : Nat) : Int), .int .i64 (col + flatW x + bw), cap] W fun e w' => e = .returned (.bool (d (col + flatW x + bw))) ∧ W = w')
    (hfb : -1 ≤ flatW x ∧ flatW x ≤ 1000000) (hcb : -1000000 ≤ col ∧ col ≤ 1000000) (hbb : -1000000 ≤ bw ∧ bw ≤ 1000000) :
    Calls Tryd.prog 74 #[.pointer (some ⟨pb, 0, none⟩), agg5 v ind fl bw be] w fun e w' => e = .returned (.tuple #[]) ∧ ∃ u wv', NodeAt B wm l u x n ∧
      Pr pb wm w' (.map (some fb)) (.map (some lb)) (.map (some nb)) (.func (.func cf) #[] #[cap]) wv' tv (.slice (some ⟨g, 0, none⟩) lc gcap) (ts ++ [⟨u, x, n, ind, fl || canR (flatW x) col bw d, bw, be⟩]) tx col (ch.set (n + cntG x) (if (fl || canR (flatW x) col bw d) = true then 1 else 2)) := by
  subst hpb
  subst hlc
  obtain ⟨b, u, c0, hu, hvv⟩ := hn.un
  rcases hvv with ⟨_, hv0, hf2⟩ | ⟨h1, _⟩
  rotate_left
  · omega
  have hf2' := hf2 f2 hC.t2
  have hgl : gVal b ∈ l := by rw [← hv0]; exact hn.mem
  have hgm := grown_of_below h.bel
  have hnum : ∀ W, wm.grownBy W none → _ := fun W hW => hC.num (W := W) hgl hf2' hW
  have hflat : ∀ W, wm.grownBy W none → _ := fun W hW => hC.flat (W := W) hn hW
  have c0r := cell_any (hgm.cell c0 (by simp))
  have hblt : b < wm.heap.size := World.block_lt_of_cell? wm _ c0
  obtain ⟨tu, yu, hform⟩ := hu.rep.form
  subst hform
  subst hv0
  obtain ⟨e1, e2, e3, e4, e5, e6, e7, e8, e9, e10⟩ := tas_group (.pointer (some ⟨b, 0, none⟩))
  have hlt := h.lt
  have hwl := World.ownsRow.lt h.wrow
  have htl := World.ownsRow.lt h.trow
  have hhl := World.ownsRow.lt h.hrow
  have hgb := hhl g rfl
  have HP := hidN h
  have HU := hidN hu
  have hg1 : ∀ o, w.grownBy (w.alloc o) none := fun o => World.grownBy_alloc _ _ _
  have HO := hidN (fun fl' => of_any 146 tu (.pointer (some ⟨b, 0, none⟩)) yu ind fl' bw be)
  unfold agg5 gVal at *
  cases fl
  · have HCan : Hid (∀ W, w.grownBy W none → _) := fun W hW => canStay_any wm.heap.size wm W fb nb cf (.map (some lb)) cap wv tv _ ts tx col ch (h.keep hW) b bw be (flatW x) (fun W' hW' => hflat W' (grown_trans hgm (grown_trans hW hW'))) (n + cntG x) (fun W' hW' => hnum W' (grown_trans hgm (grown_trans hW hW'))) d (fun W' hW' => hCl W' (grown_trans hgm (grown_trans hW hW'))) hE hfb hcb hbb
    generalize canR (flatW x) col bw d = cr at *
    have HNum := hidN hnum
    clear h hn hu hflat hCl hnum hg1
    go_enter Tryd.func74, Tryd.ntmps74
    go_wp2_with fail
    refine (HCan.out _ (World.grownBy_alloc _ _ _)).mono ?_
    rintro e w2 ⟨rfl, g2⟩
    have t0 := g2.cell (a := ⟨w.heap.size, 0, none⟩) (v := .iface 146 (.pointer (some ⟨b, 0, none⟩))) (by simp [go_sem]) (by simp)
    have t1 := g2.cell (a := ⟨w.heap.size, 1, none⟩) (v := .int .i64 ind) (by simp [go_sem]) (by simp)
    have t2 := g2.cell (a := ⟨w.heap.size, 2, none⟩) (v := .bool false) (by simp [go_sem]) (by simp)
    have t3 := g2.cell (a := ⟨w.heap.size, 3, none⟩) (v := .int .i64 bw) (by simp [go_sem]) (by simp)
    have t4 := g2.cell (a := ⟨w.heap.size, 4, none⟩) (v := .bool be) (by simp [go_sem]) (by simp)
    have z2 : w2.frozen? ⟨w.heap.size, 2, none⟩ = false := (World.frozen?_of_block (g2.block w.heap.size (by simp) (by simp))).trans (by simp [go_sem])
    have gw2 : w.grownBy w2 none := grown_trans (World.grownBy_alloc _ _ _) g2
    have hs2 := g2.size
    simp only [World.size_alloc] at hs2
    have hP3 := (HP.out.keep gw2).aside w.heap.size 2 (.bool cr) (by omega) (fun e => by have := hwl _ e; omega) (fun e => by have := htl _ e; omega) (fun e => by have := hhl _ e; omega)
    have hN := note_any wm.heap.size wm _ _ _ nb _ _ _ g gcap ch.length ts tx col ch hP3 b cr (n + cntG x) (fun W hW => HNum.out W (grown_trans (grown_of_below hP3.bel) hW)) rfl hj hcl
    clear g2 gw2 hP3
    go_wp2_with fail
    refine hN.mono ?_
    rintro e w4 ⟨rfl, hP4, hs4, hk4⟩
    have hkb := hk4 w.heap.size (by omega)
    simp only [World.size_setCell] at hs4
    have s0 := (World.cell?_of_block (a := ⟨w.heap.size, 0, none⟩) hkb).trans (show _ = some (Value.iface 146 (.pointer (some ⟨b, 0, none⟩))) by simp [go_sem, t0])
    have s1 := (World.cell?_of_block (a := ⟨w.heap.size, 1, none⟩) hkb).trans (show _ = some (Value.int .i64 ind) by simp [go_sem, t1])
    have s2 := (World.cell?_of_block (a := ⟨w.heap.size, 2, none⟩) hkb).trans (show _ = some (Value.bool cr) by simp [go_sem, t2])
    have s3 := (World.cell?_of_block (a := ⟨w.heap.size, 3, none⟩) hkb).trans (show _ = some (Value.int .i64 bw) by simp [go_sem, t3])
    have s4 := (World.cell?_of_block (a := ⟨w.heap.size, 4, none⟩) hkb).trans (show _ = some (Value.bool be) by simp [go_sem, t4])
    have n0 := (hP4.bel.cell (p := ⟨b, 0, none⟩) hblt).trans c0
    have HP4 := hidN hP4
    clear hP4 hk4 hkb hN t0 t1 t2 t3 t4 z2
    go_wp2_with fail
    go_region_with (first | (go_at_call 88; refine (HO.out cr _).mono ?_; rintro e w6 ⟨rfl, g6⟩) | (go_at_call 70; refine (pushT_any _ wm w6 _ _ _ _ _ _ _ _ _ _ _ (HP4.out.keep (grown_trans (grown_drew (World.grownBy.refl _ _)) g6)) ⟨.iface tu yu, x, n, ind, cr, bw, be⟩ ⟨_, _, rfl⟩ hl).mono ?_; rintro e w7 ⟨rfl, ⟨wv7, hP7, _⟩, _, _⟩))
    all_goals
      go_wp2
      all_goals
        go_returns
        refine ⟨rfl, .iface tu yu, HU.out, wv7, ?_⟩
        first
          | (have e : cr = true := by assumption
             rw [e] at hP7
             exact hP7)
          | (have e : cr = false := by assumption
             rw [e] at hP7
             exact hP7)
          | (have e : ¬ cr = true := by assumption
             rw [Bool.not_eq_true] at e
             rw [e] at hP7
             exact hP7)
  · have HNum := hidN hnum
    clear h hn hu hflat hCl hnum hg1
    generalize canR (flatW x) col bw d = cr at *
    have gw2 : w.grownBy (w.alloc (.cells #[.iface 146 (.pointer (some ⟨b, 0, none⟩)), .int .i64 ind, .bool true, .int .i64 bw, .bool be] 122)) none := World.grownBy_alloc _ _ _
    have hP3 := HP.out.keep gw2
    have hN := note_any wm.heap.size wm _ _ _ nb _ _ _ g gcap ch.length ts tx col ch hP3 b true (n + cntG x) (fun W hW => HNum.out W (grown_trans (grown_of_below hP3.bel) hW)) rfl hj hcl
    clear gw2 hP3
    go_enter Tryd.func74, Tryd.ntmps74
    go_wp2_with fail
    refine hN.mono ?_
    rintro e w4 ⟨rfl, hP4, hs4, hk4⟩
    have hkb := hk4 w.heap.size (by omega)
    simp only [World.size_alloc] at hs4
    have s0 := (World.cell?_of_block (a := ⟨w.heap.size, 0, none⟩) hkb).trans (show _ = some (Value.iface 146 (.pointer (some ⟨b, 0, none⟩))) by simp [go_sem])
    have s1 := (World.cell?_of_block (a := ⟨w.heap.size, 1, none⟩) hkb).trans (show _ = some (Value.int .i64 ind) by simp [go_sem])
    have s2 := (World.cell?_of_block (a := ⟨w.heap.size, 2, none⟩) hkb).trans (show _ = some (Value.bool true) by simp [go_sem])
    have s3 := (World.cell?_of_block (a := ⟨w.heap.size, 3, none⟩) hkb).trans (show _ = some (Value.int .i64 bw) by simp [go_sem])
    have s4 := (World.cell?_of_block (a := ⟨w.heap.size, 4, none⟩) hkb).trans (show _ = some (Value.bool be) by simp [go_sem])
    have n0 := (hP4.bel.cell (p := ⟨b, 0, none⟩) hblt).trans c0
    have HP4 := hidN hP4
    clear hP4 hk4 hkb hN
    go_wp2_with fail
    go_region_with (first | (go_at_call 88; refine (HO.out true _).mono ?_; rintro e w6 ⟨rfl, g6⟩) | (go_at_call 70; refine (pushT_any _ wm w6 _ _ _ _ _ _ _ _ _ _ _ (HP4.out.keep (grown_trans (grown_drew (World.grownBy.refl _ _)) g6)) ⟨.iface tu yu, x, n, ind, true, bw, be⟩ ⟨_, _, rfl⟩ hl).mono ?_; rintro e w7 ⟨rfl, ⟨wv7, hP7, _⟩, _, _⟩))
    all_goals
      go_wp2
      go_returns
      exact ⟨rfl, .iface tu yu, HU.out, wv7, hP7⟩

end Go.Proofs.YtbiiopiaglkicaaDoor

