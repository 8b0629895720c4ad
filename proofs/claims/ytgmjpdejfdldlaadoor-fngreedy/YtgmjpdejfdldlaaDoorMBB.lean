import Derived.Deep.RegionLaw
import Derived.Test.YtgmjpdejfdldlaaDoorMAJ
import Derived.Test.YtgmjpdejfdldlaaDoorMAS
namespace Go.Proofs.YtgmjpdejfdldlaaDoor
open Go.RowKit

def LayEnds (w : World) (r : Option (List Int × List Int)) (e : Ending) (w' : World) : Prop :=
  match r with
  | some (out, met) => ∃ ov mv, e = .returned (.tuple #[ov, mv, .bool true]) ∧ OwB w.heap.size w' ov out ∧ OwI w.heap.size w' mv met ∧ (∀ g, ov.ownBlock = some g → mv.ownBlock ≠ some g) ∧ w.grownBy w' none
  | none => e = .returned (.tuple #[.slice none 0 0, .slice none 0 0, .bool false]) ∧ w.grownBy w' none

/-- What holds at each round of the layout's loop. -/
def LRel (doc : List Pc) (gn mb : Nat) (w0 : World) (width : Int) (gs : Option (List Int)) (R : Option (List Int × List Int)) (ov mv cv rv : Value) (wr : World) : Prop :=
  ∃ (its : List (Item × Nat)) (out met : List Int) (col : Int), cv = .int .i64 col ∧ mv = .slice (some ⟨mb, 0, none⟩) gn gn ∧ OwB w0.heap.size wr ov out ∧ OwI mb wr mv met ∧ OwT w0.heap.size wr rv (rowOf its) ∧
    (∀ g, ov.ownBlock = some g → rv.ownBlock ≠ some g) ∧ LInv doc (startsOf doc) gn its out met col ∧ Hid (layL width gs (itT its) out met col = R) ∧ w0.grownBy wr (some mb)

/-- The choices that are given, or none. -/
def Given (B : Nat) (w : World) (use : Bool) (gv : Value) (gs : Option (List Int)) (gn : Nat) : Prop :=
  (use = false ∧ gs = none) ∨ (use = true ∧ ∃ g, gs = some g ∧ RdI B w gv g ∧ g.length = gn)
theorem Given.map {B B' : Nat} {w w' : World} {use : Bool} {gv : Value} {gs : Option (List Int)} {gn : Nat} (h : Given B w use gv gs gn) (f : ∀ g, RdI B w gv g → RdI B' w' gv g) : Given B' w' use gv gs gn := by
  rcases h with h | ⟨h1, g, h2, h3, h4⟩
  · exact .inl h
  · exact .inr ⟨h1, g, h2, f g h3, h4⟩
theorem fits_of {doc : List Pc} {st : List Int} {its : List (Item × Nat)} (h : ∀ x ∈ its, FitI doc st x.1 x.2) : Fits doc st (trs (itT its)).reverse (rowOf its) := by
  have e : (trs (itT its)).reverse = its.reverse.map (fun x => x.1.T) := by simp [trs, itT, List.map_reverse]
  rw [e]
  refine ⟨by simp [rowOf], fun j T x h1 h2 => ?_⟩
  unfold rowOf at h2
  rw [List.getElem?_map] at h1 h2
  cases hz : its.reverse[j]? with
  | none => rw [hz] at h1; cases h1
  | some z =>
    rw [hz] at h1 h2
    cases h1
    cases h2
    obtain ⟨a, hs, _⟩ := (h z (by have := List.mem_of_getElem? hz; simpa using this)).seg
    exact ⟨a, hs⟩

/-- An append inside a region that draws its order, where what it does is known. -/
theorem step_append_here {P : Program} {ops : Array Oper} {o : Oper} {a : Act} {w : World} {K : Act → World → Prop} {Q : Exit → Act → World → Prop} {E : Prop} (hg : o.guard = none) (s x : Operand) (t : TypeId)
    (hop : o.op = Op.call { callee := Callee.builtin Builtin.append, args := #[s, x], argTypes := #[t, t] }) (v xv v' : Value) (w' : World) (hs : a.eval s = v) (hx : a.eval x = xv)
    (hrun : (Builtin.append_ #[t, t] o.type #[v, xv]).run P w = .ok v' w') (hK : K (a.put o.dst v') w') : if Region.wanted o (yielded ops a.tmps) = true then Oper.wp P o a w K Q else E := by
  rw [if_pos (show Region.wanted o (yielded ops a.tmps) = true by simp [Region.wanted, hg])]
  unfold Oper.wp
  simp only [execOp, hop, resolve, invoke, builtin, Sem.run_bind, Sem.run_pure, Result.andThen_ok, List.map_toArray, List.map_cons, List.map_nil, hs, hx, hrun]
  exact hK

theorem rd_here {q : IntKind} {B : Nat} {w : World} {v : Value} {zs : List Int} (h : Rd q B w v zs) (hB : B ≤ w.heap.size) : Rd q w.heap.size w v zs := h.wide hB

theorem gg_more {w0 wr W : World} {mb : Nat} (h : w0.grownBy wr (some mb)) (g : wr.grownBy W none) : w0.grownBy W (some mb) :=
  ⟨g.os.trans h.os, g.tape.trans h.tape, g.output.trans h.output, Nat.le_trans h.size g.size, fun i h1 h2 => (g.block i (Nat.lt_of_lt_of_le h1 h.size) (by simp)).trans (h.block i h1 h2)⟩
theorem gg_row {w0 wr W : World} {mb : Nat} {r : Option Nat} (h : w0.grownBy wr (some mb)) (g : wr.grownBy W r) (hr : ∀ k, r = some k → w0.heap.size ≤ k) : w0.grownBy W (some mb) :=
  ⟨g.os.trans h.os, g.tape.trans h.tape, g.output.trans h.output, Nat.le_trans h.size g.size, fun i h1 h2 => (g.block i (Nat.lt_of_lt_of_le h1 h.size) (fun e => by have := hr i e.symm; omega)).trans (h.block i h1 h2)⟩
theorem met_kept {mb gn : Nat} {w w' : World} {met : List Int} {r : Option Nat} (h : OwI mb w (.slice (some ⟨mb, 0, none⟩) gn gn) met) (g : w.grownBy w' r) (hr : ∀ k, r = some k → k ≠ mb) : OwI mb w' (.slice (some ⟨mb, 0, none⟩) gn gn) met :=
  World.ownsRow.kept h g (.inr fun e => hr mb e.symm rfl)
theorem own_kept {q : IntKind} {t : TypeId} {B : Nat} {w w' : World} {v : Value} {zs : List Int} {r : Option Nat} (h : Ow q t B w v zs) (g : w.grownBy w' r) (hr : ∀ k, v.ownBlock = some k → r ≠ some k) : Ow q t B w' v zs :=
  World.ownsRow.kept h g (by
    cases hv : v.ownBlock with
    | none => exact .inl rfl
    | some k => exact .inr fun e => hr k hv e.symm)
theorem its_kept {B : Nat} {w w' : World} {g n cap : Nat} {its : List (Nat × Int)} {r : Option Nat} (h : OwT B w (.slice (some ⟨g, 0, none⟩) n cap) its) (hg : w.grownBy w' r) (hr : r ≠ some g) : OwT B w' (.slice (some ⟨g, 0, none⟩) n cap) its :=
  World.ownsRow.kept h hg (.inr fun e => hr e.symm)
theorem cells_duo (w : World) (x y : Value) (t : TypeId) : ∀ j u, [x, y][j]? = some u → (w.alloc (.cells #[x, y] t)).cell? ((⟨w.heap.size, 0, none⟩ : Addr).add j) = some u := by
  intro j u hj
  match j, hj with
  | 0, hj =>
    simp at hj
    subst hj
    simp [Addr.add]
  | 1, hj =>
    simp at hj
    subst hj
    simp [Addr.add]
/-- Where the row of items lies after an item was put on: not where the text does. -/
theorem ap_push {ov v v' : Value} {B : Nat} (h : ∀ g, ov.ownBlock = some g → v.ownBlock ≠ some g) (hat : v'.ownBlock = v.ownBlock ∨ v'.ownBlock = some B) (hlt : ∀ g, ov.ownBlock = some g → g < B) : ∀ g, ov.ownBlock = some g → v'.ownBlock ≠ some g := by
  intro g h1 h2
  rcases hat with e | e
  · exact h g h1 (by rw [← e]; exact h2)
  · rw [h2] at e; have := hlt g h1; simp at e; omega
theorem ap_text {ov ov' v : Value} {B : Nat} (h : ∀ g, ov.ownBlock = some g → v.ownBlock ≠ some g) (hat : ov'.ownBlock = ov.ownBlock ∨ ov'.ownBlock = some B) (hlt : ∀ g, v.ownBlock = some g → g < B) : ∀ g, ov'.ownBlock = some g → v.ownBlock ≠ some g := by
  intro g h1 h2
  rcases hat with e | e
  · exact h g (by rw [← e]; exact h1) h2
  · rw [h1] at e; have := hlt g h2; simp at e; omega

set_option maxHeartbeats 40000000 in
set_option maxRecDepth 100000 in
theorem l3lay_any (va gv : Value) (doc : List Pc) (hd : Doc doc) (hall : ∀ p ∈ doc, pcOK p = true) (width : Int) (use : Bool) (gs : Option (List Int)) (T : Tr) (w : World) (hv : RdP w.heap.size w va doc) (hs : Seg doc (startsOf doc) T 0 doc.length)
    (hgiv : Given w.heap.size w use gv gs (grp doc doc.length)) (hok : okN T) (hnt : nestT T ≤ 4000) (hsz : sz T ≤ 140000) :
    Calls Tryd.prog 19 #[va, .int .i64 width, .bool use, gv] w fun e w' => LayEnds w (layL width gs [⟨T, 0, 0⟩] [] (List.replicate (grp doc doc.length) 0) 0) e w' := by
  have hdl := hd.len
  obtain ⟨i0, hi, hz0, hz1, hz2⟩ := info_parts info3
  obtain ⟨j0, hj0, hy0, hy1, hy2⟩ := info_parts infoIt
  obtain ⟨k0', hk0', hx0, hx1, hx2⟩ := info_parts info5
  have hst := l2starts_any va doc w hv hdl
  have HV : Hid (RdP w.heap.size w va doc) := hv
  obtain ⟨a, cap, hv0, _⟩ := id hv
  subst hv0
  clear hv
  obtain ⟨gn, hgn⟩ : ∃ gn, gn = grp doc doc.length := ⟨_, rfl⟩
  rw [← hgn]
  rw [← hgn] at hgiv
  have HGV : Hid (Given w.heap.size w use gv gs gn) := hgiv
  clear hgiv
  have HGN : Hid (gn = grp doc doc.length) := hgn
  obtain ⟨R, hR⟩ : ∃ R, R = layL width gs [⟨T, 0, 0⟩] [] (List.replicate gn 0) 0 := ⟨_, rfl⟩
  rw [← hR]
  have HR : Hid (R = layL width gs [⟨T, 0, 0⟩] [] (List.replicate gn 0) 0) := hR
  clear hR
  go_enter Tryd.func19, Tryd.ntmps19
  go_wp2_with fail
  refine hst.mono ?_
  rintro e w1 ⟨sv, rfl, hsv, g1⟩
  clear hst
  have hgs := l3groups_any _ doc w1 ((HV.out.keep g1).wide g1.size) hdl
  clear hgn
  go_wp2_with fail
  refine hgs.mono ?_
  rintro e w2 ⟨gr, rfl, hgr, g2⟩
  clear hgs
  have hgat := grps_at doc doc.length doc.length (Nat.le_refl _)
  rw [← HGN.out] at hgat
  have hgl := grps_len doc doc.length
  obtain ⟨gb, goff, gcap, hgv, hgc⟩ := rd_at hgr.rd hgat
  have hgle := grp_le doc doc.length
  rw [← HGN.out] at hgle
  have HGR : Hid (OwI w1.heap.size w2 gr (grps doc doc.length)) := hgr
  have HSV : Hid (OwI w.heap.size w1 sv (startsOf doc)) := hsv
  have hgl2 : doc.length < (grps doc doc.length).length := by omega
  clear hgr hgat hgl hsv
  subst hgv
  go_wp2_with (at_make; refine wpList_make_full _ rfl _ _ 26 rfl w2.heap.size 3 i0 (.int .i64 0) 1 Tryd.underlying26 hi hz0 hz1 _ _ _ _ gn rfl rfl (by omega) (by omega) ?b2 ?b3 (Nat.le_refl _) ?_)
  case b2 => rw [hz2]; omega
  case b3 => unfold maxLen; omega
  intro w0 hown0 hgrow0
  have hw0 := World.ownsRow.lt hown0 w2.heap.size rfl
  have s1 := g1.size
  have s2 := g2.size
  have hgw : Hid (w.grownBy w0 none) := grown_trans g1 (grown_trans g2 hgrow0)
  have hgw2 : Hid (w2.grownBy w0 none) := hgrow0
  have HVw : Hid (RdP w2.heap.size w0 _ doc) := (HV.out.keep hgw.out).wide (Nat.le_trans s1 s2)
  have HSw : Hid (RdI w2.heap.size w0 sv (startsOf doc)) := ((HSV.out.rd.keep (grown_trans g2 hgrow0)).wide s2)
  have HGw : Hid (RdI w2.heap.size w0 _ (grps doc doc.length)) := HGR.out.rd.keep hgrow0
  have HGW : Hid (Given w2.heap.size w0 use gv gs gn) := HGV.out.map fun g h => (h.keep hgw.out).wide (Nat.le_trans s1 s2)
  clear hgc
  go_wp2
  go_loopw [11, 14, 15, 16] (fun ov mv cv rv wr => LRel doc gn w2.heap.size w0 width gs R ov mv cv rv wr) (fun _ _ _ rv wr => wts (startsOf doc) (tos wr rv))
  case atStart =>
    refine ⟨[(⟨T, 0, 0⟩, doc.length)], [], List.replicate gn 0, 0, rfl, rfl, World.ownsRow_nil _ _ _ _, ?_, ?_, fun g h => by simp [Value.ownBlock] at h, ⟨?_, ?_, by simp, ?_, ?_, ?_⟩, HR.out.symm, World.grownBy_alloc _ _ _⟩
    · refine Ow.later (w := w0) ?_ (World.grownBy_alloc _ _ _)
      unfold Ow
      rw [List.length_replicate]
      simpa [toList_madeCells_one, Value.cells] using hown0
    · have := World.ownsRow_lit (base := w0.heap.size) (e := 93) (size := 2) w0 #[.int .i64 (doc.length : Int), .int .i64 0] 1 (Nat.le_refl _) (by unfold maxLen; omega) (by simp)
      simpa [OwT, cells2, rowOf] using this
    · intro x hx
      simp only [List.mem_singleton] at hx
      subst hx
      exact ⟨⟨0, hs, (grp_zero doc).symm⟩, hok, Int.le_refl _, by simp only; omega⟩
    · simp [sI_cons, sI_nil]; omega
    · simp [sI_cons, sI_nil]; omega
    · simp [sI_cons, sI_nil]; omega
    · simp [sI_cons, sI_nil]; omega
  case round =>
    obtain ⟨its, out, met, col, rfl, rfl, hO, hM, hT, hap, hI, HS, hgg⟩ := hrel
    obtain ⟨oa, ocap, hov, hoc, hom⟩ := row_form hO
    subst hov
    have hmu := mu_tos (startsOf doc) hT
    cases its with
    | nil =>
      obtain ⟨ra, rcap, hrv, _, _⟩ := row_form hT
      simp only [rowOf_nil, List.length_nil] at hrv
      have HR2 : Hid (R = some (out, met)) := by unfold Hid; rw [← HS.out]; exact layL_nil _ _ _ _ _
      subst hrv
      clear hT HS hI hmu
      have HE : Hid (OwB w.heap.size wr (.slice oa out.length ocap) out ∧ OwI w.heap.size wr (.slice (some ⟨w2.heap.size, 0, none⟩) gn gn) met ∧ (∀ g, (Value.slice oa out.length ocap).ownBlock = some g → (Value.slice (some ⟨w2.heap.size, 0, none⟩) gn gn).ownBlock ≠ some g) ∧ w.grownBy wr none) := by
        refine ⟨row_base hgw.out.size hO, row_base (by omega) hM, fun g h1 h2 => ?_, grown_new hgw.out hgg (fun j hj => by cases hj; omega)⟩
        have := World.ownsRow.lt hO g h1
        have h3 : w2.heap.size = g := by simpa [Value.ownBlock] using h2
        omega
      clear hO hM hgg
      go_wp2
      go_ret3
      rw [HR2.out]
      exact ⟨_, _, rfl, HE.out⟩
    | cons x its =>
      obtain ⟨⟨X, n, ind⟩, b⟩ := x
      have hfit := hI.fit (⟨X, n, ind⟩, b) (List.mem_cons_self ..)
      rw [rowOf_cons] at hT
      have hlenR := rowOf_len its
      obtain ⟨rg, roff, rcap, hrv, hrc, hrm, hrb, c1, c2⟩ := hT.rd.at (j := its.length) (x := (b, ind)) (by rw [List.getElem?_append_right (by omega), hlenR]; simp)
      have hr0 : roff = 0 := by
        rcases hT.2 with ⟨hv', hn'⟩ | ⟨g', cap', cur', hv', _⟩
        · simp at hn'
        · rw [hv'] at hrv; cases hrv; rfl
      subst hr0
      subst hrv
      simp only [Nat.zero_add] at c1 c2
      have hpop := hT.pop (by simp)
      rw [hlenR] at hpop
      have hgs := hgg.size
      have hlo := hI.lo; have hhi := hI.hi; have htt := hI.tot; have hol := hI.ol
      rw [sI_cons] at hlo hhi htt hol
      simp only at hlo hhi htt hol
      have hsp := sz_pos X
      have hilen : its.length ≤ 140000 := by have := sI_len its; omega
      have hcl : -140000 ≤ col ∧ col ≤ 144000 := by omega
      have hil : 0 ≤ ind ∧ ind ≤ 4000 := ⟨hfit.lo, hfit.ind_le⟩
      have holn : out.length ≤ 600000000 := by omega
      have hle : (rowOf its ++ [(b, ind)]).length = its.length + 1 := by simp [hlenR]
      rw [hle] at hrc hap hmu ⊢
      have hrow : Hid (∀ k, some w2.heap.size = some k → w2.heap.size ≤ k) := fun k e => by cases e; exact Nat.le_refl _
      have HVr : Hid (RdP w2.heap.size wr _ doc) := HVw.out.beside hgg hrow.out
      have HSr : Hid (RdI w2.heap.size wr sv (startsOf doc)) := HSw.out.beside hgg hrow.out
      have HGr : Hid (RdI w2.heap.size wr _ (grps doc doc.length)) := HGw.out.beside hgg hrow.out
      have HGWr : Hid (Given w2.heap.size wr use gv gs gn) := HGW.out.map fun g h => h.beside hgg hrow.out
      have hmb := hM.blk
      have holt := World.ownsRow.lt hO
      have hrlt := World.ownsRow.lt hpop
      have HI : Hid (LInv doc (startsOf doc) gn ((⟨X, n, ind⟩, b) :: its) out met col) := hI
      have HFit : Hid (FitI doc (startsOf doc) ⟨X, n, ind⟩ b) := hfit
      have HO : Hid (OwB w0.heap.size wr (.slice oa out.length ocap) out) := hO
      have HM : Hid (OwI w2.heap.size wr (.slice (some ⟨w2.heap.size, 0, none⟩) gn gn) met) := hM
      have HT : Hid (OwT w0.heap.size wr (.slice (some ⟨rg, 0, none⟩) its.length rcap) (rowOf its)) := hpop
      have HAp : Hid (∀ g, (Value.slice oa out.length ocap).ownBlock = some g → (Value.slice (some ⟨rg, 0, none⟩) its.length rcap).ownBlock ≠ some g) := hap
      have HGG : Hid (w0.grownBy wr (some w2.heap.size)) := hgg
      have HMu : Hid (wts (startsOf doc) (tos wr (.slice (some ⟨rg, 0, none⟩) (its.length + 1) rcap)) = muS (startsOf doc) ((⟨X, n, ind⟩, b) :: its)) := hmu
      unfold maxLen at hrm hom
      clear hI hfit hO hM hT hpop hap hmu hgg HV HVw HSw HGw HGV HGW HGR HSV hgrow0 hown0 HR hs hok hnt hsz hle hlenR
      cases X with
      | leaf p =>
        obtain ⟨m, hb, hp, har⟩ := fit_leaf HFit.out
        obtain ⟨hj, hpj⟩ := seg_at hp
        have hmem : p ∈ doc := by rw [← hpj]; exact List.getElem_mem hj
        have hpk := (pcOK_iff p).1 (hall p hmem)
        have hk5 : p.k = 0 ∨ p.k = 1 ∨ p.k = 2 ∨ p.k = 3 ∨ p.k = 4 ∨ p.k = 5 := by
          have h6 : ¬ (p.k = 6 ∨ p.k = 9) := by intro h; unfold ar at har; rw [if_pos h] at har; cases har
          have h7 : ¬ (p.k = 7 ∨ p.k = 8) := by intro h; unfold ar at har; rw [if_neg h6, if_pos h] at har; cases har
          have := hpk.1
          omega
        have hbys := hd.bys p hmem
        have htl := hd.tlen p hmem
        obtain ⟨bl, off, pcap, tv, hva, hbb, hat⟩ := (HVr.out.keep (World.grownBy_alloc wr (.cells #[.int .i64 ((m : Int) + 1), .int .i64 ind] 93) none)).at m hj
        cases hva
        rw [hpj] at hat
        have k0 := hat.k; have t0 := hat.t; have n0 := hat.n
        subst hb
        obtain ⟨ta, tcap, htv, htc, htm⟩ := hat.sl
        have hcast : (((m + 1 : Nat) : Int)) = (m : Int) + 1 := by omega
        rw [hcast] at c1
        have hgA : wr.grownBy ((wr.alloc (.cells #[.int .i64 ((m : Int) + 1), .int .i64 ind] 93)).alloc (.cells #[.int .i64 p.k, tv, .int .i64 p.n] 40)) none := grown_trans (World.grownBy_alloc _ _ _) (World.grownBy_alloc _ _ _)
        have HgA : Hid _ := hgA
        have HTv : Hid (RdB w2.heap.size ((wr.alloc (.cells #[.int .i64 ((m : Int) + 1), .int .i64 ind] 93)).alloc (.cells #[.int .i64 p.k, tv, .int .i64 p.n] 40)) tv p.t) := hat.rd.keep (World.grownBy_alloc _ _ _)
        have HmuD : Hid (muS (startsOf doc) its < muS (startsOf doc) ((⟨.leaf p, n, ind⟩, m + 1) :: its)) := by
          unfold Hid
          rw [muS_cons]
          obtain ⟨a0, hsg, _⟩ := HFit.out.seg
          have h1 := wt_seg hsg; have h2 := hsg.lt
          simp only at h1 h2 ⊢
          omega
        clear hat hpj hp har hgA hmem hpk hcast hall HVr HSr HGr HGWr
        simp only [sz] at hsp htt hol hlo hhi
        have hstep := layL_leaf width gs p n ind (itT its) out met col
        rw [← itT_cons (⟨.leaf p, n, ind⟩, m + 1) its, HS.out] at hstep
        clear HS
        by_cases hk0 : p.k = 0
        · as_aux_lemma =>
            have HS2 : Hid (layL width gs (itT its) out met col = R) := by unfold Hid; rw [hstep, if_neg (by omega), if_neg (by omega), if_neg (by omega)]
            have HI2 : Hid (LInv doc (startsOf doc) gn its out met col) := HI.out.pop (by simp only [sz]; omega) (by omega) (.inl (by omega))
            have q1 : (p.k == 1) = false := by rw [hk0]; rfl
            have q2 : (p.k == 2) = false := by rw [hk0]; rfl
            have q3 : (p.k == 3) = false := by rw [hk0]; rfl
            have q4 : (p.k == 4) = false := by rw [hk0]; rfl
            have q5 : (p.k == 5) = false := by rw [hk0]; rfl
            have q6 : (p.k == 6) = false := by rw [hk0]; rfl
            have q7 : (p.k == 7) = false := by rw [hk0]; rfl
            have q8 : (p.k == 8) = false := by rw [hk0]; rfl
            have q9 : (p.k == 9) = false := by rw [hk0]; rfl
            clear hk0 hk5 hstep HTv hbys
            subst htv
            go_wp2
            go_roundw
            case rel => exact ⟨its, out, met, col, rfl, rfl, HO.out.later HgA.out, HM.out.later HgA.out, HT.out.later HgA.out, HAp.out, HI2.out, HS2.out, grown_trans HGG.out (by exact ⟨HgA.out.os, HgA.out.tape, HgA.out.output, HgA.out.size, fun i h1 _ => HgA.out.block i h1 (by simp)⟩)⟩
            case measure =>
              rw [HMu.out, mu_tos _ (HT.out.later HgA.out)]
              exact HmuD.out
        by_cases hk1 : p.k = 1
        · as_aux_lemma =>
            have HS2 : Hid (layL width gs (itT its) (out ++ p.t) met (col + widthR p.t) = R) := by unfold Hid; rw [hstep, if_pos hk1]
            have hwb := width_bd p.t
            have HI2 : Hid (LInv doc (startsOf doc) gn its (out ++ p.t) met (col + widthR p.t)) := HI.out.pop (by simp only [sz]; omega) (by simp only [sz, List.length_append]; omega) (.inl (by simp only [sz]; omega))
            obtain ⟨ov', w3, hrun, hO3, hg3, hat3⟩ := append_text w0.heap.size w2.heap.size _ _ tv out p.t (HO.out.later HgA.out) HTv.out (by simp; omega) (by omega)
            have hn3 : ∀ k, wr.heap.size ≤ k → some k ≠ (Value.slice oa out.length ocap).ownBlock := fun k hk e => by have := holt k e.symm; omega
            have z0 := hg3.cell (a := ⟨wr.heap.size + 1, 0, none⟩) (v := .int .i64 p.k) (by simp [go_sem]) (hn3 (wr.heap.size + 1) (by omega))
            have z1 := hg3.cell (a := ⟨wr.heap.size + 1, 1, none⟩) (v := tv) (by simp [go_sem]) (hn3 (wr.heap.size + 1) (by omega))
            have hs3 := hg3.size
            simp only [World.size_alloc] at hs3
            have hTv3 := rd_here (HTv.out.beside hg3 (fun k e => by have := holt k e; omega)) (by omega)
            have hW := specTextWidth_any tv p.t w3 hTv3 hbys htl
            have HO3 : Hid (OwB w0.heap.size w3 ov' (out ++ p.t)) := hO3
            have HM3 : Hid (OwI w2.heap.size w3 (.slice (some ⟨w2.heap.size, 0, none⟩) gn gn) met) := met_kept (HM.out.later HgA.out) hg3 (fun k e => by have := holt k e; omega)
            have HT3 : Hid (OwT w0.heap.size w3 (.slice (some ⟨rg, 0, none⟩) its.length rcap) (rowOf its)) := its_kept (HT.out.later HgA.out) hg3 (fun e => HAp.out rg e rfl)
            have HAp3 : Hid (∀ g, ov'.ownBlock = some g → (Value.slice (some ⟨rg, 0, none⟩) its.length rcap).ownBlock ≠ some g) := ap_text HAp.out hat3 (fun g h => by have := hrlt g h; simp; omega)
            have HG3 : Hid (w0.grownBy w3 (some w2.heap.size)) := gg_row (gg_more HGG.out HgA.out) hg3 (fun k e => by have := holt k e; omega)
            have q1 : (p.k == 1) = true := by rw [hk1]; rfl
            have q2 : (p.k == 2) = false := by rw [hk1]; rfl
            have q3 : (p.k == 3) = false := by rw [hk1]; rfl
            have q4 : (p.k == 4) = false := by rw [hk1]; rfl
            have q5 : (p.k == 5) = false := by rw [hk1]; rfl
            have q6 : (p.k == 6) = false := by rw [hk1]; rfl
            have q7 : (p.k == 7) = false := by rw [hk1]; rfl
            have q8 : (p.k == 8) = false := by rw [hk1]; rfl
            have q9 : (p.k == 9) = false := by rw [hk1]; rfl
            generalize widthR p.t = wd at *
            clear hk1 hk5 hstep hbys hO3 hg3 hat3 hTv3 hn3 HTv HO HM HT HAp HGG HI HgA
            subst htv
            go_wp2_with (at_builtin; refine wpList_append_known rfl _ _ 22 rfl _ _ _ _ rfl rfl hrun ?_)
            refine hW.mono ?_
            rintro e w4 ⟨rfl, g4⟩
            go_wp2
            go_roundw
            case rel => exact ⟨its, out ++ p.t, met, col + wd, by go_num, rfl, HO3.out.later g4, HM3.out.later g4, HT3.out.later g4, HAp3.out, HI2.out, HS2.out, gg_more HG3.out g4⟩
            case measure =>
              rw [HMu.out, mu_tos _ (HT3.out.later g4)]
              exact HmuD.out
        by_cases hk5' : p.k = 5
        · as_aux_lemma =>
            have HS2 : Hid (layL width gs (itT its) (out ++ [10]) met 0 = R) := by unfold Hid; rw [hstep, if_neg (by omega), if_pos hk5']
            have HI2 : Hid (LInv doc (startsOf doc) gn its (out ++ [10]) met 0) := HI.out.pop (by simp only [sz]; omega) (by simp only [sz, List.length_append, List.length_singleton]; omega) (.inr (by omega))
            have hOA := HO.out.later HgA.out
            have HOA : Hid (OwB w0.heap.size _ (.slice oa out.length ocap) out) := hOA
            have q1 : (p.k == 1) = false := by rw [hk5']; rfl
            have q2 : (p.k == 2) = false := by rw [hk5']; rfl
            have q3 : (p.k == 3) = false := by rw [hk5']; rfl
            have q4 : (p.k == 4) = false := by rw [hk5']; rfl
            have q5 : (p.k == 5) = true := by rw [hk5']; rfl
            have q6 : (p.k == 6) = false := by rw [hk5']; rfl
            have q7 : (p.k == 7) = false := by rw [hk5']; rfl
            have q8 : (p.k == 8) = false := by rw [hk5']; rfl
            have q9 : (p.k == 9) = false := by rw [hk5']; rfl
            clear hk5' hk1 hk0 hk5 hstep hbys HTv
            subst htv
            go_wp2_with (at_builtin; refine wpList_append_own_at _ rfl _ _ 22 rfl w0.heap.size 5 k0' (.int .u8 0) 1 1 Tryd.underlying22 hk0' hx0 hx1 hx2 rfl (by decide) _ _ _ rfl (World.ownsRow.alloc hOA _) ⟨wr.heap.size + 1 + 1, 0, none⟩ 1 1 [.int .u8 10] rfl rfl (by have := cell_one_new ((wr.alloc (.cells #[.int .i64 ((m : Int) + 1), .int .i64 ind] 93)).alloc (.cells #[.int .i64 p.k, .slice ta p.t.length tcap, .int .i64 p.n] 40)) (.int .u8 10) 5; simp only [World.size_alloc] at this; exact this) (by intro u hu; simp at hu; subst hu; rfl) (by unfold maxLen; omega) (by omega) (by simp; omega) ?_; intro v' w3 hown' hgrow _ hat)
            have hs3 := hgrow.size
            simp only [World.size_alloc] at hs3
            have gB : wr.grownBy (((wr.alloc (.cells #[.int .i64 ((m : Int) + 1), .int .i64 ind] 93)).alloc (.cells #[.int .i64 p.k, .slice ta p.t.length tcap, .int .i64 p.n] 40)).alloc (.cells #[.int .u8 10] 5)) none := grown_trans HgA.out (World.grownBy_alloc _ _ _)
            have HO3 : OwB w0.heap.size w3 v' (out ++ [10]) := by unfold OwB Ow; simpa using hown'
            have hT3 := its_kept (HT.out.later gB) hgrow (fun e => HAp.out rg e rfl)
            go_roundw
            case rel => exact ⟨its, out ++ [10], met, 0, rfl, rfl, HO3, met_kept (HM.out.later gB) hgrow (fun k e => by have := holt k e; omega), hT3, ap_text HAp.out hat (fun g h => by have := hrlt g h; simp; omega), HI2.out, HS2.out, gg_row (gg_more HGG.out gB) hgrow (fun k e => by have := holt k e; omega)⟩
            case measure =>
              rw [HMu.out, mu_tos _ hT3]
              exact HmuD.out
        have hk234 : p.k = 2 ∨ p.k = 3 ∨ p.k = 4 := by omega
        have HS2 : Hid (layL width gs (itT its) (out ++ newLine ind) met ind = R) := by unfold Hid; rw [hstep, if_neg (by omega), if_neg (by omega), if_pos hk234]
        have hnl := newLine_len ind hil.2
        have HI2 : Hid (LInv doc (startsOf doc) gn its (out ++ newLine ind) met ind) := HI.out.pop (by simp only [sz]; omega) (by simp only [sz, List.length_append]; omega) (.inr hil)
        have hN := l3newLine_any ind ((wr.alloc (.cells #[.int .i64 ((m : Int) + 1), .int .i64 ind] 93)).alloc (.cells #[.int .i64 p.k, tv, .int .i64 p.n] 40)) hil.1 hil.2
        clear hk1 hk0 hk5 hk5' hstep hbys HTv
        subst htv
        rcases hk234 with hk2 | hk3 | hk4
        · as_aux_lemma =>
            have HKK : Hid (p.k = 2) := hk2
            have q1 : (p.k == 1) = false := by rw [hk2]; rfl
            have q2 : (p.k == 2) = true := by rw [hk2]; rfl
            have q3 : (p.k == 3) = false := by rw [hk2]; rfl
            have q4 : (p.k == 4) = false := by rw [hk2]; rfl
            have q5 : (p.k == 5) = false := by rw [hk2]; rfl
            have q6 : (p.k == 6) = false := by rw [hk2]; rfl
            have q7 : (p.k == 7) = false := by rw [hk2]; rfl
            have q8 : (p.k == 8) = false := by rw [hk2]; rfl
            have q9 : (p.k == 9) = false := by rw [hk2]; rfl
            clear hk2
            go_wp2_with fail
            refine hN.mono ?_
            rintro e w3 ⟨nv, rfl, hnv, g3⟩
            have hs3 := g3.size
            simp only [World.size_alloc] at hs3
            have y1 := g3.cell (a := ⟨wr.heap.size, 1, none⟩) (v := .int .i64 ind) (by simp [go_sem]) (by simp)
            have gB : wr.grownBy w3 none := grown_trans HgA.out g3
            obtain ⟨ov', w4, hrun, hO4, hg4, hat4⟩ := append_text w0.heap.size w3.heap.size w3 _ nv out (newLine ind) (HO.out.later gB) hnv.rd (by omega) (by omega)
            have hn4 : some wr.heap.size ≠ (Value.slice oa out.length ocap).ownBlock := fun e => by have := holt wr.heap.size e.symm; omega
            have y2 := hg4.cell y1 hn4
            obtain ⟨na, ncap, hnf, _, _⟩ := row_form hnv
            have HO4 : Hid (OwB w0.heap.size w4 ov' (out ++ newLine ind)) := hO4
            have HT4 : Hid (OwT w0.heap.size w4 (.slice (some ⟨rg, 0, none⟩) its.length rcap) (rowOf its)) := its_kept (HT.out.later gB) hg4 (fun e => HAp.out rg e rfl)
            have HM4 : Hid (OwI w2.heap.size w4 (.slice (some ⟨w2.heap.size, 0, none⟩) gn gn) met) := met_kept (HM.out.later gB) hg4 (fun k e => by have := holt k e; omega)
            have HAp4 : Hid (∀ g, ov'.ownBlock = some g → (Value.slice (some ⟨rg, 0, none⟩) its.length rcap).ownBlock ≠ some g) := ap_text HAp.out hat4 (fun g h => by have := hrlt g h; omega)
            have HG4 : Hid (w0.grownBy w4 (some w2.heap.size)) := gg_row (gg_more HGG.out gB) hg4 (fun k e => by have := holt k e; omega)
            clear hN hnv g3 hO4 hg4 hat4 hn4 y1 gB
            subst hnf
            go_wp2_with (at_builtin; refine wpList_append_known rfl _ _ 22 rfl _ _ _ _ rfl rfl hrun ?_)
            go_roundw
            case rel => exact ⟨its, out ++ newLine ind, met, ind, rfl, rfl, HO4.out, HM4.out, HT4.out, HAp4.out, HI2.out, HS2.out, HG4.out⟩
            case measure =>
              rw [HMu.out, mu_tos _ HT4.out]
              exact HmuD.out
        · as_aux_lemma =>
            have HKK : Hid (p.k = 3) := hk3
            have q1 : (p.k == 1) = false := by rw [hk3]; rfl
            have q2 : (p.k == 2) = false := by rw [hk3]; rfl
            have q3 : (p.k == 3) = true := by rw [hk3]; rfl
            have q4 : (p.k == 4) = false := by rw [hk3]; rfl
            have q5 : (p.k == 5) = false := by rw [hk3]; rfl
            have q6 : (p.k == 6) = false := by rw [hk3]; rfl
            have q7 : (p.k == 7) = false := by rw [hk3]; rfl
            have q8 : (p.k == 8) = false := by rw [hk3]; rfl
            have q9 : (p.k == 9) = false := by rw [hk3]; rfl
            clear hk3
            go_wp2_with fail
            refine hN.mono ?_
            rintro e w3 ⟨nv, rfl, hnv, g3⟩
            have hs3 := g3.size
            simp only [World.size_alloc] at hs3
            have y1 := g3.cell (a := ⟨wr.heap.size, 1, none⟩) (v := .int .i64 ind) (by simp [go_sem]) (by simp)
            have gB : wr.grownBy w3 none := grown_trans HgA.out g3
            obtain ⟨ov', w4, hrun, hO4, hg4, hat4⟩ := append_text w0.heap.size w3.heap.size w3 _ nv out (newLine ind) (HO.out.later gB) hnv.rd (by omega) (by omega)
            have hn4 : some wr.heap.size ≠ (Value.slice oa out.length ocap).ownBlock := fun e => by have := holt wr.heap.size e.symm; omega
            have y2 := hg4.cell y1 hn4
            obtain ⟨na, ncap, hnf, _, _⟩ := row_form hnv
            have HO4 : Hid (OwB w0.heap.size w4 ov' (out ++ newLine ind)) := hO4
            have HT4 : Hid (OwT w0.heap.size w4 (.slice (some ⟨rg, 0, none⟩) its.length rcap) (rowOf its)) := its_kept (HT.out.later gB) hg4 (fun e => HAp.out rg e rfl)
            have HM4 : Hid (OwI w2.heap.size w4 (.slice (some ⟨w2.heap.size, 0, none⟩) gn gn) met) := met_kept (HM.out.later gB) hg4 (fun k e => by have := holt k e; omega)
            have HAp4 : Hid (∀ g, ov'.ownBlock = some g → (Value.slice (some ⟨rg, 0, none⟩) its.length rcap).ownBlock ≠ some g) := ap_text HAp.out hat4 (fun g h => by have := hrlt g h; omega)
            have HG4 : Hid (w0.grownBy w4 (some w2.heap.size)) := gg_row (gg_more HGG.out gB) hg4 (fun k e => by have := holt k e; omega)
            clear hN hnv g3 hO4 hg4 hat4 hn4 y1 gB
            subst hnf
            go_wp2_with (at_builtin; refine wpList_append_known rfl _ _ 22 rfl _ _ _ _ rfl rfl hrun ?_)
            go_roundw
            case rel => exact ⟨its, out ++ newLine ind, met, ind, rfl, rfl, HO4.out, HM4.out, HT4.out, HAp4.out, HI2.out, HS2.out, HG4.out⟩
            case measure =>
              rw [HMu.out, mu_tos _ HT4.out]
              exact HmuD.out
        · as_aux_lemma =>
            have HKK : Hid (p.k = 4) := hk4
            have q1 : (p.k == 1) = false := by rw [hk4]; rfl
            have q2 : (p.k == 2) = false := by rw [hk4]; rfl
            have q3 : (p.k == 3) = false := by rw [hk4]; rfl
            have q4 : (p.k == 4) = true := by rw [hk4]; rfl
            have q5 : (p.k == 5) = false := by rw [hk4]; rfl
            have q6 : (p.k == 6) = false := by rw [hk4]; rfl
            have q7 : (p.k == 7) = false := by rw [hk4]; rfl
            have q8 : (p.k == 8) = false := by rw [hk4]; rfl
            have q9 : (p.k == 9) = false := by rw [hk4]; rfl
            clear hk4
            go_wp2_with fail
            refine hN.mono ?_
            rintro e w3 ⟨nv, rfl, hnv, g3⟩
            have hs3 := g3.size
            simp only [World.size_alloc] at hs3
            have y1 := g3.cell (a := ⟨wr.heap.size, 1, none⟩) (v := .int .i64 ind) (by simp [go_sem]) (by simp)
            have gB : wr.grownBy w3 none := grown_trans HgA.out g3
            obtain ⟨ov', w4, hrun, hO4, hg4, hat4⟩ := append_text w0.heap.size w3.heap.size w3 _ nv out (newLine ind) (HO.out.later gB) hnv.rd (by omega) (by omega)
            have hn4 : some wr.heap.size ≠ (Value.slice oa out.length ocap).ownBlock := fun e => by have := holt wr.heap.size e.symm; omega
            have y2 := hg4.cell y1 hn4
            obtain ⟨na, ncap, hnf, _, _⟩ := row_form hnv
            have HO4 : Hid (OwB w0.heap.size w4 ov' (out ++ newLine ind)) := hO4
            have HT4 : Hid (OwT w0.heap.size w4 (.slice (some ⟨rg, 0, none⟩) its.length rcap) (rowOf its)) := its_kept (HT.out.later gB) hg4 (fun e => HAp.out rg e rfl)
            have HM4 : Hid (OwI w2.heap.size w4 (.slice (some ⟨w2.heap.size, 0, none⟩) gn gn) met) := met_kept (HM.out.later gB) hg4 (fun k e => by have := holt k e; omega)
            have HAp4 : Hid (∀ g, ov'.ownBlock = some g → (Value.slice (some ⟨rg, 0, none⟩) its.length rcap).ownBlock ≠ some g) := ap_text HAp.out hat4 (fun g h => by have := hrlt g h; omega)
            have HG4 : Hid (w0.grownBy w4 (some w2.heap.size)) := gg_row (gg_more HGG.out gB) hg4 (fun k e => by have := holt k e; omega)
            clear hN hnv g3 hO4 hg4 hat4 hn4 y1 gB
            subst hnf
            go_wp2_with (at_builtin; refine wpList_append_known rfl _ _ 22 rfl _ _ _ _ rfl rfl hrun ?_)
            go_roundw
            case rel => exact ⟨its, out ++ newLine ind, met, ind, rfl, rfl, HO4.out, HM4.out, HT4.out, HAp4.out, HI2.out, HS2.out, HG4.out⟩
            case measure =>
              rw [HMu.out, mu_tos _ HT4.out]
              exact HmuD.out
      | un p y =>
        obtain ⟨m, hb, hp, har, hpn, hfN, hfG, hgm⟩ := fit_un HFit.out
        obtain ⟨hj, hpj⟩ := seg_at hp
        have hk' := ar1 har
        obtain ⟨bl, off, pcap, tv, hva, hbb, hat⟩ := (HVr.out.keep (World.grownBy_alloc wr (.cells #[.int .i64 ((m : Int) + 1), .int .i64 ind] 93) none)).at m hj
        cases hva
        rw [hpj] at hat
        have k0 := hat.k; have t0 := hat.t; have n0 := hat.n
        subst hb
        obtain ⟨ta, tcap, htv, htc, htm⟩ := hat.sl
        have hcast : (((m + 1 : Nat) : Int)) = (m : Int) + 1 := by omega
        rw [hcast] at c1
        have hgA : wr.grownBy ((wr.alloc (.cells #[.int .i64 ((m : Int) + 1), .int .i64 ind] 93)).alloc (.cells #[.int .i64 p.k, tv, .int .i64 p.n] 40)) none := grown_trans (World.grownBy_alloc _ _ _) (World.grownBy_alloc _ _ _)
        have HgA : Hid _ := hgA
        have hTA := HT.out.later hgA
        have hmu1 := mu_un HFit.out
        have hmu2 := mu_un HFit.out
        simp only [sz] at htt hol hlo hhi hsp
        have hstep := layL_un width gs p y n ind (itT its) out met col
        rw [← itT_cons (⟨.un p y, n, ind⟩, m + 1) its, HS.out] at hstep
        rcases hk' with hk7 | hk8
        · as_aux_lemma =>
            have HS2 : Hid (layL width gs (itT ((⟨y, n, ind + p.n⟩, m) :: its)) out met col = R) := by unfold Hid; rw [hstep, if_pos hk7]; rfl
            have HI2 : Hid (LInv doc (startsOf doc) gn ((⟨y, n, ind + p.n⟩, m) :: its) out met col) := by
              refine HI.out.turn (xs := [(⟨y, n, ind + p.n⟩, m)]) ?_ (by simp only [sI_cons, sI_nil, sz]; omega) rfl
              intro x hx
              simp only [List.mem_cons, List.not_mem_nil, or_false] at hx
              subst hx
              exact hfN
            have HmuD : Hid (muS (startsOf doc) ((⟨y, n, ind + p.n⟩, m) :: its) < muS (startsOf doc) ((⟨.un p y, n, ind⟩, m + 1) :: its)) := by
              unfold Hid
              simp only [muS_cons]
              omega
            have hin : ind + p.n ≤ 4000 := hfN.ind_le
            have q1 : (p.k == 1) = false := by rw [hk7]; rfl
            have q2 : (p.k == 2) = false := by rw [hk7]; rfl
            have q3 : (p.k == 3) = false := by rw [hk7]; rfl
            have q4 : (p.k == 4) = false := by rw [hk7]; rfl
            have q5 : (p.k == 5) = false := by rw [hk7]; rfl
            have q6 : (p.k == 6) = false := by rw [hk7]; rfl
            have q7 : (p.k == 7) = true := by rw [hk7]; rfl
            have q8 : (p.k == 8) = false := by rw [hk7]; rfl
            have q9 : (p.k == 9) = false := by rw [hk7]; rfl
            clear hk7 hstep hat hpj hp har hgA hcast hall HVr HSr HGr HGWr HS hfN hfG hgm HFit HI hmu1 hmu2
            subst htv
            have hcl1 := cells_duo ((wr.alloc (.cells #[.int .i64 ((m : Int) + 1), .int .i64 ind] 93)).alloc (.cells #[.int .i64 p.k, .slice ta p.t.length tcap, .int .i64 p.n] 40)) (.int .i64 (m : Int)) (.int .i64 (ind + p.n)) 93
            simp only [World.size_alloc] at hcl1
            have HCl1 : Hid _ := hcl1
            clear hcl1
            go_wp2_with (at_builtin; refine wpList_append_own_at _ rfl _ _ 94 rfl w0.heap.size 93 j0 (.agg #[.int .i64 0, .int .i64 0]) 2 16 Tryd.underlying94 hj0 hy0 hy1 hy2 rfl (by decide) _ _ _ rfl (World.ownsRow.alloc hTA _) ⟨wr.heap.size + 1 + 1, 0, none⟩ 1 1 [.int .i64 (m : Int), .int .i64 (ind + p.n)] rfl rfl HCl1.out (by intro u hu; simp at hu; rcases hu with rfl | rfl <;> rfl) (by rw [rowOf_len]; unfold maxLen; omega) (by rw [rowOf_len]; omega) (by simp; omega) ?_; intro v3 w3 hown3 hgrow3 _ hat3)
            have hs3 := hgrow3.size
            simp only [World.size_alloc] at hs3
            have gB : wr.grownBy (((wr.alloc (.cells #[.int .i64 ((m : Int) + 1), .int .i64 ind] 93)).alloc (.cells #[.int .i64 p.k, .slice ta p.t.length tcap, .int .i64 p.n] 40)).alloc (.cells #[.int .i64 (m : Int), .int .i64 (ind + p.n)] 93)) none := grown_trans HgA.out (World.grownBy_alloc _ _ _)
            obtain ⟨hT3, _⟩ := own_item (m, ind + p.n) _ (by simp; omega) hTA hown3 (by rw [rowOf_len]) hgrow3
            rw [← rowOf_cons (⟨y, n, ind + p.n⟩, m) its] at hT3
            have hO3 := own_kept (HO.out.later gB) hgrow3 (fun k h e => HAp.out k h e)
            have hM3 := met_kept (HM.out.later gB) hgrow3 (fun k e => by have := hrlt k e; omega)
            have hG3 := gg_row (gg_more HGG.out gB) hgrow3 (fun k e => (hrlt k e).1)
            have hAp3 := ap_push HAp.out hat3 (fun g h => by have := holt g h; simp; omega)
            go_roundw
            case rel => exact ⟨(⟨y, n, ind + p.n⟩, m) :: its, out, met, col, rfl, rfl, hO3, hM3, hT3, hAp3, HI2.out, HS2.out, hG3⟩
            case measure =>
              rw [HMu.out, mu_tos _ hT3]
              exact HmuD.out
        · rw [if_neg (by omega)] at hstep
          have HStep : Hid _ := hstep
          have hsz8 : cntG (.un p y) = cntG y + 1 := by simp only [cntG]; rw [if_pos hk8]
          have hnc : n + cntG y < gn := by
            obtain ⟨a0, hsg, hn0⟩ := HFit.out.seg
            have h1 := grp_seg hsg
            simp only at h1 hn0
            have h2 : grp doc (m + 1) ≤ grp doc doc.length := by
              unfold grp
              have : List.Sublist ((doc.take (m + 1)).filter (fun p => p.k == 8)) ((doc.take doc.length).filter (fun p => p.k == 8)) := List.Sublist.filter _ (by rw [List.take_length]; exact List.take_sublist _ _)
              exact this.length_le
            rw [HGN.out]
            omega
          have HML : Hid (gn = met.length) := HI.out.ml.symm
          have hncg : n + cntG (.un p y) ≤ gn := by rw [hsz8]; omega
          obtain ⟨ay, hsy, hny⟩ := hfG.seg
          simp only at hsy hny
          obtain ⟨gb', goff', gcap', hgva', hgc'⟩ := rd_at (HGr.out.keep hgA) (grps_at doc doc.length m (by omega))
          cases hgva'
          rw [hgm] at hgc'
          have hF := l2flat_any _ sv _ doc (startsOf doc) hd hall y ay m hsy _ (.slice none 0 0) [] (Nat.le_refl _) ((HVr.out.keep hgA).wide (by have := hgA.size; omega)) ((HSr.out.keep hgA).wide (by have := hgA.size; omega)) (World.ownsRow_nil _ _ _ _) (by simp; omega)
          have hgl4 : m < (grps doc doc.length).length := by rw [grps_len]; omega
          have HI2 : Hid (LInv doc (startsOf doc) gn ((⟨y, n, ind⟩, m) :: its) out (met.set (n + cntG y) 2) col) := by
            refine HI.out.turn (xs := [(⟨y, n, ind⟩, m)]) ?_ (by simp only [sI_cons, sI_nil, sz]; omega) (by simp)
            intro x hx
            simp only [List.mem_cons, List.not_mem_nil, or_false] at hx
            subst hx
            exact hfG
          have HmuD : Hid (muS (startsOf doc) ((⟨y, n, ind⟩, m) :: its) < muS (startsOf doc) ((⟨.un p y, n, ind⟩, m + 1) :: its)) := by
            unfold Hid
            simp only [muS_cons]
            omega
          have HmuD0 : Hid (muS (startsOf doc) its < muS (startsOf doc) ((⟨.un p y, n, ind⟩, m + 1) :: its)) := by
            unfold Hid
            simp only [muS_cons]
            omega
          have q1 : (p.k == 1) = false := by rw [hk8]; rfl
          have q2 : (p.k == 2) = false := by rw [hk8]; rfl
          have q3 : (p.k == 3) = false := by rw [hk8]; rfl
          have q4 : (p.k == 4) = false := by rw [hk8]; rfl
          have q5 : (p.k == 5) = false := by rw [hk8]; rfl
          have q6 : (p.k == 6) = false := by rw [hk8]; rfl
          have q7 : (p.k == 7) = false := by rw [hk8]; rfl
          have q8 : (p.k == 8) = true := by rw [hk8]; rfl
          have q9 : (p.k == 9) = false := by rw [hk8]; rfl
          have HFG : Hid (FitI doc (startsOf doc) ⟨y, n, ind⟩ m) := hfG
          have HSy : Hid (Seg doc (startsOf doc) y ay m) := hsy
          have HNy : Hid (n = grp doc ay) := hny
          clear hk8 hstep hat hpj hp har hgA hcast HS hfG hfN hgm hmu1 hmu2 hsz8 hsy hny hTA
          subst htv
          generalize n + cntG y = gi at *
          generalize (grps doc doc.length).length = gl at *
          cases hfl : flatT y [] with
          | none =>
            rw [hfl] at hF
            have hSt := HStep.out
            rw [hfl] at hSt
            rcases HGWr.out with ⟨rfl, rfl⟩ | ⟨rfl, g, rfl, hg1, hg2⟩
            · as_aux_lemma =>
                have HS2 : Hid (layL width none (itT ((⟨y, n, ind⟩, m) :: its)) out (met.set gi 2) col = R) := hSt.symm
                clear HStep hfl hSt
                go_wp2_with fail
                refine hF.mono ?_
                rintro e w3 ⟨bel3, rfl⟩
                have g3 := grown_of_below bel3
                have hs3 := g3.size
                simp only [World.size_alloc] at hs3
                have y0w3 := g3.cell (a := ⟨wr.heap.size, 0, none⟩) (v := .int .i64 ((m : Int) + 1)) (by simp [go_sem]) (by simp)
                have y1w3 := g3.cell (a := ⟨wr.heap.size, 1, none⟩) (v := .int .i64 ind) (by simp [go_sem]) (by simp)
                have gB3 : wr.grownBy w3 none := grown_trans HgA.out g3

                obtain ⟨mx, hmx⟩ : ∃ mx, met[gi]? = some mx := ⟨_, List.getElem?_eq_getElem (by have := HML.out; omega)⟩
                have hMc := HM.out.later gB3
                obtain ⟨mc, mf⟩ := hMc.at HML.out hmx
                obtain ⟨hMs, hgs1⟩ := hMc.put HML.out gi 2
                have hsz1 : (w3.setCell ⟨w2.heap.size, gi, none⟩ (.int .i64 2)).heap.size = w3.heap.size := by simp
                have hTs : OwT w0.heap.size (w3.setCell ⟨w2.heap.size, gi, none⟩ (.int .i64 2)) (.slice (some ⟨rg, 0, none⟩) its.length rcap) (rowOf its) := its_kept (HT.out.later gB3) hgs1 (fun e => absurd (Option.some.inj e) (by have := hrlt rg rfl; omega))
                have hOs := own_kept (HO.out.later gB3) hgs1 (fun k h e => absurd (Option.some.inj e) (by have := holt k h; omega))
                have hGs : w0.grownBy (w3.setCell ⟨w2.heap.size, gi, none⟩ (.int .i64 2)) (some w2.heap.size) := grown_trans (gg_more HGG.out gB3) hgs1
                have HMs := hide hMs
                have HTs := hide hTs
                have HOs := hide hOs
                have HGs := hide hGs
                have hcl1 := cells_duo (w3.setCell ⟨w2.heap.size, gi, none⟩ (.int .i64 2)) (.int .i64 (m : Int)) (.int .i64 ind) 93
                rw [hsz1] at hcl1
                have HCl1 : Hid _ := hcl1
                have hgsw : w3.heap.size ≤ (w3.setCell ⟨w2.heap.size, gi, none⟩ (.int .i64 2)).heap.size := by omega
                clear hcl1 hMs hTs hOs hGs hgs1 hMc hmx HM HT HO HGG hsz1 HI HFG HSy HNy HVr HSr HGr HGWr HGN HFit hall
                clear g3 bel3 gB3 hF HgA

                go_wp2_with (at_builtin; refine wpList_append_own_at _ rfl _ _ 94 rfl w0.heap.size 93 j0 (.agg #[.int .i64 0, .int .i64 0]) 2 16 Tryd.underlying94 hj0 hy0 hy1 hy2 rfl (by decide) _ _ _ rfl (World.ownsRow.alloc HTs.out _) ⟨w3.heap.size, 0, none⟩ 1 1 [.int .i64 (m : Int), .int .i64 ind] rfl rfl HCl1.out (by intro u hu; simp at hu; rcases hu with rfl | rfl <;> rfl) (by rw [rowOf_len]; unfold maxLen; omega) (by rw [rowOf_len]; omega) (by simp; omega) ?_; intro v9 w9 hown9 hgrow9 _ hat9)
                have gC : (w3.setCell ⟨w2.heap.size, gi, none⟩ (.int .i64 2)).grownBy ((w3.setCell ⟨w2.heap.size, gi, none⟩ (.int .i64 2)).alloc (.cells #[.int .i64 (m : Int), .int .i64 ind] 93)) none := World.grownBy_alloc _ _ _
                obtain ⟨hT9, _⟩ := own_item (m, ind) _ (by simp; omega) HTs.out hown9 (by rw [rowOf_len]) hgrow9
                rw [← rowOf_cons (⟨y, n, ind⟩, m) its] at hT9
                have hO9 := own_kept (HOs.out.later gC) hgrow9 (fun k h e => HAp.out k h e)
                have hM9 := met_kept (HMs.out.later gC) hgrow9 (fun k e => by have := hrlt k e; omega)
                have hG9 := gg_row (gg_more HGs.out gC) hgrow9 (fun k e => (hrlt k e).1)
                have hAp9 := ap_push HAp.out hat9 (fun g h => by have := holt g h; simp; omega)
                go_roundw
                case rel => exact ⟨(⟨y, n, ind⟩, m) :: its, out, met.set gi 2, col, rfl, rfl, hO9, hM9, hT9, hAp9, HI2.out, HS2.out, hG9⟩
                case measure =>
                  rw [HMu.out, mu_tos _ hT9]
                  exact HmuD.out

            · as_aux_lemma =>
                obtain ⟨gx, hgx⟩ : ∃ gx, g[gi]? = some gx := ⟨_, List.getElem?_eq_getElem (by have := HML.out; omega)⟩
                simp only [hgx, Option.getD_some] at hSt
                obtain ⟨vb, voff, vcap, hvv, hvc⟩ := rd_at (hg1.keep HgA.out) hgx
                have hgl5 := (List.getElem?_eq_some_iff.1 hgx).1
                subst hvv
                clear HStep hfl hgx hg1 HGWr
                have HG2 : Hid (g.length = gn) := hg2
                clear hg2
                generalize g.length = gll at *
                by_cases hx1 : gx = 1
                · have HS2 : Hid (R = none) := by unfold Hid; rw [hSt, if_pos hx1]
                  have e1 : (gx == 1) = true := by rw [hx1]; rfl
                  clear hSt hx1
                  go_wp2_with fail
                  refine hF.mono ?_
                  rintro e w3 ⟨bel3, rfl⟩
                  have g3 := grown_of_below bel3
                  have hvc3 := g3.cell hvc (by simp)
                  have HEnd : Hid (w.grownBy w3 none) := grown_new hgw.out (gg_more HGG.out (grown_trans HgA.out g3)) (fun j hj => by cases hj; omega)
                  clear hvc g3 bel3 hF
                  go_wp2
                  go_ret3
                  rw [HS2.out]
                  exact ⟨rfl, HEnd.out⟩
                by_cases hx2 : gx = 2
                · have HS2 : Hid (layL width (some g) (itT ((⟨y, n, ind⟩, m) :: its)) out (met.set gi 2) col = R) := by unfold Hid; rw [hSt, if_neg hx1, if_pos hx2]; rfl
                  have e1 : (gx == 1) = false := by rw [hx2]; rfl
                  have e2 : (gx != 2) = false := by rw [hx2]; rfl
                  clear hSt hx1 hx2
                  go_wp2_with fail
                  refine hF.mono ?_
                  rintro e w3 ⟨bel3, rfl⟩
                  have g3 := grown_of_below bel3
                  have hvc3 := g3.cell hvc (by simp)
                  have hs3 := g3.size
                  simp only [World.size_alloc] at hs3
                  have y0w3 := g3.cell (a := ⟨wr.heap.size, 0, none⟩) (v := .int .i64 ((m : Int) + 1)) (by simp [go_sem]) (by simp)
                  have y1w3 := g3.cell (a := ⟨wr.heap.size, 1, none⟩) (v := .int .i64 ind) (by simp [go_sem]) (by simp)
                  have gB3 : wr.grownBy w3 none := grown_trans HgA.out g3

                  obtain ⟨mx, hmx⟩ : ∃ mx, met[gi]? = some mx := ⟨_, List.getElem?_eq_getElem (by have := HML.out; omega)⟩
                  have hMc := HM.out.later gB3
                  obtain ⟨mc, mf⟩ := hMc.at HML.out hmx
                  obtain ⟨hMs, hgs1⟩ := hMc.put HML.out gi 2
                  have hsz1 : (w3.setCell ⟨w2.heap.size, gi, none⟩ (.int .i64 2)).heap.size = w3.heap.size := by simp
                  have hTs : OwT w0.heap.size (w3.setCell ⟨w2.heap.size, gi, none⟩ (.int .i64 2)) (.slice (some ⟨rg, 0, none⟩) its.length rcap) (rowOf its) := its_kept (HT.out.later gB3) hgs1 (fun e => absurd (Option.some.inj e) (by have := hrlt rg rfl; omega))
                  have hOs := own_kept (HO.out.later gB3) hgs1 (fun k h e => absurd (Option.some.inj e) (by have := holt k h; omega))
                  have hGs : w0.grownBy (w3.setCell ⟨w2.heap.size, gi, none⟩ (.int .i64 2)) (some w2.heap.size) := grown_trans (gg_more HGG.out gB3) hgs1
                  have HMs := hide hMs
                  have HTs := hide hTs
                  have HOs := hide hOs
                  have HGs := hide hGs
                  have hcl1 := cells_duo (w3.setCell ⟨w2.heap.size, gi, none⟩ (.int .i64 2)) (.int .i64 (m : Int)) (.int .i64 ind) 93
                  rw [hsz1] at hcl1
                  have HCl1 : Hid _ := hcl1
                  have hgsw : w3.heap.size ≤ (w3.setCell ⟨w2.heap.size, gi, none⟩ (.int .i64 2)).heap.size := by omega
                  clear hcl1 hMs hTs hOs hGs hgs1 hMc hmx HM HT HO HGG hsz1 HI HFG HSy HNy HVr HSr HGr HGN HFit hall
                  clear g3 bel3 gB3 hF HgA hvc

                  go_wp2_with (at_builtin; refine wpList_append_own_at _ rfl _ _ 94 rfl w0.heap.size 93 j0 (.agg #[.int .i64 0, .int .i64 0]) 2 16 Tryd.underlying94 hj0 hy0 hy1 hy2 rfl (by decide) _ _ _ rfl (World.ownsRow.alloc HTs.out _) ⟨w3.heap.size, 0, none⟩ 1 1 [.int .i64 (m : Int), .int .i64 ind] rfl rfl HCl1.out (by intro u hu; simp at hu; rcases hu with rfl | rfl <;> rfl) (by rw [rowOf_len]; unfold maxLen; omega) (by rw [rowOf_len]; omega) (by simp; omega) ?_; intro v9 w9 hown9 hgrow9 _ hat9)
                  have gC : (w3.setCell ⟨w2.heap.size, gi, none⟩ (.int .i64 2)).grownBy ((w3.setCell ⟨w2.heap.size, gi, none⟩ (.int .i64 2)).alloc (.cells #[.int .i64 (m : Int), .int .i64 ind] 93)) none := World.grownBy_alloc _ _ _
                  obtain ⟨hT9, _⟩ := own_item (m, ind) _ (by simp; omega) HTs.out hown9 (by rw [rowOf_len]) hgrow9
                  rw [← rowOf_cons (⟨y, n, ind⟩, m) its] at hT9
                  have hO9 := own_kept (HOs.out.later gC) hgrow9 (fun k h e => HAp.out k h e)
                  have hM9 := met_kept (HMs.out.later gC) hgrow9 (fun k e => by have := hrlt k e; omega)
                  have hG9 := gg_row (gg_more HGs.out gC) hgrow9 (fun k e => (hrlt k e).1)
                  have hAp9 := ap_push HAp.out hat9 (fun g h => by have := holt g h; simp; omega)
                  go_roundw
                  case rel => exact ⟨(⟨y, n, ind⟩, m) :: its, out, met.set gi 2, col, rfl, rfl, hO9, hM9, hT9, hAp9, HI2.out, HS2.out, hG9⟩
                  case measure =>
                    rw [HMu.out, mu_tos _ hT9]
                    exact HmuD.out

                · have HS2 : Hid (R = none) := by unfold Hid; rw [hSt, if_neg hx1, if_neg hx2]
                  have e1 : (gx == 1) = false := by simpa using hx1
                  have e2 : (gx != 2) = true := by simpa using hx2
                  clear hSt hx1 hx2
                  go_wp2_with fail
                  refine hF.mono ?_
                  rintro e w3 ⟨bel3, rfl⟩
                  have g3 := grown_of_below bel3
                  have hvc3 := g3.cell hvc (by simp)
                  have HEnd : Hid (w.grownBy w3 none) := grown_new hgw.out (gg_more HGG.out (grown_trans HgA.out g3)) (fun j hj => by cases hj; omega)
                  clear hvc g3 bel3 hF
                  go_wp2
                  go_ret3
                  rw [HS2.out]
                  exact ⟨rfl, HEnd.out⟩
          | some text =>
            rw [hfl] at hF
            have hSt := HStep.out
            rw [hfl] at hSt
            have htx := flatT_len y [] text hfl
            simp only [List.length_nil, Nat.zero_add] at htx
            have HBt : Hid (Bys text) := flatT_bys hd.bys y ay m [] text HSy.out (by intro z hz; cases hz) hfl
            have hwd := width_bd text
            have hbh := behind_le width_bd (trs (itT its))
            have hsI : szs (trs (itT its)) ≤ 140000 := by have := htt; unfold sI at this; omega
            have HB4 : Hid (∀ W, wr.grownBy W none → Calls Tryd.prog 40 #[.slice (some ⟨bl, off, none⟩) doc.length cap, sv, .slice (some ⟨rg, 0, none⟩) its.length rcap] W fun e w' => e = .returned (.int .i64 (behind (trs (itT its)))) ∧ W.grownBy w' none) := by
              intro W hW
              have := l3behind_any _ sv _ w2.heap.size doc (startsOf doc) hd (trs (itT its)).reverse (rowOf its) (fits_of (fun x hx => HI.out.fit x (List.mem_cons_of_mem _ hx))) (by rw [szs_rev]; exact hsI) W (by have := hW.size; omega) (HVr.out.keep hW) (HSr.out.keep hW) ((HT.out.later hW).rd)
              rw [List.reverse_reverse] at this
              exact this
            have HIf : Hid (LInv doc (startsOf doc) gn its (out ++ text) (markF (.un p y) n met) (col + widthR text)) :=
              (HI.out.pop (sz_pos _) (by simp only [sz, List.length_append]; omega) (.inl (by simp only [sz]; omega))).met (markF_len _ _ _)
            have HMk : Hid (∀ W, wr.grownBy W none → Calls Tryd.prog 41 #[.slice (some ⟨bl, off, none⟩) doc.length cap, sv, .slice (some ⟨gb, goff, none⟩) gl gcap, .int .i64 ((m : Int) + 1), .slice (some ⟨w2.heap.size, 0, none⟩) gn gn] W fun e w' => e = .returned (.slice (some ⟨w2.heap.size, 0, none⟩) gn gn) ∧ OwI w2.heap.size w' (.slice (some ⟨w2.heap.size, 0, none⟩) gn gn) (markF (.un p y) n met) ∧ W.grownBy w' (some w2.heap.size)) := by
              intro W hW
              obtain ⟨a0, hsg, hn0⟩ := HFit.out.seg
              simp only at hsg hn0
              have := l3markFlat_any _ sv _ w2.heap.size doc (startsOf doc) hd (.un p y) a0 (m + 1) hsg W w2.heap.size gn gn met (by have := hW.size; omega) (HVr.out.keep hW) (HSr.out.keep hW) (HGr.out.keep hW) (HM.out.later hW) HML.out (by rw [← hn0]; exact hncg)
              rw [← hn0, show ((m + 1 : Nat) : Int) = (m : Int) + 1 by omega] at this
              exact this
            clear HVr HSr HGr HStep hfl HFit HSy HNy HFG HGN hall
            rcases HGWr.out with ⟨rfl, rfl⟩ | ⟨rfl, g, rfl, hg1, hg2⟩
            · by_cases hfit : col + widthR text + behind (trs (itT its)) ≤ width
              · as_aux_lemma =>
                  have HS2 : Hid (layL width none (itT its) (out ++ text) (markF (.un p y) n met) (col + widthR text) = R) := by
                    unfold Hid; rw [hSt]; exact (if_pos hfit).symm
                  clear hSt HGWr HI2 HmuD
                  go_wp2_with fail
                  refine hF.mono ?_
                  rintro e w3 ⟨bel3, v3, rfl, ho3⟩
                  have g3 := grown_of_below bel3
                  have hs3 := g3.size
                  simp only [World.size_alloc] at hs3
                  have gB3 : wr.grownBy w3 none := grown_trans HgA.out g3
                  have hW3 := specTextWidth_any v3 text w3 ho3.rd HBt.out (by omega)
                  have HO3 := hide ho3
                  have y0w3 := g3.cell (a := ⟨wr.heap.size, 0, none⟩) (v := .int .i64 ((m : Int) + 1)) (by simp [go_sem]) (by simp)
                  have y1w3 := g3.cell (a := ⟨wr.heap.size, 1, none⟩) (v := .int .i64 ind) (by simp [go_sem]) (by simp)
                  clear ho3 hF bel3
                  obtain ⟨ta3, tcap3, hv3, _, _⟩ := row_form HO3.out
                  subst hv3
                  generalize hwdE : widthR text = wd at *
                  have HWd := hide hwdE
                  clear hwdE
                  generalize behind (trs (itT its)) = bh at *
                  go_wp2_with fail
                  refine hW3.mono ?_
                  rintro e w4 ⟨rfl, g4⟩
                  have gB4 : wr.grownBy w4 none := grown_trans gB3 g4
                  have hs4 := g4.size
                  have hB4 := HB4.out w4 gB4
                  have y0w4 := g4.cell y0w3 (by simp)
                  have y1w4 := g4.cell y1w3 (by simp)
                  clear hW3 y0w3 y1w3
                  go_wp2_with fail
                  refine hB4.mono ?_
                  rintro e w5 ⟨rfl, g5⟩
                  have gB5 : wr.grownBy w5 none := grown_trans gB4 g5
                  have hs5 := g5.size
                  have y0w5 := g5.cell y0w4 (by simp)
                  have y1w5 := g5.cell y1w4 (by simp)
                  have HO5 := hide ((HO3.out.later g4).later g5)
                  clear hB4 y0w4 y1w4 HB4
                  have hMk := HMk.out w5 gB5
                  go_wp2_with fail
                  refine hMk.mono ?_
                  rintro e w6 ⟨rfl, o6, g6⟩
                  have hs6 := g6.size
                  have hT5 := World.ownsRow.lt HO5.out
                  have ho6 := own_kept HO5.out g6 (fun k h e => absurd (Option.some.inj e) (by have := hT5 k h; simp only [World.size_alloc] at this; omega))
                  have hOut6 := own_kept (HO.out.later gB5) g6 (fun k h e => absurd (Option.some.inj e) (by have := holt k h; omega))
                  obtain ⟨ov', w7, hrun7, hO7, hg7, hat7⟩ := append_text w0.heap.size w6.heap.size w6 _ _ out text hOut6 ho6.rd (by omega) (by omega)
                  have ho7 := own_kept ho6 hg7 (fun k h e => by have h1 := hT5 k h; have h2 := holt k e; simp only [World.size_alloc] at h1; omega)
                  have hW7 := specTextWidth_any _ text w7 ho7.rd HBt.out (by omega)
                  rw [HWd.out] at hW7
                  have HO7 := hide hO7
                  have HM7 := hide (met_kept o6 hg7 (fun k e => by have := holt k e; omega))
                  have HT7 := hide (its_kept (its_kept (HT.out.later gB5) g6 (fun e => absurd (Option.some.inj e) (by have := hrlt rg rfl; omega))) hg7 (fun e => HAp.out rg e rfl))
                  have HAp7 := hide (ap_text HAp.out hat7 (fun g h => by have := hrlt g h; omega))
                  have HG7 := hide (gg_row (grown_trans (gg_more HGG.out gB5) g6) hg7 (fun k e => (holt k e).1))
                  clear hMk o6 g6 ho6 hOut6 hO7 hg7 hat7 ho7 hT5 HMk
                  go_wp2_with (at_builtin; refine wpList_append_known rfl _ _ 22 rfl _ _ _ _ rfl rfl hrun7 ?_)
                  refine hW7.mono ?_
                  rintro e w8 ⟨rfl, g8⟩
                  go_wp2
                  go_roundw
                  case rel => exact ⟨its, out ++ text, markF (.un p y) n met, col + wd, by go_num, rfl, HO7.out.later g8, HM7.out.later g8, HT7.out.later g8, HAp7.out, HIf.out, HS2.out, gg_more HG7.out g8⟩
                  case measure =>
                    rw [HMu.out, mu_tos _ (HT7.out.later g8)]
                    exact HmuD0.out
              · as_aux_lemma =>
                  have HS2 : Hid (layL width none (itT ((⟨y, n, ind⟩, m) :: its)) out (met.set gi 2) col = R) := by
                    unfold Hid; rw [hSt]; exact (if_neg hfit).symm
                  clear hSt HGWr HIf HmuD0 HMk
                  go_wp2_with fail
                  refine hF.mono ?_
                  rintro e w3 ⟨bel3, v3, rfl, ho3⟩
                  have g3 := grown_of_below bel3
                  have hs3 := g3.size
                  simp only [World.size_alloc] at hs3
                  have gB3 : wr.grownBy w3 none := grown_trans HgA.out g3
                  have hW3 := specTextWidth_any v3 text w3 ho3.rd HBt.out (by omega)
                  have HO3 := hide ho3
                  have y0w3 := g3.cell (a := ⟨wr.heap.size, 0, none⟩) (v := .int .i64 ((m : Int) + 1)) (by simp [go_sem]) (by simp)
                  have y1w3 := g3.cell (a := ⟨wr.heap.size, 1, none⟩) (v := .int .i64 ind) (by simp [go_sem]) (by simp)
                  clear ho3 hF bel3
                  obtain ⟨ta3, tcap3, hv3, _, _⟩ := row_form HO3.out
                  subst hv3
                  generalize hwdE : widthR text = wd at *
                  have HWd := hide hwdE
                  clear hwdE
                  generalize behind (trs (itT its)) = bh at *
                  go_wp2_with fail
                  refine hW3.mono ?_
                  rintro e w4 ⟨rfl, g4⟩
                  have gB4 : wr.grownBy w4 none := grown_trans gB3 g4
                  have hs4 := g4.size
                  have hB4 := HB4.out w4 gB4
                  have y0w4 := g4.cell y0w3 (by simp)
                  have y1w4 := g4.cell y1w3 (by simp)
                  clear hW3 y0w3 y1w3
                  go_wp2_with fail
                  refine hB4.mono ?_
                  rintro e w5 ⟨rfl, g5⟩
                  have gB5 : wr.grownBy w5 none := grown_trans gB4 g5
                  have hs5 := g5.size
                  have y0w5 := g5.cell y0w4 (by simp)
                  have y1w5 := g5.cell y1w4 (by simp)
                  have HO5 := hide ((HO3.out.later g4).later g5)
                  clear hB4 y0w4 y1w4 HB4
                  obtain ⟨mx, hmx⟩ : ∃ mx, met[gi]? = some mx := ⟨_, List.getElem?_eq_getElem (by have := HML.out; omega)⟩
                  have hMc := HM.out.later gB5
                  obtain ⟨mc, mf⟩ := hMc.at HML.out hmx
                  obtain ⟨hMs, hgs1⟩ := hMc.put HML.out gi 2
                  have hsz1 : (w5.setCell ⟨w2.heap.size, gi, none⟩ (.int .i64 2)).heap.size = w5.heap.size := by simp
                  have hTs : OwT w0.heap.size (w5.setCell ⟨w2.heap.size, gi, none⟩ (.int .i64 2)) (.slice (some ⟨rg, 0, none⟩) its.length rcap) (rowOf its) := its_kept (HT.out.later gB5) hgs1 (fun e => absurd (Option.some.inj e) (by have := hrlt rg rfl; omega))
                  have hOs := own_kept (HO.out.later gB5) hgs1 (fun k h e => absurd (Option.some.inj e) (by have := holt k h; omega))
                  have hGs : w0.grownBy (w5.setCell ⟨w2.heap.size, gi, none⟩ (.int .i64 2)) (some w2.heap.size) := grown_trans (gg_more HGG.out gB5) hgs1
                  have HMs := hide hMs
                  have HTs := hide hTs
                  have HOs := hide hOs
                  have HGs := hide hGs
                  have hcl1 := cells_duo (w5.setCell ⟨w2.heap.size, gi, none⟩ (.int .i64 2)) (.int .i64 (m : Int)) (.int .i64 ind) 93
                  rw [hsz1] at hcl1
                  have HCl1 : Hid _ := hcl1
                  have hgsw : w5.heap.size ≤ (w5.setCell ⟨w2.heap.size, gi, none⟩ (.int .i64 2)).heap.size := by omega
                  clear hcl1 hMs hTs hOs hGs hgs1 hMc hmx HM HT HO HGG hsz1 HI
                  clear g3 gB3 gB4 gB5 g4 g5 HgA HO3 HO5
                  go_wp2_with (at_builtin; refine wpList_append_own_at _ rfl _ _ 94 rfl w0.heap.size 93 j0 (.agg #[.int .i64 0, .int .i64 0]) 2 16 Tryd.underlying94 hj0 hy0 hy1 hy2 rfl (by decide) _ _ _ rfl (World.ownsRow.alloc HTs.out _) ⟨w5.heap.size, 0, none⟩ 1 1 [.int .i64 (m : Int), .int .i64 ind] rfl rfl HCl1.out (by intro u hu; simp at hu; rcases hu with rfl | rfl <;> rfl) (by rw [rowOf_len]; unfold maxLen; omega) (by rw [rowOf_len]; omega) (by simp; omega) ?_; intro v9 w9 hown9 hgrow9 _ hat9)
                  have gC : (w5.setCell ⟨w2.heap.size, gi, none⟩ (.int .i64 2)).grownBy ((w5.setCell ⟨w2.heap.size, gi, none⟩ (.int .i64 2)).alloc (.cells #[.int .i64 (m : Int), .int .i64 ind] 93)) none := World.grownBy_alloc _ _ _
                  obtain ⟨hT9, _⟩ := own_item (m, ind) _ (by simp; omega) HTs.out hown9 (by rw [rowOf_len]) hgrow9
                  rw [← rowOf_cons (⟨y, n, ind⟩, m) its] at hT9
                  have hO9 := own_kept (HOs.out.later gC) hgrow9 (fun k h e => HAp.out k h e)
                  have hM9 := met_kept (HMs.out.later gC) hgrow9 (fun k e => by have := hrlt k e; omega)
                  have hG9 := gg_row (gg_more HGs.out gC) hgrow9 (fun k e => (hrlt k e).1)
                  have hAp9 := ap_push HAp.out hat9 (fun g h => by have := holt g h; simp; omega)
                  go_roundw
                  case rel => exact ⟨(⟨y, n, ind⟩, m) :: its, out, met.set gi 2, col, rfl, rfl, hO9, hM9, hT9, hAp9, HI2.out, HS2.out, hG9⟩
                  case measure =>
                    rw [HMu.out, mu_tos _ hT9]
                    exact HmuD.out

            · obtain ⟨gx, hgx⟩ : ∃ gx, g[gi]? = some gx := ⟨_, List.getElem?_eq_getElem (by have := HML.out; omega)⟩
              simp only [hgx, Option.getD_some] at hSt
              obtain ⟨vb, voff, vcap, hvv, hvc⟩ := rd_at hg1 hgx
              have hgl5 := (List.getElem?_eq_some_iff.1 hgx).1
              subst hvv
              have HG2 : Hid (g.length = gn) := hg2
              clear hgx hg1 HGWr hg2
              generalize g.length = gll at *
              by_cases hx1 : gx = 1
              · as_aux_lemma =>
                  have HS2 : Hid (layL width (some g) (itT its) (out ++ text) (markF (.un p y) n met) (col + widthR text) = R) := by
                    unfold Hid; rw [hSt, if_pos hx1]
                  have e1 : (gx == 1) = true := by rw [hx1]; rfl
                  clear hSt hx1 HI2 HmuD
                  go_wp2_with fail
                  refine hF.mono ?_
                  rintro e w3 ⟨bel3, v3, rfl, ho3⟩
                  have g3 := grown_of_below bel3
                  have hs3 := g3.size
                  simp only [World.size_alloc] at hs3
                  have gB3 : wr.grownBy w3 none := grown_trans HgA.out g3
                  have hW3 := specTextWidth_any v3 text w3 ho3.rd HBt.out (by omega)
                  have HO3 := hide ho3
                  have y0w3 := g3.cell (a := ⟨wr.heap.size, 0, none⟩) (v := .int .i64 ((m : Int) + 1)) (by simp [go_sem]) (by simp)
                  have y1w3 := g3.cell (a := ⟨wr.heap.size, 1, none⟩) (v := .int .i64 ind) (by simp [go_sem]) (by simp)
                  clear ho3 hF bel3
                  obtain ⟨ta3, tcap3, hv3, _, _⟩ := row_form HO3.out
                  subst hv3
                  generalize hwdE : widthR text = wd at *
                  have HWd := hide hwdE
                  clear hwdE
                  generalize behind (trs (itT its)) = bh at *
                  go_wp2_with fail
                  refine hW3.mono ?_
                  rintro e w4 ⟨rfl, g4⟩
                  have gB4 : wr.grownBy w4 none := grown_trans gB3 g4
                  have hs4 := g4.size
                  have hB4 := HB4.out w4 gB4
                  have y0w4 := g4.cell y0w3 (by simp)
                  have y1w4 := g4.cell y1w3 (by simp)
                  clear hW3 y0w3 y1w3
                  go_wp2_with fail
                  refine hB4.mono ?_
                  rintro e w5 ⟨rfl, g5⟩
                  have gB5 : wr.grownBy w5 none := grown_trans gB4 g5
                  have hs5 := g5.size
                  have y0w5 := g5.cell y0w4 (by simp)
                  have y1w5 := g5.cell y1w4 (by simp)
                  have HO5 := hide ((HO3.out.later g4).later g5)
                  clear hB4 y0w4 y1w4 HB4
                  have hvc5 := gB5.cell hvc (by simp)
                  have hMk := HMk.out w5 gB5
                  go_wp2_with fail
                  refine hMk.mono ?_
                  rintro e w6 ⟨rfl, o6, g6⟩
                  have hs6 := g6.size
                  have hT5 := World.ownsRow.lt HO5.out
                  have ho6 := own_kept HO5.out g6 (fun k h e => absurd (Option.some.inj e) (by have := hT5 k h; simp only [World.size_alloc] at this; omega))
                  have hOut6 := own_kept (HO.out.later gB5) g6 (fun k h e => absurd (Option.some.inj e) (by have := holt k h; omega))
                  obtain ⟨ov', w7, hrun7, hO7, hg7, hat7⟩ := append_text w0.heap.size w6.heap.size w6 _ _ out text hOut6 ho6.rd (by omega) (by omega)
                  have ho7 := own_kept ho6 hg7 (fun k h e => by have h1 := hT5 k h; have h2 := holt k e; simp only [World.size_alloc] at h1; omega)
                  have hW7 := specTextWidth_any _ text w7 ho7.rd HBt.out (by omega)
                  rw [HWd.out] at hW7
                  have HO7 := hide hO7
                  have HM7 := hide (met_kept o6 hg7 (fun k e => by have := holt k e; omega))
                  have HT7 := hide (its_kept (its_kept (HT.out.later gB5) g6 (fun e => absurd (Option.some.inj e) (by have := hrlt rg rfl; omega))) hg7 (fun e => HAp.out rg e rfl))
                  have HAp7 := hide (ap_text HAp.out hat7 (fun g h => by have := hrlt g h; omega))
                  have HG7 := hide (gg_row (grown_trans (gg_more HGG.out gB5) g6) hg7 (fun k e => (holt k e).1))
                  clear hMk o6 g6 ho6 hOut6 hO7 hg7 hat7 ho7 hT5 HMk
                  go_wp2_with (at_builtin; refine wpList_append_known rfl _ _ 22 rfl _ _ _ _ rfl rfl hrun7 ?_)
                  refine hW7.mono ?_
                  rintro e w8 ⟨rfl, g8⟩
                  go_wp2
                  go_roundw
                  case rel => exact ⟨its, out ++ text, markF (.un p y) n met, col + wd, by go_num, rfl, HO7.out.later g8, HM7.out.later g8, HT7.out.later g8, HAp7.out, HIf.out, HS2.out, gg_more HG7.out g8⟩
                  case measure =>
                    rw [HMu.out, mu_tos _ (HT7.out.later g8)]
                    exact HmuD0.out
              by_cases hx2 : gx = 2
              · as_aux_lemma =>
                  have HS2 : Hid (layL width (some g) (itT ((⟨y, n, ind⟩, m) :: its)) out (met.set gi 2) col = R) := by unfold Hid; rw [hSt, if_neg hx1, if_pos hx2]; rfl
                  have e1 : (gx == 1) = false := by rw [hx2]; rfl
                  have e2 : (gx != 2) = false := by rw [hx2]; rfl
                  clear hSt hx1 hx2 HIf HmuD0 HMk
                  go_wp2_with fail
                  refine hF.mono ?_
                  rintro e w3 ⟨bel3, v3, rfl, ho3⟩
                  have g3 := grown_of_below bel3
                  have hs3 := g3.size
                  simp only [World.size_alloc] at hs3
                  have gB3 : wr.grownBy w3 none := grown_trans HgA.out g3
                  have hW3 := specTextWidth_any v3 text w3 ho3.rd HBt.out (by omega)
                  have HO3 := hide ho3
                  have y0w3 := g3.cell (a := ⟨wr.heap.size, 0, none⟩) (v := .int .i64 ((m : Int) + 1)) (by simp [go_sem]) (by simp)
                  have y1w3 := g3.cell (a := ⟨wr.heap.size, 1, none⟩) (v := .int .i64 ind) (by simp [go_sem]) (by simp)
                  clear ho3 hF bel3
                  obtain ⟨ta3, tcap3, hv3, _, _⟩ := row_form HO3.out
                  subst hv3
                  generalize hwdE : widthR text = wd at *
                  have HWd := hide hwdE
                  clear hwdE
                  generalize behind (trs (itT its)) = bh at *
                  go_wp2_with fail
                  refine hW3.mono ?_
                  rintro e w4 ⟨rfl, g4⟩
                  have gB4 : wr.grownBy w4 none := grown_trans gB3 g4
                  have hs4 := g4.size
                  have hB4 := HB4.out w4 gB4
                  have y0w4 := g4.cell y0w3 (by simp)
                  have y1w4 := g4.cell y1w3 (by simp)
                  clear hW3 y0w3 y1w3
                  go_wp2_with fail
                  refine hB4.mono ?_
                  rintro e w5 ⟨rfl, g5⟩
                  have gB5 : wr.grownBy w5 none := grown_trans gB4 g5
                  have hs5 := g5.size
                  have y0w5 := g5.cell y0w4 (by simp)
                  have y1w5 := g5.cell y1w4 (by simp)
                  have HO5 := hide ((HO3.out.later g4).later g5)
                  clear hB4 y0w4 y1w4 HB4
                  have hvc5 := gB5.cell hvc (by simp)
                  obtain ⟨mx, hmx⟩ : ∃ mx, met[gi]? = some mx := ⟨_, List.getElem?_eq_getElem (by have := HML.out; omega)⟩
                  have hMc := HM.out.later gB5
                  obtain ⟨mc, mf⟩ := hMc.at HML.out hmx
                  obtain ⟨hMs, hgs1⟩ := hMc.put HML.out gi 2
                  have hsz1 : (w5.setCell ⟨w2.heap.size, gi, none⟩ (.int .i64 2)).heap.size = w5.heap.size := by simp
                  have hTs : OwT w0.heap.size (w5.setCell ⟨w2.heap.size, gi, none⟩ (.int .i64 2)) (.slice (some ⟨rg, 0, none⟩) its.length rcap) (rowOf its) := its_kept (HT.out.later gB5) hgs1 (fun e => absurd (Option.some.inj e) (by have := hrlt rg rfl; omega))
                  have hOs := own_kept (HO.out.later gB5) hgs1 (fun k h e => absurd (Option.some.inj e) (by have := holt k h; omega))
                  have hGs : w0.grownBy (w5.setCell ⟨w2.heap.size, gi, none⟩ (.int .i64 2)) (some w2.heap.size) := grown_trans (gg_more HGG.out gB5) hgs1
                  have HMs := hide hMs
                  have HTs := hide hTs
                  have HOs := hide hOs
                  have HGs := hide hGs
                  have hcl1 := cells_duo (w5.setCell ⟨w2.heap.size, gi, none⟩ (.int .i64 2)) (.int .i64 (m : Int)) (.int .i64 ind) 93
                  rw [hsz1] at hcl1
                  have HCl1 : Hid _ := hcl1
                  have hgsw : w5.heap.size ≤ (w5.setCell ⟨w2.heap.size, gi, none⟩ (.int .i64 2)).heap.size := by omega
                  clear hcl1 hMs hTs hOs hGs hgs1 hMc hmx HM HT HO HGG hsz1 HI
                  clear g3 gB3 gB4 gB5 g4 g5 HgA HO3 HO5
                  go_wp2_with (at_builtin; refine wpList_append_own_at _ rfl _ _ 94 rfl w0.heap.size 93 j0 (.agg #[.int .i64 0, .int .i64 0]) 2 16 Tryd.underlying94 hj0 hy0 hy1 hy2 rfl (by decide) _ _ _ rfl (World.ownsRow.alloc HTs.out _) ⟨w5.heap.size, 0, none⟩ 1 1 [.int .i64 (m : Int), .int .i64 ind] rfl rfl HCl1.out (by intro u hu; simp at hu; rcases hu with rfl | rfl <;> rfl) (by rw [rowOf_len]; unfold maxLen; omega) (by rw [rowOf_len]; omega) (by simp; omega) ?_; intro v9 w9 hown9 hgrow9 _ hat9)
                  have gC : (w5.setCell ⟨w2.heap.size, gi, none⟩ (.int .i64 2)).grownBy ((w5.setCell ⟨w2.heap.size, gi, none⟩ (.int .i64 2)).alloc (.cells #[.int .i64 (m : Int), .int .i64 ind] 93)) none := World.grownBy_alloc _ _ _
                  obtain ⟨hT9, _⟩ := own_item (m, ind) _ (by simp; omega) HTs.out hown9 (by rw [rowOf_len]) hgrow9
                  rw [← rowOf_cons (⟨y, n, ind⟩, m) its] at hT9
                  have hO9 := own_kept (HOs.out.later gC) hgrow9 (fun k h e => HAp.out k h e)
                  have hM9 := met_kept (HMs.out.later gC) hgrow9 (fun k e => by have := hrlt k e; omega)
                  have hG9 := gg_row (gg_more HGs.out gC) hgrow9 (fun k e => (hrlt k e).1)
                  have hAp9 := ap_push HAp.out hat9 (fun g h => by have := holt g h; simp; omega)
                  go_roundw
                  case rel => exact ⟨(⟨y, n, ind⟩, m) :: its, out, met.set gi 2, col, rfl, rfl, hO9, hM9, hT9, hAp9, HI2.out, HS2.out, hG9⟩
                  case measure =>
                    rw [HMu.out, mu_tos _ hT9]
                    exact HmuD.out

              · as_aux_lemma =>
                  have HS2 : Hid (R = none) := by unfold Hid; rw [hSt, if_neg hx1, if_neg hx2]
                  have e1 : (gx == 1) = false := by simpa using hx1
                  have e2 : (gx != 2) = true := by simpa using hx2
                  clear hSt hx1 hx2 HIf HmuD0 HMk
                  go_wp2_with fail
                  refine hF.mono ?_
                  rintro e w3 ⟨bel3, v3, rfl, ho3⟩
                  have g3 := grown_of_below bel3
                  have hs3 := g3.size
                  simp only [World.size_alloc] at hs3
                  have gB3 : wr.grownBy w3 none := grown_trans HgA.out g3
                  have hW3 := specTextWidth_any v3 text w3 ho3.rd HBt.out (by omega)
                  have HO3 := hide ho3
                  have y0w3 := g3.cell (a := ⟨wr.heap.size, 0, none⟩) (v := .int .i64 ((m : Int) + 1)) (by simp [go_sem]) (by simp)
                  have y1w3 := g3.cell (a := ⟨wr.heap.size, 1, none⟩) (v := .int .i64 ind) (by simp [go_sem]) (by simp)
                  clear ho3 hF bel3
                  obtain ⟨ta3, tcap3, hv3, _, _⟩ := row_form HO3.out
                  subst hv3
                  generalize hwdE : widthR text = wd at *
                  have HWd := hide hwdE
                  clear hwdE
                  generalize behind (trs (itT its)) = bh at *
                  go_wp2_with fail
                  refine hW3.mono ?_
                  rintro e w4 ⟨rfl, g4⟩
                  have gB4 : wr.grownBy w4 none := grown_trans gB3 g4
                  have hs4 := g4.size
                  have hB4 := HB4.out w4 gB4
                  have y0w4 := g4.cell y0w3 (by simp)
                  have y1w4 := g4.cell y1w3 (by simp)
                  clear hW3 y0w3 y1w3
                  go_wp2_with fail
                  refine hB4.mono ?_
                  rintro e w5 ⟨rfl, g5⟩
                  have gB5 : wr.grownBy w5 none := grown_trans gB4 g5
                  have hs5 := g5.size
                  have y0w5 := g5.cell y0w4 (by simp)
                  have y1w5 := g5.cell y1w4 (by simp)
                  have HO5 := hide ((HO3.out.later g4).later g5)
                  clear hB4 y0w4 y1w4 HB4
                  have hvc5 := gB5.cell hvc (by simp)
                  have HEnd : Hid (w.grownBy w5 none) := grown_new hgw.out (gg_more HGG.out gB5) (fun j hj => by cases hj; omega)
                  go_wp2
                  go_ret3
                  rw [HS2.out]
                  exact ⟨rfl, HEnd.out⟩
      | bin p y z =>
        obtain ⟨c, m, hb, hp, har, hsc, hcm, hfy, hfz⟩ := fit_bin HFit.out
        obtain ⟨hj, hpj⟩ := seg_at hp
        have hk' := ar2 har
        obtain ⟨bl, off, pcap, tv, hva, hbb, hat⟩ := (HVr.out.keep (World.grownBy_alloc wr (.cells #[.int .i64 (((m + 1 : Nat) : Int) + 1), .int .i64 ind] 93) none)).at (m + 1) hj
        cases hva
        rw [hpj] at hat
        have k0 := hat.k; have t0 := hat.t; have n0 := hat.n
        subst hb
        obtain ⟨ta, tcap, htv, htc, htm⟩ := hat.sl
        have hcast : (((m + 2 : Nat) : Int)) = ((m + 1 : Nat) : Int) + 1 := by omega
        rw [hcast] at c1
        obtain ⟨sb, soff, scap, hsva, hs0⟩ := rd_at HSr.out hsc
        have hstl := (List.getElem?_eq_some_iff.1 hsc).1
        have hgA : wr.grownBy ((wr.alloc (.cells #[.int .i64 (((m + 1 : Nat) : Int) + 1), .int .i64 ind] 93)).alloc (.cells #[.int .i64 p.k, tv, .int .i64 p.n] 40)) none := grown_trans (World.grownBy_alloc _ _ _) (World.grownBy_alloc _ _ _)
        have HgA : Hid _ := hgA
        have hsA := hgA.cell hs0 (by simp)
        have HFy : Hid (FitI doc (startsOf doc) ⟨y, n, ind⟩ c) := hfy
        have HFz : Hid (FitI doc (startsOf doc) ⟨z, n + cntG y, ind⟩ (m + 1)) := hfz
        have hTA := HT.out.later hgA
        have hmb2 := mu_bin HFit.out hsc
        have hmd : muS (startsOf doc) ((⟨y, n, ind⟩, c) :: (⟨z, n + cntG y, ind⟩, m + 1) :: its) < muS (startsOf doc) ((⟨.bin p y z, n, ind⟩, m + 2) :: its) := by
          simp only [muS_cons]
          omega
        have HmuD : Hid _ := hmd
        have HmuD2 : Hid (muS (startsOf doc) ((⟨y, n, ind⟩, c) :: its) < muS (startsOf doc) ((⟨.bin p y z, n, ind⟩, m + 2) :: its)) := by
          unfold Hid
          have : muS (startsOf doc) ((⟨y, n, ind⟩, c) :: its) ≤ muS (startsOf doc) ((⟨y, n, ind⟩, c) :: (⟨z, n + cntG y, ind⟩, m + 1) :: its) := by simp only [muS_cons]; omega
          omega
        simp only [sz] at htt hol hlo hhi
        have hstep := layL_bin width gs p y z n ind (itT its) out met col
        rw [← itT_cons (⟨.bin p y z, n, ind⟩, m + 2) its, HS.out] at hstep
        have HI6 : Hid (LInv doc (startsOf doc) gn ((⟨y, n, ind⟩, c) :: (⟨z, n + cntG y, ind⟩, m + 1) :: its) out met col) := by
          refine HI.out.turn (xs := [(⟨y, n, ind⟩, c), (⟨z, n + cntG y, ind⟩, m + 1)]) ?_ (by simp only [sI_cons, sI_nil, sz]; omega) rfl
          intro x hx
          simp only [List.mem_cons, List.not_mem_nil, or_false] at hx
          rcases hx with rfl | rfl
          · exact HFy.out
          · exact HFz.out
        have HI9 : Hid (LInv doc (startsOf doc) gn ((⟨y, n, ind⟩, c) :: its) out met col) := by
          refine HI.out.turn (xs := [(⟨y, n, ind⟩, c)]) ?_ (by simp only [sI_cons, sI_nil, sz]; omega) rfl
          intro x hx
          simp only [List.mem_cons, List.not_mem_nil, or_false] at hx
          subst hx
          exact HFy.out
        have ht1 : (((m + 1 : Nat) : Int) + 1 - 2) = (m : Int) := by omega
        have ht2 : (((m + 1 : Nat) : Int) - 1) = (m : Int) := by omega
        have hcm2 : c ≤ m := by omega
        have hm6 : m ≤ 1048576 := by omega
        have hwm : IntKind.i64.wrap (m : Int) = (m : Int) := by simp [IntKind.wrap, IntKind.bits, IntKind.signed]; omega
        have HSC : Hid ((startsOf doc)[m]? = some (c : Int)) := hsc
        clear hat hpj hp har hgA hcast hall HVr HGr HGWr HS hmd hmb2 hfy hfz hs0 hsc hcm HFit HI
        subst htv hsva
        generalize hmt : m + 1 = t at *
        rcases hk' with hk6 | hk9
        · as_aux_lemma =>
            have HS2 : Hid (layL width gs (itT ((⟨y, n, ind⟩, c) :: (⟨z, n + cntG y, ind⟩, t) :: its)) out met col = R) := by unfold Hid; rw [hstep, if_pos hk6]; rfl
            have q1 : (p.k == 1) = false := by rw [hk6]; rfl
            have q2 : (p.k == 2) = false := by rw [hk6]; rfl
            have q3 : (p.k == 3) = false := by rw [hk6]; rfl
            have q4 : (p.k == 4) = false := by rw [hk6]; rfl
            have q5 : (p.k == 5) = false := by rw [hk6]; rfl
            have q6 : (p.k == 6) = true := by rw [hk6]; rfl
            have q7 : (p.k == 7) = false := by rw [hk6]; rfl
            have q8 : (p.k == 8) = false := by rw [hk6]; rfl
            have q9 : (p.k == 9) = false := by rw [hk6]; rfl
            clear hk6 hstep HI9 HmuD2 hmt
            have hcl1 := cells_duo ((wr.alloc (.cells #[.int .i64 ((t : Int) + 1), .int .i64 ind] 93)).alloc (.cells #[.int .i64 p.k, .slice ta p.t.length tcap, .int .i64 p.n] 40)) (.int .i64 (t : Int)) (.int .i64 ind) 93
            simp only [World.size_alloc] at hcl1
            have HCl1 : Hid _ := hcl1
            clear hcl1
            go_wp2_with (at_builtin; refine wpList_append_own_at _ rfl _ _ 94 rfl w0.heap.size 93 j0 (.agg #[.int .i64 0, .int .i64 0]) 2 16 Tryd.underlying94 hj0 hy0 hy1 hy2 rfl (by decide) _ _ _ rfl (World.ownsRow.alloc hTA _) ⟨wr.heap.size + 1 + 1, 0, none⟩ 1 1 [.int .i64 (t : Int), .int .i64 ind] rfl rfl HCl1.out (by intro u hu; simp at hu; rcases hu with rfl | rfl <;> rfl) (by rw [rowOf_len]; unfold maxLen; omega) (by rw [rowOf_len]; omega) (by simp; omega) ?_)
            intro v3 w3 hown3 hgrow3 _ hat3
            have hs3 := hgrow3.size
            simp only [World.size_alloc] at hs3
            have gB : wr.grownBy (((wr.alloc (.cells #[.int .i64 ((t : Int) + 1), .int .i64 ind] 93)).alloc (.cells #[.int .i64 p.k, .slice ta p.t.length tcap, .int .i64 p.n] 40)).alloc (.cells #[.int .i64 (t : Int), .int .i64 ind] 93)) none := grown_trans HgA.out (World.grownBy_alloc _ _ _)
            have hlow : ∀ k, (Value.slice (some ⟨rg, 0, none⟩) its.length rcap).ownBlock = some k → w0.heap.size ≤ k ∧ k < wr.heap.size := hrlt
            obtain ⟨hT3, _⟩ := own_item (t, ind) _ (by simp; omega) hTA hown3 (by rw [rowOf_len]) hgrow3
            rw [← rowOf_cons (⟨z, n + cntG y, ind⟩, t) its] at hT3
            have hO3 := own_kept (HO.out.later gB) hgrow3 (fun k h e => HAp.out k h e)
            have hM3 := met_kept (HM.out.later gB) hgrow3 (fun k e => by have := hlow k e; omega)
            have hG3 := gg_row (gg_more HGG.out gB) hgrow3 (fun k e => (hlow k e).1)
            have hAp3 := ap_push HAp.out hat3 (fun g h => by have := holt g h; simp; omega)
            have hx0' := hgrow3.cell (a := ⟨wr.heap.size, 0, none⟩) (v := .int .i64 ((t : Int) + 1)) (by simp [go_sem]) (fun e => by have := hlow wr.heap.size e.symm; omega)
            have hx1' := hgrow3.cell (a := ⟨wr.heap.size, 1, none⟩) (v := .int .i64 ind) (by simp [go_sem]) (fun e => by have := hlow wr.heap.size e.symm; omega)
            obtain ⟨sb', soff', scap', hsva', hs3'⟩ := rd_at ((HSr.out.keep gB).beside hgrow3 (fun k e => by have := hlow k e; omega)) HSC.out
            cases hsva'
            obtain ⟨ra3, rcap3, hr3, hrc3, hrm3⟩ := row_form hT3
            rw [rowOf_len] at hr3 hrc3
            simp only [List.length_cons] at hr3 hrc3
            have HO3 := hide hO3
            have HM3 := hide hM3
            have HG3 := hide hG3
            have HAp3 := hide hAp3
            have hrl3 := World.ownsRow.lt hT3
            have hTd : OwT w0.heap.size w3.drew v3 (rowOf ((⟨z, n + cntG y, ind⟩, t) :: its)) := hT3
            have hcl2 := cells_duo w3.drew (.int .i64 (c : Int)) (.int .i64 ind) 93
            obtain ⟨v4, w4, hrun4, hown4, hgrow4, _, hat4⟩ := run_append_own_at (P := Tryd.prog) (w3.drew.alloc (.cells #[.int .i64 (c : Int), .int .i64 ind] 93)) w0.heap.size 94 94 93 j0 (.agg #[.int .i64 0, .int .i64 0]) 2 16 Tryd.underlying94 hj0 hy0 hy1 hy2 rfl (by decide) v3 (its.length + 1) (cells2 (rowOf ((⟨z, n + cntG y, ind⟩, t) :: its))) (by have := World.ownsRow.alloc hTd (.cells #[.int .i64 (c : Int), .int .i64 ind] 93); rw [rowOf_len] at this; exact this) ⟨w3.drew.heap.size, 0, none⟩ 1 1 [.int .i64 (c : Int), .int .i64 ind] rfl hcl2 (by intro u hu; simp at hu; rcases hu with rfl | rfl <;> rfl) (by unfold maxLen; omega) (by omega) (by simp; omega)
            have HT3 := hide hT3
            subst hr3
            have hrun2 := hrun4
            simp only [World.alloc_drew, World.size_drew] at hrun2
            have HG4 := hide hgrow4
            have HO4 := hide hown4
            have HA4 := hide hat4
            clear hown3 hgrow3 hat3 gB hO3 hM3 hG3 hAp3 hsA hcl2 hTA HSr HSC HCl1 HT HO HM HAp HGG HgA hrm3 hrc3 HFy HFz hlow hrun4 hgrow4 hown4 hat4 hTd hT3
            go_wp2_with fail
            go_region_law (refine step_append_here rfl (.tmp 130) (.tmp 140) 94 rfl _ _ _ _ (by simp [Act.eval]) (by simp [Act.eval]) hrun2 ?_)
            all_goals
              have hgrow4 := HG4.out
              have gC : w3.grownBy (w3.drew.alloc (.cells #[.int .i64 (c : Int), .int .i64 ind] 93)) none := ⟨rfl, rfl, rfl, by simp, fun i hi _ => heap_alloc_old w3.drew _ hi⟩
              obtain ⟨hT4, _⟩ := own_item (w := w3.drew) (c, ind) _ (by simp; omega) HT3.out HO4.out (by rw [rowOf_len]; simp) hgrow4
              rw [← rowOf_cons (⟨y, n, ind⟩, c) ((⟨z, n + cntG y, ind⟩, t) :: its)] at hT4
              have hO4 := own_kept (HO3.out.later gC) hgrow4 (fun k h e => HAp3.out k h e)
              have hM4 := met_kept (HM3.out.later gC) hgrow4 (fun k e => by have := hrl3 k e; omega)
              have hG4 := gg_row (gg_more HG3.out gC) hgrow4 (fun k e => (hrl3 k e).1)
              have hAp4 := ap_push HAp3.out HA4.out (fun g h => by have := holt g h; simp; omega)
              go_simp
              go_wp2
              go_roundw
              case rel => exact ⟨(⟨y, n, ind⟩, c) :: (⟨z, n + cntG y, ind⟩, t) :: its, out, met, col, rfl, rfl, hO4, hM4, hT4, hAp4, HI6.out, HS2.out, hG4⟩
              case measure =>
                rw [HMu.out, mu_tos _ hT4]
                exact HmuD.out
        · as_aux_lemma =>
            have HS2 : Hid (layL width gs (itT ((⟨y, n, ind⟩, c) :: its)) out met col = R) := by unfold Hid; rw [hstep, if_neg (by omega)]; rfl
            have q1 : (p.k == 1) = false := by rw [hk9]; rfl
            have q2 : (p.k == 2) = false := by rw [hk9]; rfl
            have q3 : (p.k == 3) = false := by rw [hk9]; rfl
            have q4 : (p.k == 4) = false := by rw [hk9]; rfl
            have q5 : (p.k == 5) = false := by rw [hk9]; rfl
            have q6 : (p.k == 6) = false := by rw [hk9]; rfl
            have q7 : (p.k == 7) = false := by rw [hk9]; rfl
            have q8 : (p.k == 8) = false := by rw [hk9]; rfl
            have q9 : (p.k == 9) = true := by rw [hk9]; rfl
            clear hk9 hstep HI6 HmuD hmt
            have hTd : OwT w0.heap.size ((wr.alloc (.cells #[.int .i64 ((t : Int) + 1), .int .i64 ind] 93)).alloc (.cells #[.int .i64 p.k, .slice ta p.t.length tcap, .int .i64 p.n] 40)).drew (.slice (some ⟨rg, 0, none⟩) its.length rcap) (rowOf its) := hTA
            have hcl1 := cells_duo ((wr.alloc (.cells #[.int .i64 ((t : Int) + 1), .int .i64 ind] 93)).alloc (.cells #[.int .i64 p.k, .slice ta p.t.length tcap, .int .i64 p.n] 40)).drew (.int .i64 (c : Int)) (.int .i64 ind) 93
            obtain ⟨v3, w3, hrun3, hown3, hgrow3, _, hat3⟩ := run_append_own_at (P := Tryd.prog) (((wr.alloc (.cells #[.int .i64 ((t : Int) + 1), .int .i64 ind] 93)).alloc (.cells #[.int .i64 p.k, .slice ta p.t.length tcap, .int .i64 p.n] 40)).drew.alloc (.cells #[.int .i64 (c : Int), .int .i64 ind] 93)) w0.heap.size 94 94 93 j0 (.agg #[.int .i64 0, .int .i64 0]) 2 16 Tryd.underlying94 hj0 hy0 hy1 hy2 rfl (by decide) (.slice (some ⟨rg, 0, none⟩) its.length rcap) its.length (cells2 (rowOf its)) (by have := World.ownsRow.alloc hTd (.cells #[.int .i64 (c : Int), .int .i64 ind] 93); rw [rowOf_len] at this; exact this) ⟨((wr.alloc (.cells #[.int .i64 ((t : Int) + 1), .int .i64 ind] 93)).alloc (.cells #[.int .i64 p.k, .slice ta p.t.length tcap, .int .i64 p.n] 40)).drew.heap.size, 0, none⟩ 1 1 [.int .i64 (c : Int), .int .i64 ind] rfl hcl1 (by intro u hu; simp at hu; rcases hu with rfl | rfl <;> rfl) (by unfold maxLen; omega) (by omega) (by simp; omega)
            have hrun2 := hrun3
            simp only [World.alloc_drew, World.size_alloc, World.size_drew] at hrun2
            have HG3 := hide hgrow3
            have HO3 := hide hown3
            have HA3 := hide hat3
            clear hcl1 hrun3 hgrow3 hown3 hat3 hTd
            go_wp2_with fail
            go_region_law (refine step_append_here rfl (.tmp 130) (.tmp 140) 94 rfl _ _ _ _ (by simp [Act.eval]) (by simp [Act.eval]) hrun2 ?_)
            all_goals
              have hgrow3 := HG3.out
              have hs3 := hgrow3.size
              simp only [World.size_alloc, World.size_drew] at hs3
              have gB : wr.grownBy (((wr.alloc (.cells #[.int .i64 ((t : Int) + 1), .int .i64 ind] 93)).alloc (.cells #[.int .i64 p.k, .slice ta p.t.length tcap, .int .i64 p.n] 40)).drew.alloc (.cells #[.int .i64 (c : Int), .int .i64 ind] 93)) none := grown_trans HgA.out ⟨rfl, rfl, rfl, by simp, fun i hi _ => heap_alloc_old ((wr.alloc (.cells #[.int .i64 ((t : Int) + 1), .int .i64 ind] 93)).alloc (.cells #[.int .i64 p.k, .slice ta p.t.length tcap, .int .i64 p.n] 40)).drew _ hi⟩
              obtain ⟨hT3, _⟩ := own_item (w := ((wr.alloc (.cells #[.int .i64 ((t : Int) + 1), .int .i64 ind] 93)).alloc (.cells #[.int .i64 p.k, .slice ta p.t.length tcap, .int .i64 p.n] 40)).drew) (c, ind) _ (by simp; omega) hTA HO3.out (by rw [rowOf_len]) hgrow3
              rw [← rowOf_cons (⟨y, n, ind⟩, c) its] at hT3
              have hO3 := own_kept (HO.out.later gB) hgrow3 (fun k h e => HAp.out k h e)
              have hM3 := met_kept (HM.out.later gB) hgrow3 (fun k e => by have := hrlt k e; omega)
              have hG3 := gg_row (gg_more HGG.out gB) hgrow3 (fun k e => (hrlt k e).1)
              have hAp3 := ap_push HAp.out HA3.out (fun g h => by have := holt g h; simp; omega)
              go_simp
              go_wp2
              go_roundw
              case rel => exact ⟨(⟨y, n, ind⟩, c) :: its, out, met, col, rfl, rfl, hO3, hM3, hT3, hAp3, HI9.out, HS2.out, hG3⟩
              case measure =>
                rw [HMu.out, mu_tos _ hT3]
                exact HmuD2.out

end Go.Proofs.YtgmjpdejfdldlaaDoor

