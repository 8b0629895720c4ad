import Derived.Test.YtakkdniikhgpdaaGreatDoorMBQ
namespace Go.Proofs.YtakkdniikhgpdaaGreatDoor
open Go.RowKit
attribute [-go_sem] Builtin.append_

theorem own_type {w : World} {B : Nat} {e : TypeId} {size n : Nat} {v : Value} {xs : List Value} (h : w.ownsRow B e size v n xs) {k : Nat} (hk : v.ownBlock = some k) : ∃ cur, w.heap[k]? = some (.cells cur e (0, 0)) := by
  rcases h.2 with ⟨rfl, _⟩ | ⟨g, cap, cur, rfl, _, hg, _⟩
  · cases hk
  · cases hk; exact ⟨cur, hg⟩

/-- A list of files as the program holds it. -/
structure HL (B h : Nat) (w : World) (v : Value) (fs : List Fl) : Prop where
  hp : w.heap[h]? = some (.cells #[v] 81 (0, 0))
  lo : LoF B w v fs
  hB : B ≤ h
theorem HL.cell {B h : Nat} {w : World} {v : Value} {fs : List Fl} (H : HL B h w v fs) : w.cell? ⟨h, 0, none⟩ = some v := by
  rw [cell_of_row w h 0 _ _ (0, 0) H.hp]
  rfl
theorem HL.frz {B h : Nat} {w : World} {v : Value} {fs : List Fl} (H : HL B h w v fs) : w.frozen? ⟨h, 0, none⟩ = false := frozen_of_row w h 0 _ _ H.hp
theorem HL.lt {B h : Nat} {w : World} {v : Value} {fs : List Fl} (H : HL B h w v fs) : h < w.heap.size := (Array.getElem?_eq_some_iff.1 H.hp).1
theorem HL.later {B h : Nat} {w w' : World} {v : Value} {fs : List Fl} (H : HL B h w v fs) (g : w.grownBy w' none) : HL B h w' v fs :=
  ⟨by rw [g.block h H.lt (by simp)]; exact H.hp, H.lo.later g, H.hB⟩
theorem HL.rd {B h : Nat} {w : World} {v : Value} {fs : List Fl} (H : HL B h w v fs) : RdF w.heap.size w v fs := H.lo.rd
/-- Another list is put into it. -/
theorem HL.put {B h : Nat} {w : World} {v v' : Value} {fs' : List Fl} (hp : w.heap[h]? = some (.cells #[v] 81 (0, 0))) (hB : B ≤ h) (hl : LoF B w v' fs') : HL B h (w.setCell ⟨h, 0, none⟩ v') v' fs' := by
  refine ⟨by rw [heap_setCell_same w h 0 _ _ v' hp]; rfl, ?_, hB⟩
  obtain ⟨xs, ho, ht⟩ := hl
  have hg : w.grownBy (w.setCell ⟨h, 0, none⟩ v') (some h) := ⟨rfl, rfl, rfl, by simp, fun i _ hn => Below.heap_setCell _ _ _ _ (fun e => hn (by rw [e]))⟩
  have hne : ∀ {e : TypeId} {size n : Nat} {u : Value} {ys : List Value}, w.ownsRow B e size u n ys → e ≠ 81 → u.ownBlock ≠ some h := fun o hn e => by
    obtain ⟨cur, hc⟩ := own_type o e
    rw [hp] at hc
    cases hc
    exact hn rfl
  refine ⟨xs, World.ownsRow.kept ho hg (.inr (hne ho (by decide))), ht.len, fun j p x h1 h2 => ?_⟩
  obtain ⟨o1, o2, o3⟩ := ht.own j p x h1 h2
  exact ⟨o1.beside hg (fun k hk i hi e => by cases hi; subst e; exact hne o1 (by decide) hk), o2.beside hg (fun k hk i hi e => by cases hi; subst e; exact hne o2 (by decide) hk), o3⟩

/-- What a method leaves: the list fs', and nothing below B turned. -/
def Lft (B h : Nat) (w : World) (fs' : List Fl) (w' : World) : Prop := (∃ v', HL B h w' v' fs') ∧ Below B w w'

set_option maxHeartbeats 4000000 in
set_option maxRecDepth 100000 in
theorem remove_any (B h : Nat) (v nv : Value) (fs : List Fl) (n : List Int) (a0 a1 a2 : Addr) (w : World) (H : HL B h w v fs) (hd : Fss fs) (hval : validF fs = true) (hn : RdB w.heap.size w nv n) (hs : Sl nv n.length) (hb : Byt n) (hok : nameOK n = true) (he : Errs w a0 a1 a2) :
    Calls Tryz.prog 121 #[.pointer (some ⟨h, 0, none⟩), nv] w fun e w' => (findF fs n = none ∧ e = .returned (Er a1) ∧ Lft B h w fs w') ∨ ∃ (i : Nat) (hi : i < fs.length), Pos fs n i ∧ fs[i].n = n ∧ e = .returned .nilIface ∧ Lft B h w (fs.take i ++ fs.drop (i + 1)) w' := by
  have HF := hide (find_any h v nv fs n a0 a1 a2 w H.cell H.rd hd hval hn hs hb he)
  have HH := hide H
  have hlen : fs.length ≤ 50 := by
    by_cases hh : 50 < fs.length
    · rw [valid_long hh] at hval; cases hval
    · omega
  have hc := H.cell
  have hf := H.frz
  have hBh := H.hB
  have hhl := H.lt
  obtain ⟨va, vc, hv0, _⟩ := H.rd
  obtain ⟨na, ncap, hnv0, _, _⟩ := id hs
  have hn1 : ∀ (t : TypeId) (u : Value) (w : World), (binOp .neq 54 (.iface t u) .nilIface).run Tryz.prog w = .ok (.bool true) w := fun _ _ _ => rfl
  have hn2 : ∀ (w : World), (binOp .neq 54 .nilIface .nilIface).run Tryz.prog w = .ok (.bool false) w := fun _ => rfl
  subst hnv0 hv0
  clear hn hs hval he hd hb H
  go_enter Tryz.func121, Tryz.ntmps121
  go_wp2_with fail
  refine HF.out.mono ?_
  rintro e w1 ⟨u, rfl, fd, g⟩
  have HG := hide g
  have hc1 := g.cell hc (by simp)
  have hb1 : Below B w w1 := (below_of_grown g).mono (by omega)
  clear hc HF
  cases fd with
  | bad hk => rw [hok] at hk; cases hk
  | none i hk _ hf' =>
    have HFf := hide hf'
    have HB := hide hb1
    clear g hb1
    go_wp2
    go_ret
    exact .inl ⟨HFf.out, rfl, ⟨_, HH.out.later HG.out⟩, HB.out⟩
  | yes i hi hk hpos heq _ =>
    have HP := hide hpos
    have HQ := hide heq
    have H1 := HH.out.later g
    obtain ⟨xs, ho, ht⟩ := H1.lo
    obtain ⟨g0, hva⟩ : ∃ g0, va = some ⟨g0, 0, none⟩ := by
      rcases ho.2 with ⟨e, e2⟩ | ⟨g0, cap, cur, e, _⟩
      · omega
      · cases e; exact ⟨g0, rfl⟩
    subst hva
    have hgh : g0 ≠ h := fun e => by
      obtain ⟨cur, hc⟩ := own_type ho (k := g0) rfl
      rw [e, H1.hp] at hc
      cases hc
    have HD := hide (delete_any g0 fs.length vc i (cellsF fs xs) B w1 ho hi (by omega) (cellsF_oneL ht))
    have HT := hide ht
    have HP1 := hide H1.hp
    have HB1 := hide hb1
    have hl1 := g.size
    have hBg := (own_cap ho).2.2.1
    have hw1 : IntKind.i64.wrap ((i : Int) + 1) = (i : Int) + 1 := by rw [IntKind.wrap_i64]; omega
    clear g hb1 H1 ho ht hf
    go_wp2_with fail
    refine HD.out.mono ?_
    rintro e w2 ⟨rfl, o2, g2⟩
    have hp2 : w2.heap[h]? = _ := (g2.block h (by omega) (by simpa using fun e => hgh e.symm)).trans HP1.out
    have c2 : w2.cell? ⟨h, 0, none⟩ = some (.slice (some ⟨g0, 0, none⟩) fs.length vc) := by rw [cell_of_row w2 h 0 _ _ (0, 0) hp2]; rfl
    have f2 : w2.frozen? ⟨h, 0, none⟩ = false := frozen_of_row w2 h 0 _ _ hp2
    have HL2 := hide (HL.put hp2 hBh (LoF.del HT.out hi o2 g2))
    have HB2 : Hid (Below B w (w2.setCell ⟨h, 0, none⟩ (.slice (some ⟨g0, 0, none⟩) (fs.length - 1) vc))) := (HB1.out.trans ((Below.refl B w1).grown g2 (by omega) (fun k e => by cases e; exact hBg))).setCell (by simpa using hBh) _
    clear hp2 o2 g2 HT HP1 HB1 HD
    go_wp2
    go_ret
    exact .inr ⟨i, hi, HP.out, HQ.out, rfl, ⟨_, HL2.out⟩, HB2.out⟩
end Go.Proofs.YtakkdniikhgpdaaGreatDoor

namespace Go.Proofs.YtakkdniikhgpdaaGreatDoor
open Go.RowKit
attribute [-go_sem] Builtin.append_

/-- slices.Insert, whatever the room. -/
theorem insert_any (v : Value) (n i vb : Nat) (xs : List Value) (e0 e1 e2 : Value) (B : Nat) (w : World) (ho : w.ownsRow B 45 3 v n xs) (hi : i ≤ n) (hn : n ≤ 100) (hvb : w.heap[vb]? = some (.cells #[e0, e1, e2] 45 (0, 0))) (hne : v.ownBlock ≠ some vb) (hB : B ≤ w.heap.size) (h1 : ∀ u ∈ xs, u.oneCell' = true) (h2 : ∀ u ∈ [e0, e1, e2], u.oneCell' = true) :
    Calls Tryz.prog 127 #[v, .int .i64 i, .slice (some ⟨vb, 0, none⟩) 1 1] w fun e w' => Ins B w v n i xs e0 e1 e2 e w' := by
  by_cases hin : i = n
  · subst hin
    exact insert_end v i vb xs e0 e1 e2 B w ho hn hvb hB h2
  · rcases ho.2 with ⟨rfl, rfl⟩ | ⟨g, cap, cur, rfl, _⟩
    · omega
    · by_cases hc : n + 1 ≤ cap
      · exact insert_shift g n cap i vb xs e0 e1 e2 B w ho (by omega) hn hc hvb (fun e => hne (by rw [e]; rfl)) h1 h2
      · exact insert_grow g n cap i vb xs e0 e1 e2 B w ho (by omega) hn (by omega) hvb hB h1 h2

set_option maxHeartbeats 4000000 in
set_option maxRecDepth 100000 in
/-- A file with a name that is not there is put in its place. -/
theorem put_new (B h : Nat) (v x1 x2 : Value) (fs : List Fl) (p : Fl) (a0 a1 a2 : Addr) (w : World) (H : HL B h w v fs) (hd : Fss fs) (hval : validF fs = true) (h1 : OwB B w x1 p.n) (h2 : OwB B w x2 p.d) (h3 : ∀ k, v.ownBlock = some k → x1.ownBlock ≠ some k ∧ x2.ownBlock ≠ some k) (hb : Byt p.n) (hok : nameOK p.n = true) (hno : findF fs p.n = none) (hl : fs.length < 50) (he : Errs w a0 a1 a2) :
    Calls Tryz.prog 126 #[.pointer (some ⟨h, 0, none⟩), .agg #[x1, x2, .int .i64 p.s]] w fun e w' => e = .returned .nilIface ∧ ∃ i, Pos fs p.n i ∧ Lft B h w (fs.take i ++ p :: fs.drop i) w' := by
  obtain ⟨n1, c1, hx1, hl1, hm1⟩ := h1.sl
  obtain ⟨n2, c2, hx2, _, _⟩ := h2.sl
  have HF : Hid (∀ W : World, w.grownBy W none → _) := fun W (g : w.grownBy W none) => find_any h v x1 fs p.n a0 a1 a2 W (H.later g).cell (H.later g).rd hd hval ((h1.later g).rd) h1.sl hb (he.keep g)
  have HIs : Hid (∀ W : World, w.grownBy W none → _) := fun W (_ : w.grownBy W none) => is_it a1 W
  have HH := hide H
  have H1 := hide h1
  have H2 := hide h2
  have H3 := hide h3
  have HE := hide he
  have hBh := H.hB
  have hhl := H.lt
  obtain ⟨va, vc, hv0, _⟩ := H.rd
  have hn1 : ∀ (t : TypeId) (u : Value) (w : World), (binOp .eql 54 (.iface t u) .nilIface).run Tryz.prog w = .ok (.bool false) w := fun _ _ _ => rfl
  subst hx1 hx2 hv0
  obtain ⟨w0, hw0⟩ : ∃ w0, w0 = w.alloc (Obj.cells #[.slice n1 p.n.length c1, .slice n2 p.d.length c2, .int .i64 p.s] 45) := ⟨_, rfl⟩
  have g0 : w.grownBy w0 none := by rw [hw0]; exact World.grownBy_alloc _ _ _
  have k0 : w0.cell? ⟨w.heap.size, 0, none⟩ = some (.slice n1 p.n.length c1) := by rw [hw0]; simp [go_sem]
  have k1 : w0.cell? ⟨w.heap.size, 1, none⟩ = some (.slice n2 p.d.length c2) := by rw [hw0]; simp [go_sem]
  have k2 : w0.cell? ⟨w.heap.size, 2, none⟩ = some (.int .i64 p.s) := by rw [hw0]; simp [go_sem]
  have HF0 := hide (HF.out w0 g0)
  have HW0 := hide hw0
  rw [hw0] at HF0
  clear hval hd hb H he h1 h2 h3 HF hw0
  go_enter Tryz.func126, Tryz.ntmps126
  go_wp2_with fail
  refine HF0.out.mono ?_
  rintro e w1 ⟨u, rfl, fd, g⟩
  rw [← HW0.out] at g
  have l0 := g.cell k0 (by simp)
  have l1 := g.cell k1 (by simp)
  have l2 := g.cell k2 (by simp)
  replace g := grown_trans g0 g
  clear k0 k1 k2 HF0 HW0
  cases fd with
  | bad hk => rw [hok] at hk; cases hk
  | yes i hi hk hpos heq hf' => rw [hno] at hf'; cases hf'
  | none i hk hpos _ =>
    have HP := hide hpos
    have hil := hpos.le
    have HB1 : Hid (Below B w w1) := (below_of_grown g).mono (by omega)
    have H4 := HH.out.later g
    have hc1 := H4.cell
    have he1 := (HE.out.keep g).g1
    have hl1 := g.size
    have gA : w1.grownBy (w1.drew.alloc (Obj.cells #[.slice n1 p.n.length c1, .slice n2 p.d.length c2, .int .i64 p.s] 45)) none := grown_trans (show w1.grownBy w1.drew none from ⟨rfl, rfl, rfl, Nat.le_refl _, fun _ _ _ => rfl⟩) (World.grownBy_alloc w1.drew (Obj.cells #[.slice n1 p.n.length c1, .slice n2 p.d.length c2, .int .i64 p.s] 45) none)
    have H5 := H4.later gA
    obtain ⟨xs, ho, ht⟩ := H5.lo
    have hne : (Value.slice va fs.length vc).ownBlock ≠ some w1.heap.size := fun e => by
      obtain ⟨ys, ho4, _⟩ := H4.lo
      have := World.ownsRow.lt ho4 _ e
      omega
    have HI := hide (insert_any (w := w1.drew.alloc (Obj.cells #[.slice n1 p.n.length c1, .slice n2 p.d.length c2, .int .i64 p.s] 45)) (.slice va fs.length vc) fs.length i w1.heap.size (cellsF fs xs) (.slice n1 p.n.length c1) (.slice n2 p.d.length c2) (.int .i64 p.s) B ho hil (by omega) (heap_alloc_new w1.drew _) hne (by simp; omega) (cellsF_oneL ht) (by intro u hu; simp at hu; rcases hu with rfl | rfl | rfl <;> rfl))
    have HT := hide ht
    have HP5 := hide H5.hp
    have HX1 := hide ((H1.out.later g).later gA)
    have HX2 := hide ((H2.out.later g).later gA)
    have HGA := hide gA
    have hlen : ¬ ((fs.length : Int) = 50) := by omega
    have hl50 : ((fs.length : Int) == 50) = false := by simpa using hlen
    have hor : ∀ k, (Value.slice va fs.length vc).ownBlock = some k → B ≤ k ∧ k < w1.heap.size := fun k e => by
      obtain ⟨ys, ho4, _⟩ := H4.lo
      exact World.ownsRow.lt ho4 _ e
    have hrw : ∀ k, (Value.slice va fs.length vc).ownBlock = some k → k < w.heap.size := fun k e => by
      obtain ⟨ys, ho4, _⟩ := HH.out.lo
      exact (World.ownsRow.lt ho4 _ e).2
    have hvh : (Value.slice va fs.length vc).ownBlock ≠ some h := fun e => by
      obtain ⟨ys, ho4, _⟩ := H4.lo
      obtain ⟨cur, hc⟩ := own_type ho4 e
      rw [H4.hp] at hc
      cases hc
    clear H4 H5 ho ht gA g hpos
    go_wp2_with fail
    refine (is_it a1 w1).mono ?_
    rintro e w2 ⟨rfl, rfl⟩
    go_wp2
    obtain ⟨I, hI⟩ : ∃ I : World → Prop, I = (fun W : World => W.cell? ⟨h, 0, none⟩ = some (.slice va fs.length vc) ∧ W.cell? ⟨w.heap.size, 0, none⟩ = some (.slice n1 p.n.length c1) ∧ W.cell? ⟨w.heap.size, 1, none⟩ = some (.slice n2 p.d.length c2) ∧ W.cell? ⟨w.heap.size, 2, none⟩ = some (.int .i64 p.s)) := ⟨_, rfl⟩
    have HI0 : I w1.drew := by rw [hI]; exact ⟨hc1, l0, l1, l2⟩
    have HIA : I (w1.drew.alloc (Obj.cells #[.slice n1 p.n.length c1, .slice n2 p.d.length c2, .int .i64 p.s] 45)) := by
      rw [hI]
      exact ⟨HGA.out.cell hc1 (by simp), HGA.out.cell l0 (by simp), HGA.out.cell l1 (by simp), HGA.out.cell l2 (by simp)⟩
    refine region_anyI I (fun i => i == 11) (by kernel_rfl) ?_
    show anyI _ _ _ _ _ _ 12 (Array.replicate 12 false) _ _
    refine anyT (i := 0) (.pointer (some ⟨h, 0, none⟩)) rfl HI0 (yldI rfl (fun W hW => by go_simp)) ?_
    refine anyT (i := 1) (.pointer (some ⟨h, 0, none⟩)) rfl HI0 (yldI rfl (fun W hW => by go_simp)) ?_
    refine anyT (i := 2) (.pointer (some ⟨h, 0, none⟩)) rfl HI0 (yldI rfl (fun W hW => by go_simp)) ?_
    refine anyT (i := 3) (.pointer (some ⟨h, 0, none⟩)) rfl HI0 (yldI rfl (fun W hW => by go_simp)) ?_
    refine anyT (i := 4) (.slice va fs.length vc) rfl HI0 (yldI rfl (fun W hW => by rw [hI] at hW; obtain ⟨j0, j1, j2, j3⟩ := hW; go_simp)) ?_
    refine anyT (i := 5) (.int .i64 i) rfl HI0 (yldI rfl (fun W hW => by go_simp)) ?_
    refine anyT (i := 6) (.agg #[.slice n1 p.n.length c1, .slice n2 p.d.length c2, .int .i64 p.s]) rfl HI0 (yldI rfl (fun W hW => by rw [hI] at hW; obtain ⟨j0, j1, j2, j3⟩ := hW; go_simp)) ?_
    refine anyI_one (i := 7) (by kernel_rfl) (wpOp_val (v := .slice (some ⟨w1.heap.size, 0, none⟩) 1 1) (w' := w1.drew.alloc (Obj.cells #[.slice n1 p.n.length c1, .slice n2 p.d.length c2, .int .i64 p.s] 45)) rfl rfl (by go_simp) ⟨.inr HIA, ?_⟩)
    refine anyI_one (i := 8) (by kernel_rfl) (wpOp_call rfl rfl (by go_simp) HI.out ?_)
    rintro e w3 ⟨v', rfl, o3, g3, hb3, a3, c3, hv3⟩
    have hp3 : w3.heap[h]? = _ := (g3.block h (by simp; omega) (fun e => hvh e.symm)).trans HP5.out
    have cc3 : w3.cell? ⟨h, 0, none⟩ = some (.slice va fs.length vc) := by rw [cell_of_row w3 h 0 _ _ (0, 0) hp3]; rfl
    have f3 : w3.frozen? ⟨h, 0, none⟩ = false := frozen_of_row w3 h 0 _ _ hp3
    have HL3 := hide (HL.put hp3 hBh (LoF.ins (x := (.slice n1 p.n.length c1, .slice n2 p.d.length c2)) HT.out hil o3 g3 hb3 HX1.out HX2.out H3.out))
    have HB3 : Hid (Below B w (w3.setCell ⟨h, 0, none⟩ v')) := (HB1.out.trans (((Below.refl B w1).grown HGA.out (by omega) (fun k e => by cases e)).grown g3 (by simp; omega) (fun k e => (hor k e).1))).setCell (by simpa using hBh) _
    have HI3 : I w3 := by
      have hpn : ∀ j x, w1.cell? ⟨w.heap.size, j, none⟩ = some x → w3.cell? ⟨w.heap.size, j, none⟩ = some x := fun j x hx =>
        g3.cell (HGA.out.cell hx (by simp)) (fun e => by have := hrw _ e.symm; simp at this)
      rw [hI]
      exact ⟨cc3, hpn _ _ l0, hpn _ _ l1, hpn _ _ l2⟩
    refine ⟨_, rfl, .inr HI3, ?_⟩
    refine anyI_one (i := 9) (by kernel_rfl) (wpOp_val (v := .pointer (some ⟨h, 0, none⟩)) rfl rfl (by go_simp) ⟨.inr HI3, ?_⟩)
    refine anyI_one (i := 10) (by kernel_rfl) (wpOp_val (v := .pointer (some ⟨h, 0, none⟩)) rfl rfl (by go_simp) ⟨.inr HI3, ?_⟩)
    refine anyI_one (i := 11) (by kernel_rfl) (wpOp_skip (w' := w3.setCell ⟨h, 0, none⟩ v') rfl rfl (by go_simp) ⟨.inl rfl, ?_⟩)
    refine anyI_done (by kernel_rfl) ?_ _
    clear HI0 HIA HI3 hI
    clear hp3 o3 g3 hb3 HI HT HP5 hv3 cc3 f3
    go_wp2
    go_ret
    exact ⟨rfl, i, HP.out, ⟨_, HL3.out⟩, HB3.out⟩
end Go.Proofs.YtakkdniikhgpdaaGreatDoor

namespace Go.Proofs.YtakkdniikhgpdaaGreatDoor
open Go.RowKit
attribute [-go_sem] Builtin.append_

theorem Lft.pre {B h : Nat} {w w1 w' : World} {fs' : List Fl} (H : Lft B h w1 fs' w') (hb : Below B w w1) : Lft B h w fs' w' := ⟨H.1, hb.trans H.2⟩

set_option maxHeartbeats 4000000 in
set_option maxRecDepth 100000 in
theorem write_new (B h : Nat) (v nv dv : Value) (fs : List Fl) (n d : List Int) (a0 a1 a2 : Addr) (w : World) (H : HL B h w v fs) (hd : Fss fs) (hval : validF fs = true) (hn : RdB w.heap.size w nv n) (hs : Sl nv n.length) (hdd : RdB w.heap.size w dv d) (hsd : Sl dv d.length) (hb : Byt n) (hok : nameOK n = true) (hno : findF fs n = none) (hl : fs.length < 50) (hdl : d.length ≤ 4194304) (he : Errs w a0 a1 a2) :
    Calls Tryz.prog 124 #[.pointer (some ⟨h, 0, none⟩), nv, dv] w fun e w' => e = .returned .nilIface ∧ ∃ i, Pos fs n i ∧ Lft B h w (fs.take i ++ (⟨n, d, 0⟩ : Fl) :: fs.drop i) w' := by
  have hnl : n.length ≤ 100 := by
    unfold nameOK at hok
    have := of_decide_eq_true hok
    omega
  have HC1 : Hid (∀ W : World, w.grownBy W none → _) := fun W (g : w.grownBy W none) => bytesClone_any nv n W ((hn.keep g).wideF g.size) (by omega)
  have HC2 : Hid (∀ W : World, w.grownBy W none → _) := fun W (g : w.grownBy W none) => bytesClone_any dv d W ((hdd.keep g).wideF g.size) hdl
  have HPut : Hid (∀ (W : World) (x1 x2 : Value), w.grownBy W none → OwB w.heap.size W x1 n → OwB w.heap.size W x2 d → _) := fun W x1 x2 (g : w.grownBy W none) (h1 : OwB w.heap.size W x1 n) (h2 : OwB w.heap.size W x2 d) =>
    put_new B h v x1 x2 fs ⟨n, d, 0⟩ a0 a1 a2 W (H.later g) hd hval (row_base (by have := H.hB; have := H.lt; omega) h1) (row_base (by have := H.hB; have := H.lt; omega) h2) (fun k e => by
      obtain ⟨ys, ho, _⟩ := H.lo
      have := World.ownsRow.lt ho _ e
      exact ⟨fun e2 => by have := World.ownsRow.lt h1 _ e2; omega, fun e2 => by have := World.ownsRow.lt h2 _ e2; omega⟩) hb hok hno hl (he.keep g)
  have hBl : B ≤ w.heap.size := by have := H.hB; have := H.lt; omega
  obtain ⟨na, nc, hnv0, _, _⟩ := id hs
  obtain ⟨da, dc, hdv0, _, _⟩ := id hsd
  subst hnv0 hdv0
  clear H hd hval hn hs hdd hsd he
  go_enter Tryz.func124, Tryz.ntmps124
  go_wp2_with fail
  refine (HC1.out w (World.grownBy.refl _ _)).mono ?_
  rintro e w1 ⟨x1, rfl, o1, g1⟩
  have G1 := hide g1
  have HC := hide (HC2.out w1 g1)
  have O1 := hide o1
  obtain ⟨m1, k1, hx1, _, _⟩ := o1.sl
  subst hx1
  clear o1 g1
  go_wp2_with fail
  refine HC.out.mono ?_
  rintro e w2 ⟨x2, rfl, o2, g2⟩
  have G2 := hide (grown_trans G1.out g2)
  have HP := hide (HPut.out w2 _ x2 G2.out (O1.out.later g2) (row_base G1.out.size o2))
  obtain ⟨m2, k2, hx2, _, _⟩ := o2.sl
  subst hx2
  clear o2 g2
  go_wp2_with fail
  refine HP.out.mono ?_
  rintro e w3 ⟨rfl, i, hp, hL⟩
  have HR : Hid (Pos fs n i ∧ Lft B h w (fs.take i ++ (⟨n, d, 0⟩ : Fl) :: fs.drop i) w3) := ⟨hp, hL.pre ((below_of_grown G2.out).mono hBl)⟩
  clear hp hL
  go_wp2
  go_ret
  exact ⟨rfl, i, HR.out⟩
end Go.Proofs.YtakkdniikhgpdaaGreatDoor

namespace Go.Proofs.YtakkdniikhgpdaaGreatDoor
open Go.RowKit
attribute [-go_sem] Builtin.append_

theorem cellsF_setL3 : ∀ (fs : List Fl) (xs : List (Value × Value)) (i : Nat) (p : Fl) (s : Int), xs.length = fs.length → fs[i]? = some p → cellsF (fs.set i { p with s := s }) xs = (cellsF fs xs).set (i * 3 + 2) (.int .i64 s)
  | [], _, _, _, _, _, h => by simp at h
  | q :: fs, [], _, _, _, h, _ => by simp at h
  | q :: fs, x :: xs, 0, p, s, _, h => by simp at h; subst h; rfl
  | q :: fs, x :: xs, i + 1, p, s, hl, h => by
    have := cellsF_setL3 fs xs i p s (by simpa using hl) (by simpa using h)
    simp only [List.set_cons_succ, cellsF, this]
    rw [show (i + 1) * 3 = (i * 3 + 2) + 1 by omega]
    rfl
/-- A file's Safe is set. -/
theorem LoF.setS {B : Nat} {w : World} {g cap : Nat} {fs : List Fl} (h : LoF B w (.slice (some ⟨g, 0, none⟩) fs.length cap) fs) {i : Nat} {p : Fl} (hp : fs[i]? = some p) (s : Int) : LoF B (w.setCell ⟨g, i * 3 + 2, none⟩ (.int .i64 s)) (.slice (some ⟨g, 0, none⟩) fs.length cap) (fs.set i { p with s := s }) ∧ w.grownBy (w.setCell ⟨g, i * 3 + 2, none⟩ (.int .i64 s)) (some g) := by
  obtain ⟨xs, ho, ht⟩ := h
  obtain ⟨o2, g2⟩ := World.ownsRow.stored ho (i * 3 + 2) (.int .i64 s)
  have hX := ht.row (g' := some g) g2 (fun k e => .inl e)
  refine ⟨⟨xs, ?_, by simp [ht.len], fun j q y e1 e2 => ?_⟩, g2⟩
  · rw [cellsF_setL3 fs xs i p s ht.len hp, List.length_set]
    exact o2
  · by_cases hj : i = j
    · subst hj
      rw [List.getElem?_set_self (List.getElem?_eq_some_iff.1 hp).1] at e1
      cases e1
      exact hX.own i p y hp e2
    · rw [List.getElem?_set_ne hj] at e1
      exact hX.own j q y e1 e2

theorem Lft.drew {B h : Nat} {w w' : World} {fs' : List Fl} (H : Lft B h w fs' w') : Lft B h w fs' w'.drew := by
  obtain ⟨⟨v', hp, ⟨xs, ho, ht⟩, hB⟩, hb⟩ := H
  exact ⟨⟨v', hp, ⟨xs, ho, ht.len, ht.own⟩, hB⟩, hb.drew⟩

set_option maxHeartbeats 4000000 in
set_option maxRecDepth 100000 in
theorem sync_yes (B h : Nat) (v nv : Value) (fs : List Fl) (n : List Int) (a0 a1 a2 : Addr) (w : World) (H : HL B h w v fs) (hd : Fss fs) (hval : validF fs = true) (hn : RdB w.heap.size w nv n) (hs : Sl nv n.length) (hb : Byt n) (hok : nameOK n = true) (hno : findF fs n ≠ none) (he : Errs w a0 a1 a2) :
    Calls Tryz.prog 123 #[.pointer (some ⟨h, 0, none⟩), nv] w fun e w' => e = .returned .nilIface ∧ ∃ (i : Nat) (hi : i < fs.length), Pos fs n i ∧ fs[i].n = n ∧ Lft B h w (fs.set i { fs[i] with s := (fs[i].d.length : Int) }) w' := by
  have HF := hide (find_any h v nv fs n a0 a1 a2 w H.cell H.rd hd hval hn hs hb he)
  have HH := hide H
  have hc := H.cell
  have hBh := H.hB
  have hhl := H.lt
  have hlen : fs.length ≤ 50 := by
    by_cases hh : 50 < fs.length
    · rw [valid_long hh] at hval; cases hval
    · omega
  obtain ⟨va, vc, hv0, hv1, hv2, _⟩ := H.rd
  unfold maxLen at hv2
  obtain ⟨na, ncap, hnv0, _, _⟩ := id hs
  have hn2 : ∀ (w : World), (binOp .neq 54 .nilIface .nilIface).run Tryz.prog w = .ok (.bool false) w := fun _ => rfl
  subst hnv0 hv0
  clear hn hs hval he hd hb H
  go_enter Tryz.func123, Tryz.ntmps123
  go_wp2_with fail
  refine HF.out.mono ?_
  rintro e w1 ⟨u, rfl, fd, g⟩
  cases fd with
  | bad hk => rw [hok] at hk; cases hk
  | none i hk _ hf' => exact absurd hf' hno
  | yes i hi hk hpos heq _ =>
    have HP := hide hpos
    have HQ := hide heq
    have H1 := HH.out.later g
    have hc1 := H1.cell
    have HB1 : Hid (Below B w w1) := (below_of_grown g).mono (by omega)
    have hl1 := g.size
    obtain ⟨b, off, cap', x, hva, hbl, hp⟩ := H1.rd.at i hi
    obtain ⟨xs, ho, ht⟩ := id H1.lo
    obtain ⟨g0, hva2⟩ : ∃ g0, va = some ⟨g0, 0, none⟩ := by
      rcases ho.2 with ⟨e, e2⟩ | ⟨g0, cap, cur, e, _⟩
      · omega
      · cases e; exact ⟨g0, rfl⟩
    subst hva2
    cases hva
    have hgh : b ≠ h := fun e => by
      obtain ⟨cur, hc⟩ := own_type ho (k := b) rfl
      rw [e, H1.hp] at hc
      cases hc
    have y1 := hp.d
    have y2 := hp.s
    have f2 : w1.frozen? ⟨b, i * 3 + 2, none⟩ = false := World.ownsRow.frozenAt ho _
    have hBg := (own_cap ho).2.2.1
    obtain ⟨xn, xd⟩ := x
    obtain ⟨da, dcap, hdv, _, _⟩ := hp.sd
    simp only at hdv y1
    subst hdv
    rw [Nat.zero_add] at y1 y2
    obtain ⟨hS, gS⟩ := H1.lo.setS (List.getElem?_eq_getElem hi) (fs[i].d.length : Int)
    have HL2 : Hid (Lft B h w (fs.set i { fs[i] with s := (fs[i].d.length : Int) }) (w1.setCell ⟨b, i * 3 + 2, none⟩ (.int .i64 (fs[i].d.length : Int)))) := by
      refine ⟨⟨_, ⟨by rw [gS.block h (by omega) (by simpa using fun e => hgh e.symm)]; exact H1.hp, hS, hBh⟩⟩, HB1.out.trans ((Below.refl B w1).grown gS (by omega) (fun k e => by cases e; exact hBg))⟩
    clear hp g hpos heq hS gS H1 ho ht HF HH hc
    generalize hdl : fs[i].d.length = dl at *
    have mixed : Tryz.prog.follows .mixedOrders = true := by kernel_rfl
    have hil : (i : Int) < fs.length := by omega
    go_wp2
    go_region
    go_wp2
    go_ret
    exact ⟨rfl, i, hi, HP.out, HQ.out, by rw [hdl]; exact HL2.out.drew⟩
end Go.Proofs.YtakkdniikhgpdaaGreatDoor

namespace Go.Proofs.YtakkdniikhgpdaaGreatDoor
open Go.RowKit
attribute [-go_sem] Builtin.append_

theorem Fss.sub {fs gs : List Fl} (h : Fss fs) (hs : gs.length ≤ fs.length) (hm : ∀ p ∈ gs, p ∈ fs) : Fss gs := ⟨Nat.le_trans hs h.len, fun p hp => h.tlen p (hm p hp), fun p hp => h.byt p (hm p hp)⟩
theorem del_mem {fs : List Fl} {i : Nat} : ∀ p ∈ fs.take i ++ fs.drop (i + 1), p ∈ fs := fun p hp => by
  rcases List.mem_append.1 hp with h | h
  · exact List.mem_of_mem_take h
  · exact List.mem_of_mem_drop h

set_option maxHeartbeats 4000000 in
set_option maxRecDepth 100000 in
theorem rename_new (B h : Nat) (v fv tv : Value) (fs : List Fl) (n m : List Int) (a0 a1 a2 : Addr) (w : World) (H : HL B h w v fs) (hd : Fss fs) (hval : validF fs = true) (hn : RdB w.heap.size w fv n) (hs : Sl fv n.length) (hb : Byt n) (hok : nameOK n = true) (hm : RdB w.heap.size w tv m) (hsm : Sl tv m.length) (hbm : Byt m) (hokm : nameOK m = true) (hfr : findF fs n ≠ none) (hto : findF fs m = none) (he : ∀ W, Below B w W → Errs W a0 a1 a2) :
    Calls Tryz.prog 122 #[.pointer (some ⟨h, 0, none⟩), fv, tv] w fun e w' => e = .returned .nilIface ∧ ∃ (i k : Nat) (hi : i < fs.length), fs[i].n = n ∧ Pos (fs.take i ++ fs.drop (i + 1)) m k ∧ Lft B h w ((fs.take i ++ fs.drop (i + 1)).take k ++ { fs[i] with n := m } :: (fs.take i ++ fs.drop (i + 1)).drop k) w' := by
  have hml : m.length ≤ 100 := by
    unfold nameOK at hokm
    have := of_decide_eq_true hokm
    omega
  obtain ⟨ta, tc, htv0, _, ht2⟩ := id hsm
  unfold maxLen at ht2
  have HNm := hide (fun w => canBeName_any ta m tc w (by omega))
  rw [hokm] at HNm
  have HF := hide (find_any h v fv fs n a0 a1 a2 w H.cell H.rd hd hval hn hs hb (he w (Below.refl _ _)))
  have HC : Hid (∀ W : World, w.grownBy W none → _) := fun W (g : w.grownBy W none) => bytesClone_any tv m W ((hm.keep g).wideF g.size) (by omega)
  have HH := hide H
  have HDd := hide hd
  have HVl := hide hval
  have hBh := H.hB
  have hhl := H.lt
  have hlen := valid_len50 hval
  obtain ⟨va, vc, hv0, _⟩ := H.rd
  obtain ⟨fa, fc, hfv0, _, _⟩ := id hs
  have hn2 : ∀ (w : World), (binOp .neq 54 .nilIface .nilIface).run Tryz.prog w = .ok (.bool false) w := fun _ => rfl
  subst hfv0 htv0 hv0
  clear hn hs hval hd hb H hm hsm
  go_enter Tryz.func122, Tryz.ntmps122
  go_wp2_with fail
  refine (HNm.out _).mono ?_; rintro e w1 ⟨rfl, rfl⟩
  go_wp2_with fail
  refine HF.out.mono ?_
  rintro e w1 ⟨u, rfl, fd, g⟩
  cases fd with
  | bad hk => rw [hok] at hk; cases hk
  | none i hk _ hf' => exact absurd hf' hfr
  | yes i hi hk hpos heq _ =>
    have HQ := hide heq
    have H1 := HH.out.later g
    have hc1 := H1.cell
    have HB1 : Hid (Below B w w1) := (below_of_grown g).mono (by omega)
    have hl1 := g.size
    have G1 := hide g
    obtain ⟨xs, ho, ht⟩ := id H1.lo
    obtain ⟨g0, hva2⟩ : ∃ g0, va = some ⟨g0, 0, none⟩ := by
      rcases ho.2 with ⟨e, e2⟩ | ⟨g0, cap, cur, e, _⟩
      · omega
      · cases e; exact ⟨g0, rfl⟩
    subst hva2
    obtain ⟨⟨xn, xd⟩, hx, z0, z1, z2⟩ := cellsF_at fs xs i fs[i] ht.len (List.getElem?_eq_getElem hi)
    obtain ⟨on, od, hnb⟩ := ht.own i _ _ (List.getElem?_eq_getElem hi) hx
    have y0 : w1.cell? ⟨g0, i * 3, none⟩ = some xn := by rw [World.ownsRow.cellAt ho _ (by omega)]; exact z0
    have y1 : w1.cell? ⟨g0, i * 3 + 1, none⟩ = some xd := by rw [World.ownsRow.cellAt ho _ (by omega)]; exact z1
    have y2 : w1.cell? ⟨g0, i * 3 + 2, none⟩ = some (.int .i64 fs[i].s) := by rw [World.ownsRow.cellAt ho _ (by omega)]; exact z2
    obtain ⟨xna, xnc, hxn, _, _⟩ := on.sl
    obtain ⟨xda, xdc, hxd, _, _⟩ := od.sl
    simp only at hxn hxd
    have hgh : g0 ≠ h := fun e => by
      obtain ⟨cur, hc⟩ := own_type ho (k := g0) rfl
      rw [e, H1.hp] at hc
      cases hc
    have hBg := (own_cap ho).2.2.1
    have hgl := (own_cap ho).2.2.2
    have hcap := (own_cap ho).1
    subst hxn hxd
    have hil : (i : Int) < fs.length := by omega
    obtain ⟨W2, hW2⟩ : ∃ W2, W2 = w1.alloc (Obj.cells #[.slice xna fs[i].n.length xnc, .slice xda fs[i].d.length xdc, .int .i64 fs[i].s] 45) := ⟨_, rfl⟩
    have gA : w1.grownBy W2 none := by rw [hW2]; exact World.grownBy_alloc _ _ _
    have sA : W2.heap.size = w1.heap.size + 1 := by rw [hW2]; simp
    have k0 : W2.cell? ⟨w1.heap.size, 0, none⟩ = some (.slice xna fs[i].n.length xnc) := by rw [hW2]; simp [go_sem]
    have k1 : W2.cell? ⟨w1.heap.size, 1, none⟩ = some (.slice xda fs[i].d.length xdc) := by rw [hW2]; simp [go_sem]
    have k2 : W2.cell? ⟨w1.heap.size, 2, none⟩ = some (.int .i64 fs[i].s) := by rw [hW2]; simp [go_sem]
    have kf : W2.frozen? ⟨w1.heap.size, 0, none⟩ = false := by rw [hW2]; simp [go_sem]
    have HCl := hide (HC.out W2 (grown_trans g gA))
    have HW2 := hide hW2
    rw [hW2] at HCl
    have HGA := hide gA
    have HH1 := hide H1
    have HON := hide on
    have HOD := hide od
    have HNB := hide hnb
    have HT := hide ht
    have HX := hide hx
    clear HF HC HNm H1 ho ht g gA hW2 on od hnb z0 z1 z2 hpos
    go_wp2_with fail
    rw [heq] at HCl
    refine HCl.out.mono ?_
    rintro e w3 ⟨x1, rfl, o3, g3⟩
    have hW2 := HW2.out
    rw [heq] at hW2
    rw [← hW2] at o3 g3
    obtain ⟨x1a, x1c, hx1, _, _⟩ := o3.sl
    have m0 := g3.cell k0 (by simp)
    have m1 := g3.cell k1 (by simp)
    have m2 := g3.cell k2 (by simp)
    have mf := (World.frozen?_of_block (a := ⟨w1.heap.size, 0, none⟩) (g3.block w1.heap.size (by omega) (by simp))).trans kf
    have hs3 := g3.size
    obtain ⟨w4, hw4⟩ : ∃ w4, w4 = w3.setCell ⟨w1.heap.size, 0, none⟩ x1 := ⟨_, rfl⟩
    have gS : w3.grownBy w4 (some w1.heap.size) := by rw [hw4]; exact ⟨rfl, rfl, rfl, by simp, fun k _ hn => Below.heap_setCell _ _ _ _ (fun e => hn (by rw [e]))⟩
    have g14 : w1.grownBy w4 none := grown_new (grown_trans HGA.out g3) gS (fun j e => by cases e; exact Nat.le_refl _)
    have H4 := HH1.out.later g14
    have n0 : w4.cell? ⟨w1.heap.size, 0, none⟩ = some x1 := by rw [hw4]; exact World.cell?_setCell_same _ _ _ m0
    have n1 : w4.cell? ⟨w1.heap.size, 1, none⟩ = some (.slice xda fs[i].d.length xdc) := by rw [hw4, World.cell?_setCell_other _ _ _ _ (by simp)]; exact m1
    have n2 : w4.cell? ⟨w1.heap.size, 2, none⟩ = some (.int .i64 fs[i].s) := by rw [hw4, World.cell?_setCell_other _ _ _ _ (by simp)]; exact m2
    have hc4 := H4.cell
    have hs4 := g14.size
    have hx4 : w4.heap.size = w3.heap.size := by rw [hw4]; simp
    obtain ⟨ys, ho4, ht4⟩ := id H4.lo
    have HD := hide (delete_any g0 fs.length vc i (cellsF fs ys) B w4 ho4 hi (by omega) (cellsF_oneL ht4))
    have HO1 : Hid (OwB W2.heap.size w4 x1 m) := o3.beside gS (fun k hk j hj e => by cases hj; have := World.ownsRow.lt o3 _ hk; omega)
    have HOd : Hid (OwB B w4 (.slice xda fs[i].d.length xdc) fs[i].d) := HOD.out.later g14
    have HT4 := hide ht4
    have HH4 := hide H4
    have G14 := hide g14
    have HW4 := hide hw4
    subst hx1
    have hw1 : IntKind.i64.wrap ((i : Int) + 1) = (i : Int) + 1 := by rw [IntKind.wrap_i64]; omega
    have hc5 := hc4
    rw [hw4] at hc5
    have HD5 := HD
    rw [hw4] at HD5
    have hh4 : h < w4.heap.size := by omega
    have hg4 : g0 < w4.heap.size := by omega
    clear o3 g3 gS g14 H4 ho4 ht4 hW2 HCl k0 k1 k2 kf HD hw4
    go_wp2_with fail
    refine HD5.out.mono ?_
    rintro e w5 ⟨rfl, o5, g5⟩
    rw [← HW4.out] at g5
    have hp5 : w5.heap[h]? = _ := (g5.block h hh4 (by simpa using fun e => hgh e.symm)).trans HH4.out.hp
    have cc5 : w5.cell? ⟨h, 0, none⟩ = some (.slice (some ⟨g0, 0, none⟩) fs.length vc) := by rw [cell_of_row w5 h 0 _ _ (0, 0) hp5]; rfl
    have f5 : w5.frozen? ⟨h, 0, none⟩ = false := frozen_of_row w5 h 0 _ _ hp5
    have L5 := LoF.del HT4.out hi o5 g5
    have H6 := HL.put hp5 hBh L5
    obtain ⟨w6, hw6⟩ : ∃ w6, w6 = w5.setCell ⟨h, 0, none⟩ (.slice (some ⟨g0, 0, none⟩) (fs.length - 1) vc) := ⟨_, rfl⟩
    have gS6 : w5.grownBy w6 (some h) := by rw [hw6]; exact ⟨rfl, rfl, rfl, by simp, fun k _ hn => Below.heap_setCell _ _ _ _ (fun e => hn (by rw [e]))⟩
    rw [← hw6] at H6
    have hP : w1.heap.size ≠ g0 := by omega
    have hPh : w1.heap.size ≠ h := by omega
    have t0 := gS6.cell (g5.cell n0 (by simpa using hP)) (by simpa using hPh)
    have t1 := gS6.cell (g5.cell n1 (by simpa using hP)) (by simpa using hPh)
    have t2 := gS6.cell (g5.cell n2 (by simpa using hP)) (by simpa using hPh)
    have B6 : Below B w w6 := ((HB1.out.trans ((below_of_grown G14.out).mono (by omega))).trans ((Below.refl B w4).grown g5 (by omega) (fun k e => by cases e; exact hBg))).trans (by rw [hw6]; exact (Below.refl B w5).setCell (by simpa using hBh) _)
    have hty : ∀ {u : Value} {zs : List Int} {B' : Nat}, OwB B' w5 u zs → u.ownBlock ≠ some h := fun o e => by
      obtain ⟨cur, hc⟩ := own_type o e
      rw [hp5] at hc
      cases hc
    have q1 : OwB W2.heap.size w5 (.slice x1a m.length x1c) m := HO1.out.beside g5 (fun k hk j hj e => by cases hj; have := World.ownsRow.lt HO1.out _ hk; omega)
    have q2 : OwB B w5 (.slice xda fs[i].d.length xdc) fs[i].d := HOd.out.beside g5 (fun k hk j hj e => by cases hj; exact (HNB.out g0 rfl).2 (by rw [← e]; exact hk))
    have r1 : OwB B w6 (.slice x1a m.length x1c) m := row_base (by omega) (q1.beside gS6 (fun k hk j hj e => by cases hj; subst e; exact hty q1 hk))
    have r2 : OwB B w6 (.slice xda fs[i].d.length xdc) fs[i].d := q2.beside gS6 (fun k hk j hj e => by cases hj; subst e; exact hty q2 hk)
    have hl6 : (fs.take i ++ fs.drop (i + 1)).length = fs.length - 1 := by simp; omega
    have hne1 : (Value.slice x1a m.length x1c).ownBlock ≠ some g0 := fun e2 => by have := World.ownsRow.lt HO1.out g0 e2; omega
    have hne2 : ∀ k, g0 = k → (Value.slice x1a m.length x1c).ownBlock ≠ some k ∧ (Value.slice xda fs[i].d.length xdc).ownBlock ≠ some k := fun k e => by rw [← e]; exact ⟨hne1, (HNB.out g0 rfl).2⟩
    have HPut := hide (put_new B h (.slice (some ⟨g0, 0, none⟩) (fs.length - 1) vc) (.slice x1a m.length x1c) (.slice xda fs[i].d.length xdc) (fs.take i ++ fs.drop (i + 1)) { fs[i] with n := m } a0 a1 a2 w6 H6 (HDd.out.sub (by rw [hl6]; omega) del_mem) (valid_del HVl.out i) r1 r2 (fun k e => hne2 k (by simpa [Value.ownBlock] using e)) hbm hokm (find_of_none fun p hp => find_noneF hto p (del_mem p hp)) (by rw [hl6]; omega) (he w6 B6))
    have HB6 := hide B6
    have HW6 := hide hw6
    rw [hw6] at t0 t1 t2
    have HPut6 := HPut
    rw [hw6] at HPut6
    clear hp5 L5 H6 gS6 q1 q2 r1 r2 o5 g5 B6 HD5 hw6 hty HPut
    go_wp2_with fail
    refine HPut6.out.mono ?_
    rintro e w7 ⟨rfl, k, hpk, hL⟩
    rw [← HW6.out] at hL
    have HR := hide (hL.pre HB6.out)
    have HPk := hide hpk
    clear hL hpk
    go_wp2
    go_ret
    exact ⟨rfl, i, k, hi, HQ.out, HPk.out, HR.out⟩
end Go.Proofs.YtakkdniikhgpdaaGreatDoor

