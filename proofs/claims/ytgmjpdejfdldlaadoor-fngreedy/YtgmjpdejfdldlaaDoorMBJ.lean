import Derived.Stop.RegionWithIn
import Derived.Test.YtgmjpdejfdldlaaDoorMBI
namespace Go.Proofs.YtgmjpdejfdldlaaDoor
open Go.RowKit Go.Shelf
attribute [local go_sem] Oper.semAt_some

theorem preos_len (fl : Bool) : ∀ (r : List Tr), (preos fl r).length ≤ szs r
  | [] => by simp [preos, szs]
  | x :: r => by
    have := preos_len fl r
    have h2 : ∀ T : Tr, (preo fl T).length ≤ sz T := by
      intro T
      induction T with
      | leaf p => simp [preo, sz]
      | un p x ih => simp only [preo, sz, List.length_cons]; omega
      | bin p x y ihx ihy =>
        simp only [preo, sz, List.length_cons]
        split
        · simp only [List.length_append]; omega
        · split <;> omega
    have := h2 x
    simp only [preos, szs, List.length_append]
    omega

abbrev valsOf {n₀ : Nat} {w0 : World} (ws : List (Nd n₀ w0)) : List Value := ws.map (·.1.1)
abbrev treesOf {n₀ : Nat} {w0 : World} (ws : List (Nd n₀ w0)) : List Tr := ws.map (·.1.2)

/-- Where the iterator stands between two rounds: the work, and what has come. -/
def It (n₀ tb fb : Nat) (fl : Bool) (w0 W : World) (root : Nd n₀ w0) (I : List (Nd n₀ w0) → World → Prop) (R : World → Prop) (k : Nat) (v : Value) (wr : World) : Prop :=
  ∃ (ws pre : List (Nd n₀ w0)), wr.ownsRow W.heap.size 70 1 v ws.length (valsOf ws) ∧ k = szs (treesOf ws).reverse ∧ k ≤ 140000 ∧ Hid (treesOf pre ++ preos fl (treesOf ws).reverse = preo fl root.1.2) ∧ I pre wr ∧ R wr ∧ Below n₀ w0 wr ∧ W.heap.size ≤ wr.heap.size ∧ Boxed wr fb 4 (.bool fl) ∧ ¬ Xt tb wr fb ∧ (∀ b, Xt tb wr b → b < wr.heap.size) ∧ (∀ g, v.ownBlock = some g → ¬ Xt tb wr g)

/-- The row behind a round. -/
theorem row_kept {n₀ tb : Nat} {A B : World} {W0 : Nat} {v : Value} {n : Nat} {vs : List Value} (h : A.ownsRow W0 70 1 v n vs) (k : KpX n₀ tb A B) (hap : ∀ g, v.ownBlock = some g → ¬ Xt tb A g) : B.ownsRow W0 70 1 v n vs := by
  refine ⟨h.1, ?_⟩
  rcases h.2 with h1 | ⟨g, cap, cur, hv, hb, hg, rest⟩
  · exact .inl h1
  · exact .inr ⟨g, cap, cur, hv, hb, k.blk g _ hg rfl (hap g (by rw [hv]; rfl)), rest⟩

theorem it_next {n₀ tb fb : Nat} {fl : Bool} {w0 W : World} {root : Nd n₀ w0} {I : List (Nd n₀ w0) → World → Prop} {R : World → Prop} (hR : ∀ A B, R A → KeepsOthers A B → R B)
    (hI : ∀ s A B row, I s A → A.grownBy B row → (∀ g, row = some g → W.heap.size ≤ g ∧ ¬ Xt tb A g) → I s B) (hn₀ : n₀ ≤ W.heap.size) (hfb : fb < W.heap.size)
    {ws pre ks : List (Nd n₀ w0)} {x : Nd n₀ w0} {g cap : Nat} {A B C : World} {v' : Value} (hks : treesOf ks = kids fl x.1.2)
    (hrow : A.ownsRow W.heap.size 70 1 (.slice (some ⟨g, 0, none⟩) (ws ++ [x]).length cap) (ws ++ [x]).length (valsOf (ws ++ [x]))) (hk2 : szs (treesOf (ws ++ [x])).reverse ≤ 140000) (HS : Hid (treesOf pre ++ preos fl (treesOf (ws ++ [x])).reverse = preo fl root.1.2))
    (hbl : Below n₀ w0 A) (hWs : W.heap.size ≤ A.heap.size) (hbx : Boxed A fb 4 (.bool fl)) (hfx : ¬ Xt tb A fb) (hxb : ∀ b, Xt tb A b → b < A.heap.size) (hap : ¬ Xt tb A g)
    (hIB : I (pre ++ [x]) B) (hRB : R B) (hk : KpX n₀ tb A B) (hnew : C.ownsRow W.heap.size 70 1 v' (ws.length + (valsOf ks).reverse.length) (valsOf ws ++ (valsOf ks).reverse)) (hgr : B.grownBy C (some g)) (hat : v'.ownBlock = some g ∨ ∃ g', v'.ownBlock = some g' ∧ B.heap.size ≤ g') :
    ∃ k', k' < szs (treesOf (ws ++ [x])).reverse ∧ It n₀ tb fb fl w0 W root I R k' v' C := by
  have hglt := World.ownsRow.lt hrow g rfl
  have hBs := hk.bel.size
  have hCs := hgr.size
  have hXg : ¬ Xt tb B g := fun h => by rcases hk.mono g h with h1 | h1; exact hap h1; omega
  have htg : tb ≠ g := fun e => hXg (.inl e.symm)
  have hrowB := row_kept hrow hk (fun g' e => by cases e; exact hap)
  have htb := hxb tb (.inl rfl)
  have hXC : ∀ b, Xt tb C b ↔ Xt tb B b := Xt_same (hgr.block tb (by omega) (by simp; exact htg))
  have hbxB : Boxed B fb 4 (.bool fl) := hk.blk fb _ hbx rfl hfx
  have hrev : (treesOf (ws ++ [x])).reverse = x.1.2 :: (treesOf ws).reverse := by simp [treesOf]
  have hrev2 : (treesOf (ws ++ ks.reverse)).reverse = kids fl x.1.2 ++ (treesOf ws).reverse := by rw [← hks]; simp [treesOf]
  have hksz := kids_sz fl x.1.2 (treesOf ws).reverse
  rw [hrev] at hk2
  have HS' := HS.out
  rw [hrev, preos_cons] at HS'
  refine ⟨szs (treesOf (ws ++ ks.reverse)).reverse, by rw [hrev, hrev2]; omega, ws ++ ks.reverse, pre ++ [x], ?_, rfl, by rw [hrev2]; omega, ?_, ?_, ?_, ?_, by omega, ?_, ?_, ?_, ?_⟩
  · have e1 : (ws ++ ks.reverse).length = ws.length + (valsOf ks).reverse.length := by simp [valsOf]
    have e2 : valsOf (ws ++ ks.reverse) = valsOf ws ++ (valsOf ks).reverse := by simp [valsOf]
    rw [e1, e2]; exact hnew
  · unfold Hid
    rw [hrev2, ← HS']
    simp [treesOf]
  · exact hI _ _ _ _ hIB hgr (fun g' e => by cases e; exact ⟨hglt.1, hXg⟩)
  · refine hR _ _ hRB (KeepsOthers.of_grownBy hgr (fun j o e ho => ?_))
    cases e
    rcases hrowB.2 with ⟨h1, _⟩ | ⟨g2, cap2, cur, hv, _, hg, _⟩
    · cases h1
    · cases hv
      rw [hg] at ho; cases ho; rfl
  · exact (hbl.trans hk.bel).grown hgr (by omega) (fun k e => by cases e; omega)
  · exact hbxB.kept hgr (by simp; omega)
  · intro h
    rcases hk.mono fb ((hXC fb).1 h) with h1 | h1
    · exact hfx h1
    · omega
  · intro b hb
    rcases hk.mono b ((hXC b).1 hb) with h1 | h1
    · have := hxb b h1; omega
    · omega
  · intro g2 hg2 h
    have h3 := (hXC g2).1 h
    rcases hat with h1 | ⟨g', h1, h2⟩
    · rw [h1] at hg2; cases hg2; exact hXg h3
    · rw [h1] at hg2; cases hg2
      rcases hk.mono _ h3 with h4 | h4
      · have := hxb _ h4; omega
      · omega

set_option maxRecDepth 100000 in
set_option maxHeartbeats 4000000 in
theorem metIn1_in (n : Nat) (hn : 1 ≤ n) (l rb fb tb n₀ : Nat) (fl : Bool) (w0 : World) (root : Nd n₀ w0) (I Ix : List (Nd n₀ w0) → World → Prop) (R Rx : World → Prop) (N : Nat) (hN : (preo fl root.1.2).length ≤ N) (hsz : sz root.1.2 ≤ 140000) (W : World)
    (hR : ∀ A B, R A → KeepsOthers A B → R B)
    (hI : ∀ s A B row, I s A → A.grownBy B row → (∀ g, row = some g → W.heap.size ≤ g ∧ ¬ Xt tb A g) → I s B)
    (hY : ∀ pre x A, I pre A → R A → pre.length < N → YieldAt Fence.wide (n - 1) Tryd.prog l #[x.1.1] A fun e B => (e = .returned (.bool true) ∧ I (pre ++ [x]) B ∧ KpX n₀ tb A B ∧ R B) ∨ (e = .returned (.bool false) ∧ Ix (pre ++ [x]) B ∧ Rx B))
    (hrb : Boxed W rb 70 root.1.1) (hfb : Boxed W fb 4 (.bool fl)) (hbel : Below n₀ w0 W) (hn₀ : n₀ ≤ W.heap.size) (hfx : ¬ Xt tb W fb) (hxb : ∀ b, Xt tb W b → b < W.heap.size) (h0 : I [] W) (hRW : R W) :
    CallsIn Fence.wide n Tryd.prog 52 #[.func (.yield l) #[] #[], .pointer (some ⟨rb, 0, none⟩), .pointer (some ⟨fb, 0, none⟩)] W fun e B => (∃ v, e = .returned v) ∧
      ((∃ ys, treesOf ys = preo fl root.1.2 ∧ I ys B ∧ R B) ∨ (∃ pre, treesOf pre <+: preo fl root.1.2 ∧ Ix pre B ∧ Rx B)) := by
  have hnot : ∀ (x : Bool) (w : World), (Op.unary .not (.bool x)).run Tryd.prog w = .ok (.bool (!x)) w := fun _ _ => rfl
  have hc := hrb.cell
  obtain ⟨rt, ru, hroot⟩ := root.2.1.form
  rw [hroot] at hc
  have HRoot : Hid (root.1.1 = .iface rt ru) := hroot
  have H0 : Hid (I [] W) := h0
  have HRW : Hid (R W) := hRW
  clear hrb hroot h0 hRW
  refine callsIn_of_wp Tryd.func52 rfl trivial ?_ rfl
  simp only [Tryd.ntmps52, List.size_toArray, List.length_cons, List.length_nil, Nat.reduceAdd, Nat.reduceSub, Array.replicate_succ, Array.replicate_zero, List.push_toArray, List.append_toArray, List.nil_append, List.cons_append]
  gi_wp2
  gi_loopg [4] (szs [root.1.2]) (fun k v wr => It n₀ tb fb fl w0 W root I R k v wr)
  case atStart =>
    have hg : W.grownBy (W.alloc (.cells #[.iface rt ru] 70)) none := World.grownBy_alloc _ _ _
    have htb : tb < W.heap.size := hxb tb (.inl rfl)
    have hX : ∀ b, Xt tb (W.alloc (.cells #[.iface rt ru] 70)) b ↔ Xt tb W b := Xt_same (hg.block tb htb (by simp))
    refine ⟨[root], [], ?_, by simp [treesOf], by simpa [szs] using hsz, by unfold Hid; simp [treesOf, preos], hI _ _ _ none H0.out hg (fun g e => by cases e), hR _ _ HRW.out (KeepsOthers.alloc _ _), hbel.grown hg hn₀ (fun k e => by cases e), by simp, hfb.kept hg (by simp), fun h => hfx ((hX fb).1 h), fun b hb => by have := hxb b ((hX b).1 hb); simp; omega, fun g hg' h => ?_⟩
    · have := World.ownsRow_lit (base := W.heap.size) (e := 70) (size := 1) W #[.iface rt ru] 1 (Nat.le_refl _) (by unfold maxLen; omega) (by simp)
      simpa [valsOf, HRoot.out] using this
    · simp [Value.ownBlock] at hg'
      subst hg'
      have := hxb _ ((hX _).1 h)
      omega
  case round =>
    obtain ⟨ws, pre, hrow, hk, hk2, HSeq, hIp, hRp, hbl, hWs, hbx, hfx', hxb', hap⟩ := hrel
    have HIp : Hid (I pre wr) := hIp
    have HRp : Hid (R wr) := hRp
    have HI := hI
    have HR := hR
    have HY := hY
    rcases List.eq_nil_or_concat ws with hws | ⟨ws', x, hws⟩
    · subst hws
      obtain ⟨va, vcap, hv, _, _⟩ := row_form hrow
      have HD : Hid (treesOf pre = preo fl root.1.2) := by unfold Hid; rw [← HSeq.out]; simp [treesOf, preos]
      subst hv
      clear hrow HSeq hI hR hY hIp hRp hk hap hxb' hxb hfx hfx'
      gi_wp2
      go_end0
      exact ⟨⟨_, rfl⟩, .inl ⟨pre, HD.out, HIp.out, HRp.out⟩⟩
    · rw [List.concat_eq_append] at hws
      subst hws
      rcases hrow.2 with ⟨_, hz⟩ | ⟨g, cap, cur, hv, hbg, hg, hnc, hcm, hcs, htk⟩
      · simp at hz
      · subst hv
        have hgx : ¬ Xt tb wr g := hap g rfl
        have hcx := World.ownsRow.cellAt hrow ws'.length (by simp)
        have hcxv : (valsOf (ws' ++ [x]))[ws'.length]? = some x.1.1 := by simp [valsOf]
        rw [hcxv] at hcx
        obtain ⟨t, v, ks, hxv, hks, hna, rv, hcl⟩ := pushes n₀ w0 fl x
        have hprel : pre.length < N := by
          have h1 := congrArg List.length HSeq.out
          have h2 : (treesOf (ws' ++ [x])).reverse = x.1.2 :: (treesOf ws').reverse := by simp [treesOf]
          rw [h2, preos_cons] at h1
          simp [treesOf] at h1
          omega
        have hYt := hY pre x wr hIp hRp hprel
        have hlen : (ws' ++ [x]).length = ws'.length + 1 := by simp
        have hwl : ws'.length ≤ 1048576 := by
          have h1 := length_szs (treesOf (ws' ++ [x])).reverse
          simp [treesOf] at h1
          simp [treesOf] at hk
          omega
        unfold maxLen at hcm
        have HROW := hrow
        have HRow : Hid (wr.ownsRow W.heap.size 70 1 (.slice (some ⟨g, 0, none⟩) (ws' ++ [x]).length cap) (ws' ++ [x]).length (valsOf (ws' ++ [x]))) := hrow
        rw [hxv] at hcx hYt
        rw [hlen] at hnc ⊢
        obtain ⟨fn, tmps, assign, body, hy, hRd⟩ := hYt
        have HK2 : Hid (szs (treesOf (ws' ++ [x])).reverse ≤ 140000) := by unfold Hid; rw [← hk]; exact hk2
        have HKK : Hid (gk = szs (treesOf (ws' ++ [x])).reverse) := hk
        clear hrow HROW hg hcs htk hI hR hY hIp hRp hap hk hk2 hcxv
        gi_wp2
        refine hRd.mono ?_
        rintro e W3 (⟨rfl, hI3, hk3, hR3⟩ | ⟨rfl, hIx3, hRx3⟩)
        · have hrow3 := row_kept HRow.out hk3 (fun g' e => by cases e; exact hgx)
          have hbx3 : Boxed W3 fb 4 (.bool fl) := hk3.blk fb _ hbx rfl hfx'
          have hc3 := hbx3.cell
          have hs3 : W.heap.size ≤ W3.heap.size := Nat.le_trans hWs hk3.bel.size
          have hbl3 := hbl.trans hk3.bel
          have hbl3d : Below n₀ w0 W3.drew := hbl3.drew
          have hcut0 := row_cut hrow3 (m := ws'.length) (by simp)
          have hcut : W3.drew.ownsRow W.heap.size 70 1 (.slice (some ⟨g, 0, none⟩) ws'.length cap) ws'.length (valsOf ws') := by
            have e1 : (valsOf (ws' ++ [x])).take (ws'.length * 1) = valsOf ws' := by simp [valsOf]
            rw [e1] at hcut0
            exact hcut0
          have FIN : Hid (∀ (C : World) (v' : Value), C.ownsRow W.heap.size 70 1 v' (ws'.length + (valsOf ks).reverse.length) (valsOf ws' ++ (valsOf ks).reverse) → W3.grownBy C (some g) → (v'.ownBlock = some g ∨ ∃ g', v'.ownBlock = some g' ∧ W3.heap.size ≤ g') → ∃ k', k' < gk ∧ It n₀ tb fb fl w0 W root I R k' v' C) := by
            intro C v' h1 h2 h3
            rw [HKK.out]
            exact it_next HR HI hn₀ hfb.lt hks HRow.out HK2.out HSeq hbl hWs hbx hfx' hxb' hgx hI3 hR3 hk3 h1 h2 h3
          clear hrow3 hcut0 hI3 hR3 hk3 HSeq hxb' hxb hbl3 HRow HIp HRp HI HR HY hbx hbx3 hbl HK2 HKK
          rcases hcl with ⟨hme, hpush⟩ | ⟨hme, hpush⟩ | ⟨hme, hpush⟩ | ⟨hme, hpush⟩
          · have hna2 := hna
            have hme2 := hme W3.drew hbl3d
            have hpu := hpush W.heap.size W3.drew _ ws'.length (valsOf ws') hn₀ hs3 hbl3d hwl hcut
            clear hna hme hpush hcut hbl3d hs3 hwl hgx hks
            gi_wp2
            gi_region_with (refine ⟨trivial, ?_⟩; gi_at_call 103; refine (callsIn_wide.2 hpu).mono ?_; rintro e W5 ⟨v5, rfl, o5, g5, a5⟩)
            all_goals
              obtain ⟨k', hk', hit⟩ := FIN.out W5 v5 o5 ⟨g5.os, g5.tape, g5.output, g5.size, g5.block⟩ a5
              clear o5 g5 a5 FIN
              gi_wp2
              gi_roundg k'
              case measure => exact hk'
              case rel => exact hit
          · have hna2 := hna
            have hme2 := hme W3.drew hbl3d
            have hpu := hpush W.heap.size W3.drew _ ws'.length (valsOf ws') hn₀ hs3 hbl3d hwl hcut
            clear hna hme hpush hcut hbl3d hs3 hwl hgx hks
            gi_wp2
            gi_region_with (refine ⟨trivial, ?_⟩; gi_at_call 104; refine (callsIn_wide.2 hpu).mono ?_; rintro e W5 ⟨v5, rfl, o5, g5, a5⟩)
            all_goals
              obtain ⟨k', hk', hit⟩ := FIN.out W5 v5 o5 ⟨g5.os, g5.tape, g5.output, g5.size, g5.block⟩ a5
              clear o5 g5 a5 FIN
              gi_wp2
              gi_roundg k'
              case measure => exact hk'
              case rel => exact hit
          · have hna2 := hna
            have hme2 := hme W3.drew hbl3d
            have hpu := hpush W.heap.size W3.drew _ ws'.length (valsOf ws') hn₀ hs3 hbl3d hwl hcut
            clear hna hme hpush hcut hbl3d hs3 hwl hgx hks
            gi_wp2
            gi_region_with (refine ⟨trivial, ?_⟩; gi_at_call 105; refine (callsIn_wide.2 hpu).mono ?_; rintro e W5 ⟨v5, rfl, o5, g5, a5⟩)
            all_goals
              obtain ⟨k', hk', hit⟩ := FIN.out W5 v5 o5 ⟨g5.os, g5.tape, g5.output, g5.size, g5.block⟩ a5
              clear o5 g5 a5 FIN
              gi_wp2
              gi_roundg k'
              case measure => exact hk'
              case rel => exact hit
          · have hna2 := hna
            have hme2 := hme W3.drew hbl3d
            have hpu := hpush W.heap.size W3.drew _ ws'.length (valsOf ws') hn₀ hs3 hbl3d hwl hcut
            clear hna hme hpush hcut hbl3d hs3 hwl hgx hks
            gi_wp2
            gi_region_with (refine ⟨trivial, ?_⟩; gi_at_call 106; refine (callsIn_wide.2 hpu).mono ?_; rintro e W5 ⟨v5, rfl, o5, g5, a5⟩)
            all_goals
              obtain ⟨k', hk', hit⟩ := FIN.out W5 v5 o5 ⟨g5.os, g5.tape, g5.output, g5.size, g5.block⟩ a5
              clear o5 g5 a5 FIN
              gi_wp2
              gi_roundg k'
              case measure => exact hk'
              case rel => exact hit
        · clear hcl hna
          have HPre : Hid (treesOf (pre ++ [x]) <+: preo fl root.1.2) := by
            unfold Hid
            rw [← HSeq.out, show (treesOf (ws' ++ [x])).reverse = x.1.2 :: (treesOf ws').reverse by simp [treesOf], preos_cons]
            exact ⟨preos fl (kids fl x.1.2 ++ (treesOf ws').reverse), by simp [treesOf]⟩
          clear HSeq
          gi_wp2
          refine bodyPost_ret (results_none rfl _ _ _) rfl ?_
          exact ⟨⟨_, rfl⟩, .inr ⟨_, HPre.out, hIx3, hRx3⟩⟩

end Go.Proofs.YtgmjpdejfdldlaaDoor

