import Derived.Test.YtgmjpdejfdldlaaDoorMAV
import Derived.Test.YtgmjpdejfdldlaaDoorMAZ
namespace Go.Proofs.YtgmjpdejfdldlaaDoor

/-! Every group that is met is flat exactly if its line has room. -/

/-- A text whose last line has this width. -/
def LastLn (out : List Int) (col : Int) : Prop := ∃ a l, out = a ++ l ∧ (a = [] ∨ ∃ a', a = a' ++ [10]) ∧ (10 : Int) ∉ l ∧ Bys l ∧ 0 ≤ widthR l ∧ widthR l = col
theorem LastLn.nil : LastLn [] 0 := ⟨[], [], rfl, .inl rfl, by simp, fun z hz => by simp at hz, by rw [width_nil]; omega, width_nil⟩
theorem LastLn.text {out t : List Int} {col : Int} (h : LastLn out col) (ht : (10 : Int) ∉ t) (hb : Bys t) (hw : 0 ≤ widthR t) : LastLn (out ++ t) (col + widthR t) := by
  obtain ⟨a, l, rfl, h1, h2, h3, h4, rfl⟩ := h
  refine ⟨a, l ++ t, by simp, h1, fun hm => ?_, bys_app h3 hb, ?_, width_add h3 hb h4 hw⟩
  · rcases List.mem_append.1 hm with hm | hm
    · exact h2 hm
    · exact ht hm
  · rw [width_add h3 hb h4 hw]; omega
theorem bys_sp (n : Nat) : Bys (List.replicate n 32) := fun z hz => by
  have := List.eq_of_mem_replicate hz
  omega
theorem width_sp : ∀ n : Nat, widthR (List.replicate n 32) = n
  | 0 => width_nil
  | n + 1 => by
    have h1 : widthR [32] = 1 := by decide
    rw [List.replicate_succ, show (32 : Int) :: List.replicate n 32 = [32] ++ List.replicate n 32 from rfl, width_add (show Bys [32] from bys_sp 1) (bys_sp n) (by rw [h1]; omega) (by rw [width_sp n]; omega), h1, width_sp n]
    omega
theorem LastLn.line (out : List Int) (n : Nat) : LastLn (out ++ 10 :: List.replicate n 32) n :=
  ⟨out ++ [10], List.replicate n 32, by simp, .inr ⟨out, rfl⟩, fun hm => by have := List.eq_of_mem_replicate hm; omega, bys_sp n, by rw [width_sp n]; omega, width_sp n⟩

def InI (g : Nat) (its : List Item) : Prop := ∃ s ∈ its, s.n ≤ g ∧ g < s.n + cntG s.T
theorem InI.tail {g : Nat} {it : Item} {r : List Item} (h : InI g r) : InI g (it :: r) := by
  obtain ⟨s, hs, h⟩ := h
  exact ⟨s, List.mem_cons_of_mem _ hs, h⟩
theorem InI.head {g : Nat} {it it' : Item} {r : List Item} (h : InI g (it' :: r)) (h' : it'.n ≤ g → g < it'.n + cntG it'.T → it.n ≤ g ∧ g < it.n + cntG it.T) : InI g (it :: r) := by
  obtain ⟨s, hs, h1, h2⟩ := h
  rcases List.mem_cons.1 hs with rfl | hs
  · exact ⟨it, by simp, h' h1 h2⟩
  · exact ⟨s, List.mem_cons_of_mem _ hs, h1, h2⟩
theorem InI.ne {g g' : Nat} {its : List Item} (h : InI g its) (ho : OffI g' its) : g ≠ g' := by
  obtain ⟨s, hs, h1, h2⟩ := h
  have := ho s hs
  omega

/-- What is said of a group that was met. -/
def EntOk (doc : List Pc) (st : List Int) (width : Int) (gs : List Int) (f : Nat) (its : List Item) (out met : List Int) (col : Int) (e : Int × Int) : Prop :=
  ∃ (p : Pc) (x : Tr) (a i : Nat), doc[i]? = some p ∧ p.k = 8 ∧ Seg doc st x a i ∧ okN x ∧ nestT x ≤ 4000 ∧ e.1 = (grp doc i : Int) ∧ InI (grp doc i) its ∧ 0 ≤ e.2 ∧
    (gs[grp doc i]? = some 1 ∨ gs[grp doc i]? = some 2) ∧ (flatT x [] = none → gs[grp doc i]? = some 2) ∧
    ∀ part, flatT x [] = some part → ∀ S : WS, S.past = false → S.taken = met →
      ∃ l1 l2 l3 l4, lay 0 (some (goI gs (grp doc i) true its S).taken) f its out met col = some (l1 ++ l2 ++ l3 ++ l4, (goI gs (grp doc i) true its S).taken) ∧ e.2 = ((l1 ++ l2).length : Int) ∧
        (l1 = [] ∨ ∃ a', l1 = a' ++ [10]) ∧ (10 : Int) ∉ l2 ∧ (10 : Int) ∉ l3 ∧ (l4 = [] ∨ ∃ b, l4 = 10 :: b) ∧ part.length ≤ l3.length ∧ (widthR (l2 ++ l3) ≤ width ↔ gs[grp doc i]? = some 1) ∧ Bys (l2 ++ l3)

section
variable {doc : List Pc} {st : List Int} {width : Int} {gs : List Int}
theorem EntOk.back {f : Nat} {its its' : List Item} {out out' met met' : List Int} {col col' : Int} {e : Int × Int} (h : EntOk doc st width gs f its' out' met' col' e) (h1 : ∀ g, InI g its' → InI g its)
    (h2 : ∀ (g : Nat) (S : WS), InI g its' → S.past = false → S.taken = met → ∃ S' : WS, S'.past = false ∧ S'.taken = met' ∧ goI gs g true its S = goI gs g true its' S' ∧
      lay 0 (some (goI gs g true its' S').taken) (f + 1) its out met col = lay 0 (some (goI gs g true its' S').taken) f its' out' met' col') : EntOk doc st width gs (f + 1) its out met col e := by
  obtain ⟨p, x, a, i, c1, c2, c3, c4, c5, c6, c7, c8, c9, c10, c11⟩ := h
  refine ⟨p, x, a, i, c1, c2, c3, c4, c5, c6, h1 _ c7, c8, c9, c10, fun part hp S hS1 hS2 => ?_⟩
  obtain ⟨S', d1, d2, d3, d4⟩ := h2 _ S c7 hS1 hS2
  rw [d3, d4]
  exact c11 part hp S' d1 d2

/-- The group itself. -/
theorem ent_self {f : Nat} {p : Pc} {x : Tr} {n : Nat} {ind : Int} {r : List Item} {out met : List Int} {col : Int} (hf : szs (trs r) < f) (hI : Its doc st met.length (⟨.un p x, n, ind⟩ :: r)) (h8 : p.k = 8) (hl : LastLn out col)
    (hg : gs[n + cntG x]? = some 1 ∨ gs[n + cntG x]? = some 2) (hn : flatT x [] = none → gs[n + cntG x]? = some 2) (hs : ∀ part, flatT x [] = some part → (col + widthR part + behind (r.map (·.T)) ≤ width ↔ gs[n + cntG x]? = some 1)) :
    EntOk doc st width gs (f + 1) (⟨.un p x, n, ind⟩ :: r) out met col (((n + cntG x : Nat) : Int), (out.length : Int)) := by
  obtain ⟨b1, b2, b3⟩ := hI.brk h8
  have hr := hI.2.2.2
  have hk := hI.1.k
  obtain ⟨a0, bb, hseg, hga⟩ := hI.1.seg
  obtain ⟨m, q1, q2, q3, q4, q5⟩ := hseg
  have hgm := grp_seg q5
  have hgm' : grp doc m = n + cntG x := by rw [hgm, hga]
  have hok := hI.1.ok
  have hhi := hI.1.hi
  have hlo := hI.1.lo
  simp only [nestT, okN, KOk] at hhi hok hk hlo
  have hnx := hI.1.nl
  simp only [NL] at hnx
  refine ⟨p, x, a0, m, q2, h8, q5, hok.2, by omega, by rw [hgm'], ?_, by simp only; omega, by rw [hgm']; exact hg, by rw [hgm']; exact hn, fun part hp S hS1 hS2 => ?_⟩
  · refine ⟨⟨.un p x, n, ind⟩, by simp, ?_⟩
    rw [hgm']
    simp only [cntG, if_pos h8]
    omega
  · rw [hgm']
    have hfl : isFl gs ((n + cntG x : Nat) : Int) true (n + cntG x) S = true := by unfold isFl; rw [if_pos rfl]
    rw [goI_flat (by omega) hfl]
    have hoff : OffI (n + cntG x) r := offI_tail b3
    have ht2 : (flS (.un p x) n (meetS ((n + cntG x : Nat) : Int) (n + cntG x) S)).taken = markF (.un p x) n met := by rw [← hS2]; rfl
    have hml : (markF (.un p x) n met).length = met.length := markF_len _ _ _
    have e1 : (goI gs ((n + cntG x : Nat) : Int) true r (flS (.un p x) n (meetS ((n + cntG x : Nat) : Int) (n + cntG x) S))).taken[n + cntG x]?.getD 0 = 1 := by
      rw [goI_off r _ hr.kok hoff, ht2]
      simp only [markF, if_pos h8]
      rw [markF_off x n _ (.inr (Nat.le_refl _)), List.getElem?_set_self b2]
      rfl
    obtain ⟨s, h, hfst⟩ := broken_lay (doc := doc) (st := st) (gs := gs) (last := n + cntG x) (fl := true) f r (out ++ part) (flS (.un p x) n (meetS ((n + cntG x : Nat) : Int) (n + cntG x) S)) (col + widthR part) hf (by rw [ht2, hml]; exact hr)
      (by show (S.past || decide (((n + cntG x : Nat) : Int) = ((n + cntG x : Nat) : Int))) = true; rw [decide_eq_true rfl, Bool.or_true]) hoff _ rfl
    obtain ⟨l1, l2, rfl, h1, h2, h3, h4, rfl⟩ := hl
    obtain ⟨a, b, rfl, g1, g2, g3, g4, g5⟩ := hfst
    have hfw := (flat_w x hk.2).1 part hp
    have hfn := flat_nl x part hnx hp
    rw [hfw.1] at hfw
    refine ⟨l1, l2, part ++ a, b, ?_, rfl, h1, h2, fun hm => ?_, g2, by rw [List.length_append]; omega, ?_, bys_app h3 (bys_app hfw.2.2 g3)⟩
    · simp only [lay]
      rw [if_neg (by omega), e1, if_pos rfl, hp]
      simp only
      rw [ht2] at h
      rw [h]
      simp [List.append_assoc]
    · rcases List.mem_append.1 hm with hm | hm
      · exact hfn.1 hm
      · exact g1 hm
    · have hpa : widthR (part ++ a) = widthR part + widthR a := width_add hfw.2.2 g3 hfw.2.1 g4
      rw [width_add h3 (bys_app hfw.2.2 g3) h4 (by omega), hpa, g5, ← hs part hp]
      omega

theorem greedy : ∀ (f : Nat) (its : List Item) (out met : List Int) (col : Int) (r : List Int × List Int) (S : WS), szs (trs its) < f → Its doc st met.length its → LastLn out col → S.past = false → S.taken = met → S.bytes = out.length →
    lay width none f its out met col = some r → (goI r.2 (-1) false its S).taken = r.2 ∧ ∀ e ∈ (goI r.2 (-1) false its S).list, e ∈ S.list ∨ EntOk doc st width r.2 f its out met col e
  | 0, _, _, _, _, _, _, h, _, _, _, _, _, _ => by omega
  | f + 1, [], out, met, col, r, S, _, _, _, _, ht, _, h => by
    simp only [lay, Option.some.injEq] at h
    subst h
    exact ⟨ht, fun e he => .inl he⟩
  | f + 1, ⟨.leaf p, n, ind⟩ :: rest, out, met, col, r, S, hf, hI, hl, hp, ht, hb, h => by
    rw [trs_cons] at hf
    simp only [szs, sz] at hf
    obtain ⟨hg, _, _, hr⟩ := hI
    have hk := hg.k
    have hnl := hg.nl
    have hlo := hg.lo
    simp only [KOk, NL] at hk hnl hlo
    simp only [lay] at h
    by_cases h1 : p.k = 1
    · rw [if_pos h1] at h
      have ih := greedy f rest (out ++ p.t) met _ r (byS p.t.length S) (by omega) hr (hl.text (hnl h1) (hk.2 h1).2 (hk.2 h1).1) hp ht (by show S.bytes + _ = _; rw [hb, List.length_append]; omega) h
      simp only [goI, goT, if_pos h1]
      refine ⟨ih.1, fun e he => (ih.2 e he).imp_right fun h => h.back (fun g hg => hg.tail) fun g S' _ q1 q2 => ⟨byS p.t.length S', q1, q2, by simp only [goI, goT, if_pos h1], by simp only [lay, if_pos h1]⟩⟩
    · rw [if_neg h1] at h
      by_cases h5 : p.k = 5
      · rw [if_pos h5] at h
        have ih := greedy f rest (out ++ [10]) met _ r (byS 1 S) (by omega) hr (by simpa using LastLn.line out 0) hp ht (by show S.bytes + _ = _; rw [hb, List.length_append]; simp) h
        simp only [goI, goT, if_neg h1, if_pos h5]
        refine ⟨ih.1, fun e he => (ih.2 e he).imp_right fun h => h.back (fun g hg => hg.tail) fun g S' _ q1 q2 => ⟨byS 1 S', q1, q2, by simp only [goI, goT, if_neg h1, if_pos h5], by simp only [lay, if_neg h1, if_pos h5]⟩⟩
      · rw [if_neg h5] at h
        by_cases h234 : p.k = 2 ∨ p.k = 3 ∨ p.k = 4
        · rw [if_pos h234] at h
          have hll : LastLn (out ++ newLine ind) ind := by
            have := LastLn.line out ind.toNat
            rwa [show ((ind.toNat : Nat) : Int) = ind by omega] at this
          have ih := greedy f rest (out ++ newLine ind) met _ r (byS (1 + ind) S) (by omega) hr hll hp ht (by show S.bytes + _ = _; rw [hb, List.length_append]; simp only [newLine, List.length_cons, List.length_replicate]; omega) h
          simp only [goI, goT, if_neg h1, if_neg h5, if_pos h234]
          refine ⟨ih.1, fun e he => (ih.2 e he).imp_right fun h => h.back (fun g hg => hg.tail) fun g S' _ q1 q2 => ⟨byS (1 + ind) S', q1, q2, by simp only [goI, goT, if_neg h1, if_neg h5, if_pos h234], by simp only [lay, if_neg h1, if_neg h5, if_pos h234]⟩⟩
        · rw [if_neg h234] at h
          have ih := greedy f rest out met _ r S (by omega) hr hl hp ht hb h
          simp only [goI, goT, if_neg h1, if_neg h5, if_neg h234]
          refine ⟨ih.1, fun e he => (ih.2 e he).imp_right fun h => h.back (fun g hg => hg.tail) fun g S' _ q1 q2 => ⟨S', q1, q2, by simp only [goI, goT, if_neg h1, if_neg h5, if_neg h234], by simp only [lay, if_neg h1, if_neg h5, if_neg h234]⟩⟩
  | f + 1, ⟨.bin p x y, n, ind⟩ :: rest, out, met, col, r, S, hf, hI, hl, hp, ht, hb, h => by
    rw [trs_cons] at hf
    simp only [szs, sz] at hf
    simp only [lay] at h
    by_cases h6 : p.k = 6
    · rw [if_pos h6] at h
      have ih := greedy f (⟨x, n, ind⟩ :: ⟨y, n + cntG x, ind⟩ :: rest) out met col r S (by simp only [trs_cons, szs]; omega) hI.cat hl hp ht hb h
      rw [goI_cat h6]
      refine ⟨ih.1, fun e he => (ih.2 e he).imp_right fun h => h.back (fun g hg => ?_) fun g S' _ q1 q2 => ⟨S', q1, q2, goI_cat h6, by simp only [lay, if_pos h6]⟩⟩
      obtain ⟨s, hs, h1, h2⟩ := hg
      rcases List.mem_cons.1 hs with rfl | hs
      · exact ⟨⟨.bin p x y, n, ind⟩, by simp, h1, by simp only [cntG] at h2 ⊢; omega⟩
      · rcases List.mem_cons.1 hs with rfl | hs
        · exact ⟨⟨.bin p x y, n, ind⟩, by simp, by simp only at h1 ⊢; omega, by simp only [cntG] at h2 ⊢; omega⟩
        · exact ⟨s, List.mem_cons_of_mem _ hs, h1, h2⟩
    · rw [if_neg h6] at h
      have ih := greedy f (⟨x, n, ind⟩ :: rest) out met col r S (by simp only [trs_cons, szs]; omega) hI.alt hl hp ht hb h
      rw [goI_alt h6]
      refine ⟨ih.1, fun e he => (ih.2 e he).imp_right fun h => h.back (fun g hg => hg.head fun a b => ⟨a, by simp only [cntG] at b ⊢; omega⟩) fun g S' _ q1 q2 => ⟨S', q1, q2, goI_alt h6, by simp only [lay, if_neg h6]⟩⟩
  | f + 1, ⟨.un p x, n, ind⟩ :: rest, out, met, col, r, S, hf, hI, hl, hp, ht, hb, h => by
    rw [trs_cons] at hf
    simp only [szs, sz] at hf
    have hk := hI.1.k
    simp only [KOk] at hk
    simp only [lay] at h
    by_cases h7 : p.k = 7
    · rw [if_pos h7] at h
      have ih := greedy f (⟨x, n, ind + p.n⟩ :: rest) out met col r S (by simp only [trs_cons, szs]; omega) (hI.nest h7) hl hp ht hb h
      rw [goI_nest h7]
      refine ⟨ih.1, fun e he => (ih.2 e he).imp_right fun h => h.back (fun g hg => hg.head fun a b => ⟨a, by simp only [cntG] at b ⊢; omega⟩) fun g S' _ q1 q2 => ⟨S', q1, q2, goI_nest h7, by simp only [lay, if_pos h7]⟩⟩
    · have h8 : p.k = 8 := by have := hk.1; omega
      rw [if_neg h7] at h
      obtain ⟨b1, b2, b3⟩ := hI.brk h8
      have hbrk : lay width none f (⟨x, n, ind⟩ :: rest) out (met.set (n + cntG x) 2) col = some r → (∀ part, flatT x [] = some part → ¬ col + widthR part + behind (rest.map (·.T)) ≤ width) →
          (goI r.2 (-1) false (⟨.un p x, n, ind⟩ :: rest) S).taken = r.2 ∧ ∀ e ∈ (goI r.2 (-1) false (⟨.un p x, n, ind⟩ :: rest) S).list, e ∈ S.list ∨ EntOk doc st width r.2 (f + 1) (⟨.un p x, n, ind⟩ :: rest) out met col e := fun hh hno => by
        have eg : r.2[n + cntG x]? = some 2 := by rw [lay_off f _ _ _ _ _ b3 b1.kok hh, List.getElem?_set_self b2]
        have hfl : ∀ (q : Int) (fl : Bool) (S' : WS), S'.past = false → ((n + cntG x : Nat) : Int) ≠ q → isFl r.2 q fl (n + cntG x) S' = false := fun q fl S' e1 e2 => by
          unfold isFl
          rw [if_neg e2, e1, eg]
          rfl
        have ih := greedy f (⟨x, n, ind⟩ :: rest) out (met.set (n + cntG x) 2) col r (putS (n + cntG x) (meetS (-1) (n + cntG x) S)) (by simp only [trs_cons, szs]; omega) (by rw [List.length_set]; exact b1) hl
          (by show (S.past || decide (((n + cntG x : Nat) : Int) = -1)) = false; rw [hp, decide_eq_false (by omega)]; rfl) (by show S.taken.set _ _ = _; rw [ht]) hb hh
        rw [goI_brk h7 (hfl _ _ S hp (by omega))]
        refine ⟨ih.1, fun e he => ?_⟩
        rcases ih.2 e he with he | he
        · rcases List.mem_append.1 (show e ∈ S.list ++ [(((n + cntG x : Nat) : Int), S.bytes)] from he) with he | he
          · exact .inl he
          · rw [List.mem_singleton] at he
            rw [he, hb]
            exact .inr (ent_self (by omega) hI h8 hl (.inr eg) (fun _ => eg) fun part hpt => ⟨fun hle => absurd hle (hno part hpt), fun h1 => by rw [eg] at h1; simp at h1⟩)
        · refine .inr (he.back (fun g hg => hg.head fun a b => ⟨a, by simp only [cntG] at b ⊢; omega⟩) fun g S' hg q1 q2 => ⟨putS (n + cntG x) (meetS g (n + cntG x) S'), ?_, by show S'.taken.set _ _ = _; rw [q2], goI_brk h7 (hfl _ _ S' q1 ?_), ?_⟩)
          · have := hg.ne b3
            show (S'.past || decide (((n + cntG x : Nat) : Int) = (g : Int))) = false
            rw [q1, decide_eq_false (by omega)]
            rfl
          · have := hg.ne b3
            omega
          · have e2 : (goI r.2 g true (⟨x, n, ind⟩ :: rest) (putS (n + cntG x) (meetS g (n + cntG x) S'))).taken[n + cntG x]?.getD 0 = 2 := by
              rw [goI_off _ _ b1.kok b3]
              show ((S'.taken.set (n + cntG x) 2)[n + cntG x]?).getD 0 = 2
              rw [q2, List.getElem?_set_self b2]
              rfl
            rw [lay, if_neg h7]
            simp only [e2]
            rw [if_neg (by omega), if_pos trivial]
      cases hx : flatT x [] with
      | none =>
        rw [hx] at h
        exact hbrk h (fun part hpt => by rw [hx] at hpt; cases hpt)
      | some text =>
        rw [hx] at h
        simp only at h
        split at h
        · rename_i hle
          have hml : (markF (.un p x) n met).length = met.length := markF_len _ _ _
          have hr := hI.2.2.2
          have hoff : OffI (n + cntG x) rest := offI_tail b3
          have em : (markF (.un p x) n met)[n + cntG x]? = some 1 := by
            simp only [markF, if_pos h8]
            rw [markF_off x n _ (.inr (Nat.le_refl _)), List.getElem?_set_self b2]
          have eg : r.2[n + cntG x]? = some 1 := by rw [lay_off f _ _ _ _ _ hoff hr.kok h, em]
          have hfl : ∀ (q : Int) (fl : Bool) (S' : WS), S'.past = false → ((n + cntG x : Nat) : Int) ≠ q → isFl r.2 q fl (n + cntG x) S' = true := fun q fl S' e1 e2 => by
            unfold isFl
            rw [if_neg e2, e1, eg]
            rfl
          have hnx := hI.1.nl
          simp only [NL] at hnx
          have hfw := (flat_w x hk.2).1 text hx
          have hfn := flat_nl x text hnx hx
          rw [hfw.1] at hfw
          have ih := greedy f rest (out ++ text) (markF (.un p x) n met) _ r (flS (.un p x) n (meetS (-1) (n + cntG x) S)) (by omega) (by rw [hml]; exact hr) (hl.text hfn.1 hfw.2.2 hfw.2.1)
            (by show (S.past || decide (((n + cntG x : Nat) : Int) = -1)) = false; rw [hp, decide_eq_false (by omega)]; rfl) (by show markF _ _ S.taken = _; rw [ht]) (by show S.bytes + flB x = _; rw [hb, List.length_append, ← hfn.2]; omega) h
          rw [goI_flat h7 (hfl _ _ S hp (by omega))]
          refine ⟨ih.1, fun e he => ?_⟩
          rcases ih.2 e he with he | he
          · rcases List.mem_append.1 (show e ∈ S.list ++ [(((n + cntG x : Nat) : Int), S.bytes)] from he) with he | he
            · exact .inl he
            · rw [List.mem_singleton] at he
              rw [he, hb]
              exact .inr (ent_self (by omega) hI h8 hl (.inl eg) (fun hn => by rw [hx] at hn; cases hn) fun part hpt => ⟨fun _ => eg, fun _ => by rw [hx] at hpt; cases hpt; exact hle⟩)
          · refine .inr (he.back (fun g hg => hg.tail) fun g S' hg q1 q2 => ⟨flS (.un p x) n (meetS g (n + cntG x) S'), ?_, by show markF _ _ S'.taken = _; rw [q2], goI_flat h7 (hfl _ _ S' q1 ?_), ?_⟩)
            · have := hg.ne hoff
              show (S'.past || decide (((n + cntG x : Nat) : Int) = (g : Int))) = false
              rw [q1, decide_eq_false (by omega)]
              rfl
            · have := hg.ne hoff
              omega
            · have e2 : (goI r.2 g true rest (flS (.un p x) n (meetS g (n + cntG x) S'))).taken[n + cntG x]?.getD 0 = 1 := by
                rw [goI_off _ _ hr.kok hoff]
                show ((markF (.un p x) n S'.taken)[n + cntG x]?).getD 0 = 1
                rw [q2, em]
                rfl
              rw [lay, if_neg h7]
              simp only [e2, if_true, hx]
        · rename_i hle
          exact hbrk h (fun part hpt => by rw [hx] at hpt; cases hpt; exact hle)
end
end Go.Proofs.YtgmjpdejfdldlaaDoor

namespace Go.Proofs.YtgmjpdejfdldlaaDoor
open Go.RowKit

set_option maxHeartbeats 2000000 in
set_option maxRecDepth 100000 in
theorem lay_skip (B pb : Nat) (wm w : World) (l : List Value) (a0 a1 a2 a3 wv tv hv : Value) (ts : List Tk) (tx : List Int) (col : Int) (ch : List Int) (h : Pr pb wm w a0 a1 a2 a3 wv tv hv ts tx col ch)
    (v : Value) (p : Pc) (n : Nat) (ind : Int) (fl : Bool) (bw : Int) (be : Bool) (hn : NodeAt B wm l v (.leaf p) n) (hk : p.k = 0 ∨ p.k = 3) :
    Calls Tryd.prog 50 #[.pointer (some ⟨pb, 0, none⟩), agg5 v ind fl bw be] w fun e w' => e = .returned (.tuple #[]) ∧ Pr pb wm w' a0 a1 a2 a3 wv tv hv ts tx col ch := by
  have hr := hn.rep
  simp only [Rep] at hr
  have HP := hidN h
  have hlt := h.lt
  unfold agg5
  clear h hn
  rcases hr with h | h | h | h | h | ⟨h1, b, tv', h, _⟩
  · obtain ⟨e1, e2, e3, e4, e5, e6, e7, e8, e9, e10⟩ := tas_empty
    rw [h.2]
    clear h
    go_enter Tryd.func50, Tryd.ntmps50
    go_wp2
    go_returns
    exact ⟨rfl, HP.out.keep (World.grownBy_alloc _ _ _)⟩
  · omega
  · obtain ⟨e1, e2, e3, e4, e5, e6, e7, e8, e9, e10⟩ := tas_soft
    rw [h.2]
    clear h
    go_enter Tryd.func50, Tryd.ntmps50
    go_wp2
    go_returns
    exact ⟨rfl, HP.out.keep (World.grownBy_alloc _ _ _)⟩
  · omega
  · omega
  · omega

set_option maxHeartbeats 2000000 in
set_option maxRecDepth 100000 in
theorem lay_text (B pb : Nat) (wm w : World) (hpb : pb = wm.heap.size) (l : List Value) (a0 a1 a2 a3 wv tv hv : Value) (ts : List Tk) (tx : List Int) (col : Int) (ch : List Int) (h : Pr pb wm w a0 a1 a2 a3 wv tv hv ts tx col ch)
    (v : Value) (p : Pc) (n : Nat) (ind : Int) (fl : Bool) (bw : Int) (be : Bool) (hn : NodeAt B wm l v (.leaf p) n) (hk : p.k = 1) (hB : B ≤ pb) (hcb : -1000000 ≤ col ∧ col ≤ 1000000) (hl : tx.length + p.t.length ≤ 700000000) :
    Calls Tryd.prog 50 #[.pointer (some ⟨pb, 0, none⟩), agg5 v ind fl bw be] w fun e w' => e = .returned (.tuple #[]) ∧ ∃ tv', Pr pb wm w' a0 a1 a2 a3 wv tv' hv ts (tx ++ p.t) (col + widthR p.t) ch := by
  subst hpb
  have hr := hn.rep
  simp only [Rep] at hr
  rcases hr with h | h | h | h | h | ⟨h1, b, sv, hv0, _, hbl, hbk, hrd, hsl⟩
  · omega
  · omega
  · omega
  · omega
  · omega
  subst hv0
  obtain ⟨e1, e2, e3, e4, e5, e6, e7, e8, e9, e10⟩ := tas_text (.pointer (some ⟨b, 0, none⟩))
  have hgm := grown_of_below h.bel
  have cs0 : wm.cell? ⟨b, 0, none⟩ = some sv := by simp [World.cell?, hbk]
  have cs1 : wm.cell? ⟨b, 1, none⟩ = some (.int .i64 (widthR p.t)) := by simp [World.cell?, hbk]
  have c0r := cell_any (hgm.cell cs0 (by simp))
  have c1r := cell_any (hgm.cell cs1 (by simp))
  have hlt := h.lt
  have HP := hidN h
  have hwb := width_bd p.t
  have gA : w.grownBy (w.alloc (.cells #[.iface 75 (.pointer (some ⟨b, 0, none⟩)), .int .i64 ind, .bool fl, .int .i64 bw, .bool be] 109)).drew none := grown_drew (World.grownBy_alloc _ _ _)
  have hPA := h.keep gA
  obtain ⟨tv', w2, hrun, hO2, hg2, hat2⟩ := append_text (wm.heap.size + 1) B (w.alloc (.cells #[.iface 75 (.pointer (some ⟨b, 0, none⟩)), .int .i64 ind, .bool fl, .int .i64 bw, .bool be] 109)).drew tv sv tx p.t hPA.trow (hrd.keep (grown_trans hgm gA)) (by have := hPA.lt; omega) (by omega)
  have htl := World.ownsRow.lt hPA.trow
  have hne : some wm.heap.size ≠ tv.ownBlock := fun e => by have := htl _ e.symm; omega
  have hne2 : tv.ownBlock ≠ some b := fun e => by have := htl _ e; omega
  have x5 := hg2.cell hPA.c5 hne
  have y5 : w2.frozen? ⟨wm.heap.size, 5, none⟩ = false := (World.frozen?_of_block (hg2.block wm.heap.size hPA.lt hne)).trans (hPA.fz 5)
  have hP2 := Pr.text hPA hg2 hO2 (hat2.imp id fun e => ⟨_, e, Nat.le_refl _⟩)
  have HP2 := hidN hP2
  have hbs : b ≠ wm.heap.size := by omega
  have hwc : IntKind.i64.wrap (col + widthR p.t) = col + widthR p.t := by simp [IntKind.wrap, IntKind.bits, IntKind.signed]; omega
  have gb1 : (w2.setCell ⟨wm.heap.size, 5, none⟩ tv').cell? ⟨b, 1, none⟩ = some (.int .i64 (widthR p.t)) := by
    exact (hP2.bel.cell (p := ⟨b, 1, none⟩) hbl).trans cs1
  have gb2 := hg2.cell ((grown_trans hgm gA).cell cs1 (by simp)) (fun e => hne2 e.symm)
  have d6 := hP2.c6
  have z6 := hP2.fz 6
  have d6w := hg2.cell hPA.c6 hne
  have z6w : w2.frozen? ⟨wm.heap.size, 6, none⟩ = false := (World.frozen?_of_block (hg2.block wm.heap.size hPA.lt hne)).trans (hPA.fz 6)
  obtain ⟨ta', tcap', htv', _, _⟩ := row_form hO2
  rw [List.length_append] at htv'
  obtain ⟨ta, tcap, htv, _, _⟩ := row_form h.trow
  obtain ⟨sa, scap, hsv, _, _⟩ := hsl
  have c5r := cell_any h.c5
  unfold agg5
  subst htv' htv hsv
  generalize widthR p.t = wd at *
  clear h hn hPA hP2 hg2 hO2 hat2 gA hrd hbk cs0 cs1 hgm c1r
  go_enter Tryd.func50, Tryd.ntmps50
  go_wp2_with fail
  go_region_law (refine step_append_pr rfl (.tmp 19) (.tmp 23) 22 rfl _ _ _ _ (by simp [Act.eval]) (by simp [Act.eval]) hrun ?_)
  all_goals
    go_simp
    go_wp2
    go_region
    all_goals
      go_wp2
      go_returns
      exact ⟨rfl, _, (HP2.out.column (col + wd)).keep (grown_drew (World.grownBy.refl _ _))⟩

set_option maxHeartbeats 2000000 in
set_option maxRecDepth 100000 in
theorem lay_line (B pb : Nat) (wm w : World) (hpb : pb = wm.heap.size) (l : List Value) (a0 a1 a2 a3 wv tv hv : Value) (ts : List Tk) (tx : List Int) (col : Int) (ch : List Int) (h : Pr pb wm w a0 a1 a2 a3 wv tv hv ts tx col ch)
    (v : Value) (p : Pc) (n : Nat) (ind : Int) (fl : Bool) (bw : Int) (be : Bool) (hn : NodeAt B wm l v (.leaf p) n) (hk : p.k = 2) (hcb : -1000000 ≤ col ∧ col ≤ 1000000) (hl : tx.length ≤ 700000000) :
    Calls Tryd.prog 50 #[.pointer (some ⟨pb, 0, none⟩), agg5 v ind fl bw be] w fun e w' => e = .returned (.tuple #[]) ∧ ∃ tv', Pr pb wm w' a0 a1 a2 a3 wv tv' hv ts (tx ++ [32]) (col + 1) ch := by
  subst hpb
  have hr := hn.rep
  simp only [Rep] at hr
  have hv0 : v = .iface 81 (.agg #[]) := by
    rcases hr with h | h | h | h | h | ⟨h1, b, tv', h, _⟩
    · omega
    · exact h.2
    · omega
    · omega
    · omega
    · omega
  subst hv0
  obtain ⟨e1, e2, e3, e4, e5, e6, e7, e8, e9, e10⟩ := tas_line
  have hlt := h.lt
  have HP := hidN h
  obtain ⟨i0, hi, hz0, hz1, hz2⟩ := info_parts info5
  have gA : w.grownBy ((w.alloc (.cells #[.iface 81 (.agg #[]), .int .i64 ind, .bool fl, .int .i64 bw, .bool be] 109)).alloc (.cells #[] 81)) none := grown_trans (World.grownBy_alloc _ _ _) (World.grownBy_alloc _ _ _)
  have hPA := h.keep gA
  have HPA := hidN hPA
  have htl := World.ownsRow.lt hPA.trow
  have hne : tv.ownBlock ≠ some wm.heap.size := fun e => by have := htl wm.heap.size e; omega
  have HNe := hidN hne
  have hrow : ((w.alloc (.cells #[.iface 81 (.agg #[]), .int .i64 ind, .bool fl, .int .i64 bw, .bool be] 109)).alloc (.cells #[] 81)).ownsRow (wm.heap.size + 1) 5 1 tv tx.length (tx.map (Value.int .u8)) := hPA.trow
  have HRow := hidN hrow
  have c5 := hPA.c5
  have c5w := h.c5
  have f5 := hPA.fz 5
  have hb0 : ¬ wm.heap.size = w.heap.size := by omega
  have hb1 : ¬ wm.heap.size = w.heap.size + 1 := by omega
  have hb2 : ¬ w.heap.size = wm.heap.size := by omega
  have hb3 : ¬ w.heap.size + 1 = wm.heap.size := by omega
  have hltA := hPA.lt
  have gI : ((w.alloc (.cells #[.iface 81 (.agg #[]), .int .i64 ind, .bool fl, .int .i64 bw, .bool be] 109)).alloc (.cells #[] 81)).grownBy (((w.alloc (.cells #[.iface 81 (.agg #[]), .int .i64 ind, .bool fl, .int .i64 bw, .bool be] 109)).alloc (.cells #[] 81)).alloc (.cells #[.int .u8 32] 5)) none := World.grownBy_alloc _ _ _
  have c5a := gI.cell c5 (by simp)
  have f5a : (((w.alloc (.cells #[.iface 81 (.agg #[]), .int .i64 ind, .bool fl, .int .i64 bw, .bool be] 109)).alloc (.cells #[] 81)).alloc (.cells #[.int .u8 32] 5)).frozen? ⟨wm.heap.size, 5, none⟩ = false := (World.frozen?_of_block (gI.block wm.heap.size hltA (by simp))).trans f5
  have GI := hidN gI
  have hcl := cells_sole ((w.alloc (.cells #[.iface 81 (.agg #[]), .int .i64 ind, .bool fl, .int .i64 bw, .bool be] 109)).alloc (.cells #[] 81)) (.int .u8 32) 5
  simp only [World.size_alloc] at hcl
  have HCl := hidN hcl
  obtain ⟨ta, tcap, htv, _, _⟩ := row_form h.trow
  subst htv
  unfold agg5
  clear h hn hr hPA hrow hne gA gI hcl
  go_enter Tryd.func50, Tryd.ntmps50
  go_wp2_with (at_builtin; refine wpList_append_own_at _ rfl _ _ 22 rfl (wm.heap.size + 1) 5 i0 (.int .u8 0) 1 1 Tryd.underlying22 hi hz0 hz1 hz2 rfl (by decide) _ _ _ rfl (World.ownsRow.alloc HRow.out _) ⟨w.heap.size + 1 + 1, 0, none⟩ 1 1 [.int .u8 32] rfl rfl HCl.out (by intro u hu; simp at hu; subst hu; rfl) (by unfold maxLen; omega) (by omega) (by simp; omega) ?_)
  intro v1 w1 hown1 hgrow1 _ hat1
  have x5 := hgrow1.cell c5a (fun e => HNe.out e.symm)
  have y5 : w1.frozen? ⟨wm.heap.size, 5, none⟩ = false := (World.frozen?_of_block (hgrow1.block wm.heap.size (by simp; omega) (fun e => HNe.out e.symm))).trans f5a
  have hP2 := Pr.text (HPA.out.keep GI.out) (tv' := v1) (tx' := tx ++ [32]) hgrow1 (by unfold OwB Ow; rw [List.map_append, List.length_append]; exact hown1) (hat1.imp id fun e => ⟨_, e, by simp⟩)
  have d6 := hP2.c6
  have z6 := hP2.fz 6
  have HP2 := hidN hP2
  obtain ⟨va, vcap, hv1, _, _⟩ := row_form hown1
  subst hv1
  clear hP2 hown1 hgrow1 hat1
  go_wp2
  go_returns
  exact ⟨rfl, _, HP2.out.column (col + 1)⟩

end Go.Proofs.YtgmjpdejfdldlaaDoor

