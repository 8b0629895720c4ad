import Derived.Test.YtalkhnhhaiigiaaGreatDoorMBC
import Derived.Test.YtalkhnhhaiigiaaGreatDoorMBN
import Derived.Test.YtalkhnhhaiigiaaGreatDoorMBO
import Derived.Test.YtalkhnhhaiigiaaGreatDoorMBP
namespace Go.Proofs.YtalkhnhhaiigiaaGreatDoor
open Go.RowKit
attribute [-go_sem] Builtin.append_

theorem GivesP.val {bs B : Nat} {ind m : Int} {W : World} {ps : List Pc} {nvR : Value} {R : List Nod} {e : Ending} {w' : World} (h : GivesP W ps e w') (hs : Sx bs B ind m W nvR R) : GivesV bs B ind m W ps R e w' := by
  obtain ⟨f, caps, h1, h2, h3⟩ := h
  exact ⟨f, caps, nvR, h1, h2, hs.keep h3, grown_some h3⟩

set_option maxHeartbeats 2000000 in
set_option maxRecDepth 100000 in
theorem arr5_any (bs : Nat) (p : Nod) (lv kv xv uv tv : Value) (w : World) (B : Nat) (ind m : Int) (ps : List Pc) (R2 : List Nod)
    (sl : Sl lv p.lead.length) (sk : Sl kv p.key.length) (sx : Sl xv p.text.length) (su : Sl uv p.units.length) (st : Sl tv p.tail.length)
    (h : ∀ W : World, w.grownBy W none → Calls Tryz.prog 83 #[.pointer (some ⟨bs, 0, none⟩), .agg #[.int .i64 p.k, lv, .bool p.mem, kv, xv, uv, .int .i64 p.cnt, tv], .string { data := #[91] }, .string { data := #[93] }, .int .i64 3] W fun e w' => GivesV bs B ind m W ps R2 e w') :
    Calls Tryz.prog 48 #[.pointer (some ⟨bs, 0, none⟩), .agg #[.int .i64 p.k, lv, .bool p.mem, kv, xv, uv, .int .i64 p.cnt, tv]] w fun e w' => GivesV bs B ind m w ps R2 e w' := by
  obtain ⟨la, lc, rfl, _⟩ := sl
  obtain ⟨ka, kc, rfl, _⟩ := sk
  obtain ⟨xa, xc, rfl, _⟩ := sx
  obtain ⟨ua, uc, rfl, _⟩ := su
  obtain ⟨ta, tc, rfl, _⟩ := st
  have H := hide h
  clear h
  go_enter Tryz.func48, Tryz.ntmps48
  go_wp2_with fail
  refine (H.out _ (World.grownBy_alloc _ _ _)).mono ?_
  rintro e w1 ⟨f, caps, nv', rfl, h1, h2, h3⟩
  have H1 := hide h1
  have H2 := hide h2
  have H3 := hide (grown_mix (grown_some (r := some bs) (World.grownBy_alloc w (Obj.cells #[.int .i64 p.k, .slice la p.lead.length lc, .bool p.mem, .slice ka p.key.length kc, .slice xa p.text.length xc, .slice ua p.units.length uc, .int .i64 p.cnt, .slice ta p.tail.length tc] 75) none)) h3 (fun x e => by cases e; exact .inr rfl))
  clear H h1 h2 h3
  go_wp2
  go_ret
  exact ⟨f, caps, nv', rfl, H1.out.moreB (by simp) (World.grownBy.refl _ _), H2.out, H3.out⟩

set_option maxHeartbeats 2000000 in
set_option maxRecDepth 100000 in
theorem arr6_any (bs : Nat) (p : Nod) (lv kv xv uv tv : Value) (w : World) (B : Nat) (ind m : Int) (ps : List Pc) (R2 : List Nod)
    (sl : Sl lv p.lead.length) (sk : Sl kv p.key.length) (sx : Sl xv p.text.length) (su : Sl uv p.units.length) (st : Sl tv p.tail.length)
    (h : ∀ W : World, w.grownBy W none → Calls Tryz.prog 83 #[.pointer (some ⟨bs, 0, none⟩), .agg #[.int .i64 p.k, lv, .bool p.mem, kv, xv, uv, .int .i64 p.cnt, tv], .string { data := #[123] }, .string { data := #[125] }, .int .i64 2] W fun e w' => GivesV bs B ind m W ps R2 e w') :
    Calls Tryz.prog 49 #[.pointer (some ⟨bs, 0, none⟩), .agg #[.int .i64 p.k, lv, .bool p.mem, kv, xv, uv, .int .i64 p.cnt, tv]] w fun e w' => GivesV bs B ind m w ps R2 e w' := by
  obtain ⟨la, lc, rfl, _⟩ := sl
  obtain ⟨ka, kc, rfl, _⟩ := sk
  obtain ⟨xa, xc, rfl, _⟩ := sx
  obtain ⟨ua, uc, rfl, _⟩ := su
  obtain ⟨ta, tc, rfl, _⟩ := st
  have H := hide h
  clear h
  go_enter Tryz.func49, Tryz.ntmps49
  go_wp2_with fail
  refine (H.out _ (World.grownBy_alloc _ _ _)).mono ?_
  rintro e w1 ⟨f, caps, nv', rfl, h1, h2, h3⟩
  have H1 := hide h1
  have H2 := hide h2
  have H3 := hide (grown_mix (grown_some (r := some bs) (World.grownBy_alloc w (Obj.cells #[.int .i64 p.k, .slice la p.lead.length lc, .bool p.mem, .slice ka p.key.length kc, .slice xa p.text.length xc, .slice ua p.units.length uc, .int .i64 p.cnt, .slice ta p.tail.length tc] 75) none)) h3 (fun x e => by cases e; exact .inr rfl))
  clear H h1 h2 h3
  go_wp2
  go_ret
  exact ⟨f, caps, nv', rfl, H1.out.moreB (by simp) (World.grownBy.refl _ _), H2.out, H3.out⟩


theorem item_any (bs B : Nat) (ind m : Int) (hB : B ≤ bs) (hbs : 1 < bs) : ∀ (d : Nat) (R R2 : List Nod) (m' : Bool) (nv : Value) (w : World), Sx bs B ind m w nv R → NsK R → walkL triv d m' (R, ()) = some (R2, ()) →
    Calls Tryz.prog 50 #[.pointer (some ⟨bs, 0, none⟩)] w fun e w' => GivesL bs B ind m w (itemP (valP ind d) R) R2 e w'
  | 0, R, R2, m', nv, w, _, _, hw => by simp [walkL] at hw
  | d + 1, [], R2, m', nv, w, _, _, hw => by simp [walkL] at hw
  | d + 1, p :: R, R2, m', nv, w, hs, hN, hw => by
    have hnd := hN.nd p (by simp)
    have hpo := hN.ok p (by simp)
    have hpw : wN p ≤ 2000000 := by have := hN.wt; simp only [wNs] at this; omega
    have hNR : NsK R := hN.sub (P := [p]) rfl
    have hl : loopN (walkL triv d (decide (p.k = 6))) p.cnt.toNat (R, ()) = some (R2, ()) := by
      by_cases hm : p.mem ≠ m'
      · simp [walkL, hm] at hw
      · by_cases h0 : 5 ≤ p.k ∧ d = 0
        · simp [walkL, hm, h0, triv] at hw
        · simpa only [walkL, if_neg hm, if_neg h0, triv, Option.bind_some] using hw
    show Calls _ _ _ w fun e w' => GivesL bs B ind m w (befP p.lead ++ (keyP p ++ [(valP ind (d + 1) (p :: R)).1])) R2 e w'
    have hk0 := hnd.1
    by_cases h5 : p.k < 5
    · have hc0 := (hnd.2.2.2.2.2.2.2.2.2.1 h5).1
      rw [hc0] at hl
      simp only [Int.toNat_zero, loopN, Option.some.injEq, Prod.mk.injEq, and_true] at hl
      subst hl
      have hval : (valP ind (d + 1) (p :: R)).1 = scalP p := by simp only [valP, if_pos h5]
      rw [hval]
      rcases (show p.k = 0 ∨ p.k = 1 ∨ p.k = 2 ∨ p.k = 3 ∨ p.k = 4 by omega) with hk | hk | hk | hk | hk
      · have hsc : scalP p = textP wNul := by unfold scalP; rw [if_neg (by omega), if_neg (by omega), if_pos hk]
        rw [hsc]
        refine item_gen bs B ind m hB hbs p R R _ nv w hs hpo hpw 0 (by rw [hk]; rfl) (by omega) 80 #[] #[.pointer (some ⟨bs + 1, 0, none⟩)] (fun args W => by kernel_rfl) (fun W nvR h => h.v0.1) (fun W nvR lv kv xv uv tv hS rl rk sk rx sx ru su rt => ?_)
        have e : (#[] : Array Value) ++ #[.agg #[.int .i64 p.k, lv, .bool p.mem, kv, xv, uv, .int .i64 p.cnt, tv]] ++ #[.pointer (some ⟨bs + 1, 0, none⟩)] = #[.agg #[.int .i64 p.k, lv, .bool p.mem, kv, xv, uv, .int .i64 p.cnt, tv], .pointer (some ⟨bs + 1, 0, none⟩)] := by simp
        rw [e]
        exact (always_any p lv kv xv uv tv (bs + 1) wNul (by intro z hz; simp at hz; omega) (by simp) W hS.shp.v0.2 rl.sl sk sx su rt.sl).mono fun e w' h => h.val hS
      · have hsc : scalP p = textP wTru := by unfold scalP; rw [if_neg (by omega), if_neg (by omega), if_neg (by omega), if_pos hk]
        rw [hsc]
        refine item_gen bs B ind m hB hbs p R R _ nv w hs hpo hpw 1 (by rw [hk]; rfl) (by omega) 80 #[] #[.pointer (some ⟨bs + 2, 0, none⟩)] (fun args W => by kernel_rfl) (fun W nvR h => h.v1.1) (fun W nvR lv kv xv uv tv hS rl rk sk rx sx ru su rt => ?_)
        have e : (#[] : Array Value) ++ #[.agg #[.int .i64 p.k, lv, .bool p.mem, kv, xv, uv, .int .i64 p.cnt, tv]] ++ #[.pointer (some ⟨bs + 2, 0, none⟩)] = #[.agg #[.int .i64 p.k, lv, .bool p.mem, kv, xv, uv, .int .i64 p.cnt, tv], .pointer (some ⟨bs + 2, 0, none⟩)] := by simp
        rw [e]
        exact (always_any p lv kv xv uv tv (bs + 2) wTru (by intro z hz; simp at hz; omega) (by simp) W hS.shp.v1.2 rl.sl sk sx su rt.sl).mono fun e w' h => h.val hS
      · have hsc : scalP p = textP wFal := by unfold scalP; rw [if_neg (by omega), if_neg (by omega), if_neg (by omega), if_neg (by omega)]
        rw [hsc]
        refine item_gen bs B ind m hB hbs p R R _ nv w hs hpo hpw 2 (by rw [hk]; rfl) (by omega) 80 #[] #[.pointer (some ⟨bs + 3, 0, none⟩)] (fun args W => by kernel_rfl) (fun W nvR h => h.v2.1) (fun W nvR lv kv xv uv tv hS rl rk sk rx sx ru su rt => ?_)
        have e : (#[] : Array Value) ++ #[.agg #[.int .i64 p.k, lv, .bool p.mem, kv, xv, uv, .int .i64 p.cnt, tv]] ++ #[.pointer (some ⟨bs + 3, 0, none⟩)] = #[.agg #[.int .i64 p.k, lv, .bool p.mem, kv, xv, uv, .int .i64 p.cnt, tv], .pointer (some ⟨bs + 3, 0, none⟩)] := by simp
        rw [e]
        exact (always_any p lv kv xv uv tv (bs + 3) wFal (by intro z hz; simp at hz; omega) (by simp) W hS.shp.v2.2 rl.sl sk sx su rt.sl).mono fun e w' h => h.val hS
      · have hsc : scalP p = textP p.text := by unfold scalP; rw [if_pos hk]
        rw [hsc]
        refine item_gen bs B ind m hB hbs p R R _ nv w hs hpo hpw 3 (by rw [hk]; rfl) (by omega) 46 #[] #[] (fun args W => by kernel_rfl) (fun W nvR h => h.v3) (fun W nvR lv kv xv uv tv hS rl rk sk rx sx ru su rt => ?_)
        have e : (#[] : Array Value) ++ #[.agg #[.int .i64 p.k, lv, .bool p.mem, kv, xv, uv, .int .i64 p.cnt, tv]] ++ #[] = #[.agg #[.int .i64 p.k, lv, .bool p.mem, kv, xv, uv, .int .i64 p.cnt, tv]] := by simp
        rw [e]
        have hlt := hS.lt
        exact (number_any p lv kv xv uv tv W (rx.wideC (by omega)) sx hpo.x.2 hpo.x.1 rl.sl sk su rt.sl).mono fun e w' h => h.val hS
      · have hsc : scalP p = textP (quR p.units).1 := by unfold scalP; rw [if_neg (by omega), if_pos hk]
        rw [hsc]
        refine item_gen bs B ind m hB hbs p R R _ nv w hs hpo hpw 4 (by rw [hk]; rfl) (by omega) 47 #[] #[] (fun args W => by kernel_rfl) (fun W nvR h => h.v4) (fun W nvR lv kv xv uv tv hS rl rk sk rx sx ru su rt => ?_)
        have e : (#[] : Array Value) ++ #[.agg #[.int .i64 p.k, lv, .bool p.mem, kv, xv, uv, .int .i64 p.cnt, tv]] ++ #[] = #[.agg #[.int .i64 p.k, lv, .bool p.mem, kv, xv, uv, .int .i64 p.cnt, tv]] := by simp
        rw [e]
        have hlt := hS.lt
        exact (string_any p lv kv xv uv tv W hS.tab (ru.wideC (by omega)) su hpo.u rl.sl sk sx rt.sl).mono fun e w' h => h.val hS
    · have hval : (valP ind (d + 1) (p :: R)).1 = contP ind p (itK (valP ind d) p.cnt.toNat R) := by simp only [valP, if_neg h5]
      rw [hval]
      have hcn := hnd.2.2.2.2.2.2.2.2.2.2
      have hcb' := hN.cn p (by simp)
      have IT : ∀ (R R2 : List Nod) (m' : Bool) (nv : Value) (w : World), Sx bs B ind m w nv R → NsK R → walkL triv d m' (R, ()) = some (R2, ()) → _ := fun R R2 m' nv w a b c => item_any bs B ind m hB hbs d R R2 m' nv w a b c
      rcases (show p.k = 5 ∨ p.k = 6 by omega) with hk | hk
      · refine item_gen bs B ind m hB hbs p R R2 _ nv w hs hpo hpw 5 (by rw [hk]; rfl) (by omega) 48 #[.pointer (some ⟨bs, 0, none⟩)] #[] (fun args W => by kernel_rfl) (fun W nvR h => h.v5) (fun W nvR lv kv xv uv tv hS rl rk sk rx sx ru su rt => ?_)
        have e : (#[.pointer (some ⟨bs, 0, none⟩)] : Array Value) ++ #[.agg #[.int .i64 p.k, lv, .bool p.mem, kv, xv, uv, .int .i64 p.cnt, tv]] ++ #[] = #[.pointer (some ⟨bs, 0, none⟩), .agg #[.int .i64 p.k, lv, .bool p.mem, kv, xv, uv, .int .i64 p.cnt, tv]] := by simp
        rw [e]
        refine arr5_any bs p lv kv xv uv tv W B ind m _ R2 rl.sl sk sx su rt.sl (fun W' gW' => ?_)
        rw [hk] at hl
        by_cases hc0 : p.cnt = 0
        · rw [hc0] at hl
          simp only [Int.toNat_zero, loopN, Option.some.injEq, Prod.mk.injEq, and_true] at hl
          subst hl
          unfold contP
          rw [if_pos hc0]
          by_cases ht : p.tail = []
          · rw [if_pos ht, show opnP p.k = 91 by rw [hk]; rfl, show clsP p.k = 93 by rw [hk]; rfl]
            exact list_bare5 bs B ind m p R nvR lv kv xv uv tv W' (hS.keep gW') hc0 ht rl.sl sk sx su rt.sl
          · rw [if_neg ht]
            have hr := list_tail5 bs B ind m hB p R nvR lv kv xv uv tv W' (hS.keep gW') hpo hpw hc0 ht (rt.keep gW') rl.sl sk sx su rt.sl
            rw [show opnP p.k = 91 by rw [hk]; rfl, show clsP p.k = 93 by rw [hk]; rfl]
            exact hr
        · exact list_items5 bs B ind m hB hbs d IT p R R2 nvR lv kv xv uv tv W' (hS.keep gW') hNR hk hpo hpw p.cnt.toNat (by omega) (by omega) (by omega) (by simpa using hl) (rt.keep gW') rl.sl sk sx su rt.sl
      · refine item_gen bs B ind m hB hbs p R R2 _ nv w hs hpo hpw 6 (by rw [hk]; rfl) (by omega) 49 #[.pointer (some ⟨bs, 0, none⟩)] #[] (fun args W => by kernel_rfl) (fun W nvR h => h.v6) (fun W nvR lv kv xv uv tv hS rl rk sk rx sx ru su rt => ?_)
        have e : (#[.pointer (some ⟨bs, 0, none⟩)] : Array Value) ++ #[.agg #[.int .i64 p.k, lv, .bool p.mem, kv, xv, uv, .int .i64 p.cnt, tv]] ++ #[] = #[.pointer (some ⟨bs, 0, none⟩), .agg #[.int .i64 p.k, lv, .bool p.mem, kv, xv, uv, .int .i64 p.cnt, tv]] := by simp
        rw [e]
        refine arr6_any bs p lv kv xv uv tv W B ind m _ R2 rl.sl sk sx su rt.sl (fun W' gW' => ?_)
        rw [hk] at hl
        by_cases hc0 : p.cnt = 0
        · rw [hc0] at hl
          simp only [Int.toNat_zero, loopN, Option.some.injEq, Prod.mk.injEq, and_true] at hl
          subst hl
          unfold contP
          rw [if_pos hc0]
          by_cases ht : p.tail = []
          · rw [if_pos ht, show opnP p.k = 123 by rw [hk]; rfl, show clsP p.k = 125 by rw [hk]; rfl]
            exact list_bare6 bs B ind m p R nvR lv kv xv uv tv W' (hS.keep gW') hc0 ht rl.sl sk sx su rt.sl
          · rw [if_neg ht]
            have hr := list_tail6 bs B ind m hB p R nvR lv kv xv uv tv W' (hS.keep gW') hpo hpw hc0 ht (rt.keep gW') rl.sl sk sx su rt.sl
            rw [show opnP p.k = 123 by rw [hk]; rfl, show clsP p.k = 125 by rw [hk]; rfl]
            exact hr
        · exact list_items6 bs B ind m hB hbs d IT p R R2 nvR lv kv xv uv tv W' (hS.keep gW') hNR hk hpo hpw p.cnt.toNat (by omega) (by omega) (by omega) (by simpa using hl) (rt.keep gW') rl.sl sk sx su rt.sl
end Go.Proofs.YtalkhnhhaiigiaaGreatDoor

namespace Go.Proofs.YtalkhnhhaiigiaaGreatDoor
open Go.RowKit
attribute [-go_sem] Builtin.append_

theorem puts_full (ps qs : List Pc) : putsS (ps, true) qs = (ps, true) := by
  induction qs with
  | nil => rfl
  | cons q qs ih => show putsS (putS (ps, true) q) qs = _; rw [show putS (ps, true) q = (ps, true) by simp [putS]]; exact ih
theorem sumT_app (a b : List Pc) : sumT (a ++ b) = sumT a + sumT b := by
  induction a with
  | nil => simp [sumT]
  | cons p a ih => simp only [List.cons_append, sumT, ih]; omega
theorem puts_from (qs : List Pc) : ∀ (ps : List Pc), ps.length ≤ 40000 → sumT ps ≤ 100000 → (putsS (ps, false) qs).2 = largeP (ps ++ qs) ∧ (largeP (ps ++ qs) = false → (putsS (ps, false) qs).1 = ps ++ qs) := by
  induction qs with
  | nil =>
    intro ps h1 h2
    have hl : largeP (ps ++ []) = false := by simp [largeP]; omega
    rw [hl]
    exact ⟨rfl, fun _ => by simp [putsS]⟩
  | cons q qs ih =>
    intro ps h1 h2
    have hnn := sumT_nonneg qs
    show (putsS (putS (ps, false) q) qs).2 = _ ∧ _
    by_cases h : ps.length = 40000 ∨ 100000 - sumT ps < (q.t.length : Int)
    · have e : putS (ps, false) q = (ps, true) := by unfold putS; rw [if_pos (.inr h)]
      have hl : largeP (ps ++ q :: qs) = true := by
        have e2 : sumT (ps ++ q :: qs) = sumT ps + (q.t.length + sumT qs) := by rw [sumT_app]; rfl
        unfold largeP
        rw [e2, Bool.or_eq_true]
        rcases h with h | h
        · left; simp; omega
        · right; rw [decide_eq_true_eq]; omega
      rw [e, puts_full, hl]
      exact ⟨rfl, fun h => by cases h⟩
    · have e : putS (ps, false) q = (ps ++ [q], false) := by unfold putS; rw [if_neg (by simp; omega)]
      rw [e]
      have := ih (ps ++ [q]) (by simp; omega) (by rw [sumT_snoc]; omega)
      simpa [putsS, e] using this
theorem puts_doc (ps : List Pc) : (putsS ([], false) ps).2 = largeP ps ∧ (largeP ps = false → (putsS ([], false) ps).1 = ps) := by
  have := puts_from ps [] (by simp) (by simp [sumT])
  simpa using this

set_option maxHeartbeats 4000000 in
set_option maxRecDepth 100000 in
theorem whole_any (bs B : Nat) (ind m : Int) (hB : B ≤ bs) (hbs : 1 < bs) (R : List Nod) (tail : List Cm) (nv tv : Value) (w : World) (hs : Sx bs B ind m w nv R) (hN : NsK R) (hw : walkL triv 201 false (R, ()) = some ([], ())) (rt : RdC B w tv tail) (hct : CsOk tail) (hwt : wC tail ≤ 2000000) :
    Calls Tryz.prog 23 #[.pointer (some ⟨bs, 0, none⟩), tv] w fun e w' => ∃ f caps, e = .returned (.func (.func f) #[] caps) ∧ PartAt w' (fun k => w.heap.size ≤ k ∧ k < w'.heap.size) f caps (rowP (itemP (valP ind 201) R ++ [leafP 4] ++ befP tail)) ∧ w.grownBy w' (some bs) := by
  have HI := hide (item_any bs B ind m hB hbs 201 R [] false nv w hs hN hw)
  have hlt := hs.lt
  have HL : Hid (∀ U : World, _) := fun U => leafPart_any 4 U
  have hil : (itemP (valP ind 201) R).length ≤ 2000020 := by
    rcases R with _ | ⟨n, R⟩
    · simp [walkL] at hw
    · obtain ⟨n', P, hP, hm⟩ := val_mes ind 201 false (n :: R) [] hw (fun p hp h5 => ((hN.nd p hp).2.2.2.2.2.2.2.2.2.1 h5).1)
      have hn : n = n' := by simp at hP; exact hP.1
      subst hn
      have h1 := mess_item (V := valP ind 201) n R (wN n + wNs P) (by omega)
      have h2 := mess_len (itemP (valP ind 201) (n :: R))
      have h3 := hN.wt
      have h4 : wNs (n :: R) = wN n + wNs P := by rw [hP]; simp [wNs]
      omega
  have hml := mess_bef tail
  have hmll := mess_len (befP tail)
  obtain ⟨ta, tc, htv, _, _⟩ := rt.sl
  have HRT := hide rt
  have HM := hide hs.mx
  subst htv
  clear hs hN hw rt
  go_enter Tryz.func23, Tryz.ntmps23
  go_wp2_with fail
  refine HI.out.mono ?_
  rintro e w1 ⟨v1, nv1, rfl, o1, h1, g1⟩
  obtain ⟨pa, pc, hv1⟩ := o1.sl
  generalize hL1 : (itemP (valP ind 201) R).length = L1 at *
  have HO1 := hide o1
  have G1 := hide g1
  have HS1 := hide h1
  subst hv1
  clear o1 h1 g1 HI
  go_wp2_with fail
  refine (HL.out w1).mono ?_
  rintro e w2 ⟨f2, caps2, rfl, hp2, g2⟩
  have hpr := pa_oneB g2.size hp2
  have gA := World.grownBy_alloc w2 (Obj.cells #[.func (.func f2) #[] caps2] 51) none
  have s1 := G1.out.size
  have s2 := g2.size
  obtain ⟨v3, w3, run3, o3, g3⟩ := append_parts w.heap.size _ _ _ _ _ _ ((HO1.out.keep g2).keep gA) hpr (fun k hk => ⟨by have := hk.1; omega, hk.2, fun e => by have h1 := hk.1; have h2 := (HO1.out.lt k e).2; omega⟩) (by simp; omega) (by rw [hL1]; simp; omega)
  obtain ⟨a3, c3, hv3⟩ := o3.sl
  have hL3 : (itemP (valP ind 201) R ++ [leafP 4]).length = L1 + 1 := by rw [List.length_append, hL1]; rfl
  rw [hL3] at hv3
  have hoX : ∀ x, (Value.slice pa L1 pc).ownBlock = some x → w.heap.size ≤ x := fun x e => (HO1.out.lt x e).1
  have G3 := hide (grown_mix (grown_mix (grown_mix G1.out g2 (fun x e => by cases e)) gA (fun x e => by cases e)) g3 (fun x e => .inl (hoX x e)))
  have hs3 : Sx bs B ind m w3 nv1 [] := sx_row ((HS1.out.keep g2).keep gA) g3 (fun x e => by have := hoX x e; omega) hB hbs
  have s3 := G3.out.size
  have HAB := hide (aboveLines_any (.slice ta tail.length tc) tail m w3 ((HRT.out.beside G3.out (fun k e => by cases e; exact hB)).wide (by omega)) hct (by omega) hs3.mx)
  have HO3 := hide o3
  subst hv3
  clear o3 g3 hpr gA hp2 g2 hs3 hoX HO1 HS1 HL
  go_wp2_with fail
  refine HAB.out.mono ?_
  rintro e w4 ⟨v4, rfl, o4, g4⟩
  obtain ⟨F4, hF4, hp4⟩ := o4.pa
  obtain ⟨a4, c4, hv4⟩ := o4.sl
  have s4 := g4.size
  obtain ⟨v5, w5, run5, o5, g5⟩ := append_parts w.heap.size w4 _ v4 _ _ F4 (HO3.out.keep g4) hp4 (fun k hk => ⟨by have := (hF4 k hk).1; omega, (hF4 k hk).2, fun e => by have h1 := (hF4 k hk).1; have h2 := (HO3.out.lt k e).2; omega⟩) (by omega) (by rw [hL3]; omega)
  obtain ⟨a5, c5, hv5⟩ := o5.sl
  have hoY : ∀ x, (Value.slice a3 (L1 + 1) c3).ownBlock = some x → w.heap.size ≤ x := fun x e => (HO3.out.lt x e).1
  have G5 := hide (grown_mix (grown_mix G3.out g4 (fun x e => by cases e)) g5 (fun x e => .inl (hoY x e)))
  obtain ⟨F5, hF5, hp5⟩ := o5.pa
  have HRW := hide (row_any v5 _ F5 w5 hp5 (fun k h => (hF5 k h).2) (by rw [List.length_append, hL3]; omega))
  have HF5 := hide hF5
  generalize (itemP (valP ind 201) R ++ [leafP 4] ++ befP tail).length = L5 at hv5
  generalize (befP tail).length = L4 at hv4
  subst hv4 hv5
  clear o4 o5 g4 g5 hp4 hF4 hp5 hF5 hoY HO3 HAB
  go_wp2_with fail
  refine HRW.out.mono ?_
  rintro e w6 ⟨f6, caps6, rfl, hp6, g6⟩
  have HP6 := hide hp6
  have G6 := hide (grown_mix G5.out g6 (fun x e => by cases e))
  have s6 := g6.size
  have s5 := G5.out.size
  clear HRW hp6 g6
  go_wp2
  go_ret
  exact ⟨f6, caps6, rfl, HP6.out.at (fun k hk => hk.elim (fun h => ⟨(HF5.out k h).1, by have := (HF5.out k h).2; omega⟩) (fun h => ⟨by have := h.1; omega, h.2⟩)) (fun _ _ => rfl), G6.out⟩
end Go.Proofs.YtalkhnhhaiigiaaGreatDoor

namespace Go.Proofs.YtalkhnhhaiigiaaGreatDoor
open Go.RowKit
attribute [-go_sem] Builtin.append_

set_option maxRecDepth 100000 in
theorem isWithin_any (n most : Int) (w : World) : Calls Tryz.prog 20 #[.int .i64 n, .int .i64 most] w fun e w' => e = .returned (.bool (decide (0 ≤ n ∧ n ≤ most))) ∧ w = w' := by
  by_cases h0 : 0 ≤ n
  · have h0' : decide (0 ≤ n) = true := by simpa using h0
    go_enter Tryz.func20, Tryz.ntmps20
    go_wp2
    go_ret
    exact ⟨by simp [h0], rfl⟩
  · have h0' : decide (0 ≤ n) = false := by simpa using h0
    go_enter Tryz.func20, Tryz.ntmps20
    go_wp2
    go_ret
    exact ⟨by simp, rfl⟩

theorem DfR.base {H H' : Nat} {w : World} {v : Value} {ps : List Pc} (h : DfR H w v ps) (hH : H' ≤ H) : DfR H' w v ps := by
  obtain ⟨tvs, hl, ho, ht, hp⟩ := h
  exact ⟨tvs, hl, row_base hH ho, fun j p tv h1 h2 => ⟨(ht j p tv h1 h2).1.base hH, (ht j p tv h1 h2).2⟩, hp⟩

theorem doc_eq (ind : Int) (t : Tre) (hw : walkL triv 201 false (t.nodes, ()) = some ([], ())) : rowP (itemP (valP ind 201) t.nodes ++ [leafP 4] ++ befP t.tail) = docP ind t := by
  unfold docP
  rcases hh : t.nodes with _ | ⟨n, R⟩
  · rw [hh] at hw; simp [walkL] at hw
  · rw [hh] at hw
    have hm : n.mem = false := by
      by_cases h : n.mem ≠ false
      · simp [walkL, h] at hw
      · simpa using h
    simp [itemP, keyP, hm]

set_option maxHeartbeats 8000000 in
set_option maxRecDepth 100000 in
theorem implBuild_any (t : Tre) (ind m : Int) (vv : Bool) (hv1 : vv = true → NsK t.nodes ∧ CsOk t.tail ∧ wC t.tail ≤ 2000000 ∧ walkL triv 201 false (t.nodes, ()) = some ([], ())) (nv tv : Value) (w : World) (hv : RdT' w.heap.size w nv tv t) (hT : Tab w) (hM : w.cell? ⟨1, 0, none⟩ = some (.int .i64 m))
    (hvalid : ∀ W : World, RdT' W.heap.size W nv tv t → Tab W → W.cell? ⟨1, 0, none⟩ = some (.int .i64 m) → Calls Tryz.prog 21 #[.agg #[nv, tv]] W fun e w'' => e = .returned (.bool vv) ∧ W.grownBy w'' none) :
    Calls Tryz.prog 7 #[.agg #[nv, tv], .int .i64 ind] w fun e w' => ∃ v', e = .returned (.tuple #[v', .int .i64 (bdR vv ind t).2]) ∧ DfR w.heap.size w' v' (bdR vv ind t).1 ∧ w.grownBy w' none := by
  have hnot : ∀ (x : Bool) (w : World), (Op.unary .not (.bool x)).run Tryz.prog w = .ok (.bool (!x)) w := fun _ _ => rfl
  obtain ⟨hvn, hvt⟩ := id hv
  have h1sz : 2 ≤ w.heap.size := World.block_lt_of_cell? w _ hM
  have HRd : Hid (∀ W : World, w.grownBy W none → RdT' W.heap.size W nv tv t) := fun W g => ⟨(hvn.keep g).wide g.size, (hvt.keep g).wide g.size⟩
  have HV : Hid (∀ W : World, w.grownBy W none → _) := fun W (g : w.grownBy W none) => hvalid W (HRd.out W g) (hT.keep g) (g.cell hM (by simp))
  have H1 := hide hv1
  have HT := hide hT
  have HM := hide hM
  have HN := hide hvn
  have HTT := hide hvt
  have HW : Hid (∀ U : World, _) := fun U => isWithin_any ind 16 U
  obtain ⟨na, ncap, hn0, _⟩ := id hvn
  obtain ⟨ta, tcap, ht0, _⟩ := id hvt
  subst hn0 ht0
  clear hvn hvt hv hvalid hv1 hT hM
  have gA := World.grownBy_alloc w (Obj.cells #[.slice na t.nodes.length ncap, .slice ta t.tail.length tcap] 33) none
  have GA := hide gA
  clear gA
  by_cases hin : 0 ≤ ind ∧ ind ≤ 16
  · have hind : decide (0 ≤ ind ∧ ind ≤ 16) = true := by simpa using hin
    go_enter Tryz.func7, Tryz.ntmps7
    go_wp2_with fail
    refine (HW.out _).mono ?_
    rintro e w0 ⟨rfl, hw0⟩
    rw [hind]
    subst hw0
    clear HW
    go_wp2_with fail
    refine (HV.out _ GA.out).mono ?_
    rintro e w1 ⟨rfl, g1⟩
    have q0 := g1.cell (a := ⟨w.heap.size, 0, none⟩) (v := .slice na t.nodes.length ncap) (by simp [go_sem]) (by simp)
    have q1 := g1.cell (a := ⟨w.heap.size, 1, none⟩) (v := .slice ta t.tail.length tcap) (by simp [go_sem]) (by simp)
    have G1 := hide (grown_trans GA.out g1)
    have s1 : w.heap.size + 1 ≤ w1.heap.size := by have := g1.size; simp at this; omega
    clear HV g1
    cases vv with
    | false =>
      have HR := hide (show bdR false ind t = ([], 1) by simp [bdR])
      go_wp2
      go_ret2
      exact ⟨.slice none 0 0, by rw [HR.out]; rfl, by rw [HR.out]; exact DfR.nil _ _, G1.out⟩
    | true =>
      obtain ⟨hN, hct, hwt, hwk⟩ := H1.out rfl
      obtain ⟨D, hD⟩ : ∃ D, D = (w1.alloc (Obj.cells #[.slice none 0 0, .int .i64 100000, .bool false] 49)).drew := ⟨_, rfl⟩
      have gD : w1.grownBy D none := by rw [hD]; exact grown_trans (World.grownBy_alloc _ _ _) ⟨rfl, rfl, rfl, Nat.le_refl _, fun _ _ _ => rfl⟩
      have sD : D.heap.size = w1.heap.size + 1 := by rw [hD]; simp
      have b0 : D.cell? ⟨w1.heap.size, 0, none⟩ = some (.slice none 0 0) := by rw [hD]; simp [go_sem]
      have b1 : D.cell? ⟨w1.heap.size, 1, none⟩ = some (.int .i64 100000) := by rw [hD]; simp [go_sem]
      have b2 : D.cell? ⟨w1.heap.size, 2, none⟩ = some (.bool false) := by rw [hD]; simp [go_sem]
      have bf : ∀ j, D.frozen? ⟨w1.heap.size, j, none⟩ = false := fun j => by rw [hD]; simp [go_sem]
      have gwD := grown_trans G1.out gD
      have HNS := hide (newShaper_any na t.nodes.length ncap ind D)
      obtain ⟨I, hI⟩ : ∃ I : World → Prop, I = (fun U : World => U.cell? ⟨w.heap.size, 0, none⟩ = some (.slice na t.nodes.length ncap) ∧ U.cell? ⟨w.heap.size, 1, none⟩ = some (.slice ta t.tail.length tcap)) := ⟨_, rfl⟩
      have HI0 : I D := by rw [hI]; exact ⟨gD.cell q0 (by simp), gD.cell q1 (by simp)⟩
      have HR := hide (show bdR true ind t = if largeP (docP ind t) = true then ([], 4) else (docP ind t, 0) by unfold bdR; rw [if_pos ⟨rfl, hin⟩])
      have HDE := hide (doc_eq ind t hwk)
      go_wp2_with fail
      refine region_anyI I (fun _ => false) (by kernel_rfl) ?_
      rw [← hD]
      show anyI _ _ _ _ _ _ 8 (Array.replicate 8 false) _ _
      refine anyI_take (i := 0) (.pointer (some ⟨w.heap.size, 0, none⟩)) rfl (by kernel_rfl) (by kernel_rfl) (by kernel_rfl) (by kernel_rfl) (fun _ _ _ h => h) HI0 (yldI rfl (fun U hU => by go_simp)) ?_
      refine anyI_take (i := 1) (.slice na t.nodes.length ncap) rfl (by kernel_rfl) (by kernel_rfl) (by kernel_rfl) (by kernel_rfl) (fun _ _ _ h => h) HI0 (yldI rfl (fun U hU => by rw [hI] at hU; obtain ⟨h0, h1⟩ := hU; go_simp)) ?_
      refine anyI_take (i := 2) (.int .i64 ind) rfl (by kernel_rfl) (by kernel_rfl) (by kernel_rfl) (by kernel_rfl) (fun _ _ _ h => h) HI0 (yldI rfl (fun U hU => by go_simp)) ?_
      refine anyI_take (i := 4) (.pointer (some ⟨w.heap.size, 1, none⟩)) rfl (by kernel_rfl) (by kernel_rfl) (by kernel_rfl) (by kernel_rfl) (fun _ _ _ h => h) HI0 (yldI rfl (fun U hU => by go_simp)) ?_
      refine anyI_take (i := 5) (.slice ta t.tail.length tcap) rfl (by kernel_rfl) (by kernel_rfl) (by kernel_rfl) (by kernel_rfl) (fun _ _ _ h => h) HI0 (yldI rfl (fun U hU => by rw [hI] at hU; obtain ⟨h0, h1⟩ := hU; go_simp)) ?_
      generalize hG : Act.put _ _ _ = A0
      simp [Act.put] at hG
      subst hG
      refine anyI_one (i := 3) (by kernel_rfl) (wpOp_call rfl rfl (by go_simp) HNS.out ?_)
      rintro e w2 ⟨rfl, hsh, g2⟩
      have gw2 := grown_trans gwD g2
      have HI1 : I w2 := by rw [hI] at HI0 ⊢; exact ⟨g2.cell HI0.1 (by simp), g2.cell HI0.2 (by simp)⟩
      refine ⟨_, rfl, .inr HI1, ?_⟩
      have s2 := g2.size
      have hSx : Sx D.heap.size w.heap.size ind m w2 (.slice na t.nodes.length ncap) t.nodes := ⟨hsh, HN.out.keep gw2, HT.out.keep gw2, gw2.cell HM.out (by simp)⟩
      have HWH := hide (whole_any D.heap.size w.heap.size ind m (by omega) (by omega) t.nodes t.tail (.slice na t.nodes.length ncap) (.slice ta t.tail.length tcap) w2 hSx hN hwk (HTT.out.keep gw2) hct hwt)
      refine anyI_one (i := 6) (by kernel_rfl) (wpOp_call rfl rfl (by go_simp) HWH.out ?_)
      rintro e w3 ⟨f, caps, rfl, hp3, g3⟩
      have HI2 : I w3 := by rw [hI] at HI1 ⊢; exact ⟨g3.cell HI1.1 (by simp; omega), g3.cell HI1.2 (by simp; omega)⟩
      refine ⟨_, rfl, .inr HI2, ?_⟩
      refine anyI_one (i := 7) (by kernel_rfl) (wpOp_val (w' := w3) (v := .func (.func f) #[] caps) rfl rfl (by go_simp) ⟨.inr HI2, ?_⟩)
      refine anyI_done (by kernel_rfl) ?_ _
      have hne : some w1.heap.size ≠ some D.heap.size := by simp; omega
      have e0 := g3.cell (g2.cell b0 (by simp)) hne
      have e1 := g3.cell (g2.cell b1 (by simp)) hne
      have e2 := g3.cell (g2.cell b2 (by simp)) hne
      have ef : ∀ j, w3.frozen? ⟨w1.heap.size, j, none⟩ = false := fun j => by
        rw [World.frozen?_of_block (g3.block w1.heap.size (by omega) hne), World.frozen?_of_block (g2.block w1.heap.size (by omega) (by simp))]; exact bf j
      have hdr : Draft w3.heap.size w3 w1.heap.size ([], false) := ⟨⟨_, e0, DfR.nil _ _⟩, by simpa [sumT] using e1, e2, ef, by simp, by simp [sumT]⟩
      have s3 := g3.size
      have hEn := hp3.1
      have HCL := hide (hp3.2.2 w3.heap.size w1.heap.size w3 ([], false) (fun k hk => ⟨hk.2, by have := hk.1; omega, rfl⟩) hdr (by omega) (Nat.le_refl _))
      rw [HDE.out] at HCL
      have G3 : Hid (w.grownBy w3 none) := ⟨g3.os.trans gw2.os, g3.tape.trans gw2.tape, g3.output.trans gw2.output, Nat.le_trans gw2.size g3.size, fun k hk _ => (g3.block k (by omega) (by simp; omega)).trans (gw2.block k hk (by simp))⟩
      subst hI
      clear HWH HNS hSx hsh g2 g3 gw2 gwD gD hD b0 b1 b2 bf e0 e1 e2 ef hdr hp3 HI0 HI1 HI2 q0 q1
      go_wp2_with fail
      refine HCL.out.mono ?_
      rintro e w4 ⟨rfl, hd4, hf4⟩
      obtain ⟨hp1, hp2⟩ := puts_doc (docP ind t)
      obtain ⟨dv, d0, hdf⟩ := hd4.v
      have d2 := hd4.f
      have s4 := hf4.size
      have G4 : Hid (w.grownBy w4 none) := ⟨hf4.os.trans G3.out.os, hf4.tape.trans G3.out.tape, hf4.output.trans G3.out.output, Nat.le_trans G3.out.size hf4.size, fun k hk _ => (hf4.block k (by omega) (by omega)).trans (G3.out.block k hk (by simp))⟩
      rw [hp1] at d2
      cases hlg : largeP (docP ind t) with
      | true =>
        rw [hlg] at d2
        have HR2 := hide (show bdR true ind t = ([], 4) by rw [HR.out, hlg]; rfl)
        clear HR hlg hp1 hp2 hdf d0 hd4 hf4 HCL
        go_wp2
        go_ret2
        exact ⟨.slice none 0 0, by rw [HR2.out]; rfl, by rw [HR2.out]; exact DfR.nil _ _, G4.out⟩
      | false =>
        rw [hlg] at d2
        have HR2 := hide (show bdR true ind t = (docP ind t, 0) by rw [HR.out, hlg]; rfl)
        rw [hp2 hlg] at hdf
        obtain ⟨da, dc, hdv⟩ := hdf.sl
        have HDF := hide (hdf.base (H' := w.heap.size) (by omega))
        generalize (docP ind t).length = DL at hdv
        subst hdv
        clear HR hlg hp1 hp2 hdf hd4 hf4 HCL
        go_wp2
        go_ret2
        exact ⟨.slice da DL dc, by rw [HR2.out]; rfl, by rw [HR2.out]; exact HDF.out, G4.out⟩
  · have hind : decide (0 ≤ ind ∧ ind ≤ 16) = false := by simpa using hin
    have HR := hide (show bdR vv ind t = ([], 1) by unfold bdR; rw [if_neg (fun h => hin h.2)])
    go_enter Tryz.func7, Tryz.ntmps7
    go_wp2_with fail
    refine (HW.out _).mono ?_
    rintro e w0 ⟨rfl, hw0⟩
    rw [hind]
    subst hw0
    clear HW HV
    go_wp2
    go_ret2
    exact ⟨.slice none 0 0, by rw [HR.out]; rfl, by rw [HR.out]; exact DfR.nil _ _, GA.out⟩
end Go.Proofs.YtalkhnhhaiigiaaGreatDoor

