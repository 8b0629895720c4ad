import Derived.Laws.BytesArg
import Derived.Laws.IdiomStrings
import Derived.Test.YtakkdniikhgpdaaGreatDoorMAC
namespace Go.Proofs.YtakkdniikhgpdaaGreatDoor
open Go.RowKit

theorem Ful.n {Γ : Gk} {k : KK} {a : Option Addr} {n c : Nat} {ys : List El} (h : Ful Γ k (a, n, c) ys) : n = ys.length := by
  rcases h with ⟨h, rfl⟩ | ⟨b, m, h, _⟩ <;> cases h <;> rfl
section
variable {F : Nat} {v : Value} {zs : List Int} {i : Nat} {Γ Γ1 : Gk} {w w1 : World}
/-- 'append(o, x)'. -/
theorem KD.app1 (h : KD F v zs Γ w i Γ1 w1) {k : KK} {a : Option Addr} {n c : Nat} {ys : List El} (hv : Ful Γ1 k (a, n, c) ys) (hlo : Lo w.heap.size (a, n, c)) (e : El) (arr : Array Value) (ha : arr = e.en.toArray) (hk : e.kd = k) (hb : n ≤ 100000) :
    ∃ g m w', (Builtin.append_ #[k.sl, k.sl] k.sl #[.slice a n c, .slice (some ⟨w1.heap.size, 0, none⟩) 1 1]).run Tryz.prog (w1.alloc (.cells arr k.ty)) = .ok (.slice (some ⟨g, 0, none⟩) (n + 1) m) w' ∧ KD F v zs Γ w i (updK Γ1 g (k, m, ys ++ [e])) w' ∧ Ful (updK Γ1 g (k, m, ys ++ [e])) k (some ⟨g, 0, none⟩, n + 1, m) (ys ++ [e]) ∧ w.heap.size ≤ g ∧ (Γ1 g = none ∨ Γ1 g = some (k, m, ys)) ∧ w1.grownBy w' (some g) := by
  have hn := hv.n
  subst hn ha
  have g0 := World.grownBy_alloc w1 (.cells e.en.toArray k.ty) none
  obtain ⟨g, m, w', h1, h2, h3, h4, h5, h6⟩ := (h.keep g0).apps hv hlo w1.heap.size 0 1 [e] (by simp) (fun y hy => by simp at hy; rw [hy]; exact hk) (fun j u hj => by
    rw [Nat.zero_add, cell_of_row _ w1.heap.size j _ _ _ (heap_alloc_new w1 _)]
    simpa [ens] using hj) (by simp; omega)
  rw [List.length_append] at h1
  refine ⟨g, m, w', h1, h2, .inr ⟨g, m, by simp, updK_at _ _ _, h5⟩, h4, ?_, ?_⟩
  · rcases h3 with h3 | h3
    · rw [h3]; exact .inl ((h.keep g0).st.mt.gone (by simp))
    · exact .inr h3.1
  · exact ⟨h6.os.trans g0.os, h6.tape.trans g0.tape, h6.output.trans g0.output, Nat.le_trans g0.size h6.size, fun x hx hn => (h6.block x (Nat.lt_of_lt_of_le hx g0.size) hn).trans (g0.block x hx (by simp))⟩
/-- '[]byte(s)'. -/
theorem KD.conv (h : KD F v zs Γ w i Γ1 w1) (wl : List Int) (hb : Bys wl) (hn : wl.length ≤ 1000000) :
    ∃ cap w', (convert 9 22 (.string (strOfNums wl))).run Tryz.prog w1 = .ok (.slice (some ⟨w1.heap.size, 0, none⟩) wl.length cap) w' ∧ KD F v zs Γ w i (updK Γ1 w1.heap.size (.bs, cap, wl.map .b)) w' ∧ cap ≤ maxLen ∧ w1.grownBy w' none ∧ w'.heap.size = w1.heap.size + 1 := by
  have hr := run_bytes_of_string (P := Tryz.prog) w1 9 22 5 (strOfNums wl) Tryz.underlying9 Tryz.underlying22 Tryz.underlying5
  rw [strOfNums_size] at hr
  have hg := grownCap_ge w1 wl.length 0 5
  have hs : (bytesRow (strOfNums wl) (grownCap w1 wl.length 0 5)).size = grownCap w1 wl.length 0 5 := by
    simp only [bytesRow, Array.size_append, Array.size_replicate, strOfNums, ByteArray.size, List.map_toArray, List.size_toArray, List.length_map]
    omega
  have gd : w1.grownBy w1.drew none := ⟨rfl, rfl, rfl, Nat.le_refl _, fun _ _ _ => rfl⟩
  have hen : ens (wl.map El.b) = wl.map (Value.int .u8) := by
    clear hn hb hr hg hs
    induction wl with
    | nil => rfl
    | cons z wl ih => simp only [ens, List.map_cons, List.flatMap_cons, El.en] at ih ⊢; rw [ih]; rfl
  have hN := (h.keep gd).new .bs (grownCap w1 wl.length 0 5) (wl.map .b) (bytesRow (strOfNums wl) (grownCap w1 wl.length 0 5)) ((bytesRow (strOfNums wl) (grownCap w1 wl.length 0 5)).size, (bytesRow (strOfNums wl) (grownCap w1 wl.length 0 5)).size + 1) (by rw [hs]; simp [KK.sz]) (.inr rfl) (by simpa using hg) (fun y hy => by
    obtain ⟨z, _, rfl⟩ := List.mem_map.1 hy
    rfl) (fun j u hj => by
    rw [hen] at hj
    have hjl : j < wl.length := by simpa using (List.getElem?_eq_some_iff.1 hj).1
    have hz := hb _ (List.getElem_mem hjl)
    simp [hjl] at hj
    subst hj
    unfold bytesRow
    rw [Array.getElem?_append_left (by simp [strOfNums, hjl])]
    simp [strOfNums, hjl]
    omega)
  exact ⟨_, _, hr, hN, grownCap_le_maxLen _ _ _ _ (by unfold maxLen; omega), grown_trans gd (World.grownBy_alloc _ _ _), by simp⟩
end
theorem duOne_le {zs : List Int} {i : Nat} (h : i ≤ zs.length) : (duOne zs i).2 ≤ zs.length := by
  unfold duOne; split
  · exact nx_le h
  · split
    · exact nx_le h
    · exact nx_le (nx_le h)
theorem dusN_le {zs : List Int} {i : Nat} (h : i ≤ zs.length) (m : Nat) : (dusN zs m i).2 ≤ zs.length ∧ (dusN zs m i).1.length = m := by
  induction m with
  | zero => exact ⟨h, rfl⟩
  | succ m ih => exact ⟨duOne_le ih.1, by simp [dusN, ih.2]⟩
theorem KS.point {F : Nat} {v : Value} {zs : List Int} {i : Nat} {Γ : Gk} {w : World} (h : KS F v zs i Γ w) (hz : Zk zs) (sur : Bool) : Calls Tryz.prog 54 #[.pointer (some ⟨F, 0, none⟩), .bool sur] w fun e w' => e = .returned (.int .i64 (dp zs sur i).1) ∧ KD F v zs Γ w (dp zs sur i).2 Γ w' := by
  refine (drawPoint_any F v zs i sur w h.rd h.tx hz.by' hz.ln h.le).mono ?_
  rintro e w' ⟨rfl, f, g⟩
  exact ⟨rfl, ⟨h.mt.grown g (fun x e => by cases e; omega), f, nx_le h.le, h.tx.beside g (fun x e => by cases e; omega)⟩, fun _ _ => rfl, g, fun _ hg => h.mt.gone hg, h.lt⟩

attribute [-go_sem] Builtin.append_
set_option maxHeartbeats 2000000 in
set_option maxRecDepth 100000 in
theorem drawUnits_k {F : Nat} {v : Value} {zs : List Int} {i : Nat} {Γ : Gk} {w : World} (hs : KS F v zs i Γ w) (hz : Zk zs) (most : Int) (h1 : 1 ≤ most) (h12 : most ≤ 12) :
    Calls Tryz.prog 73 #[.pointer (some ⟨F, 0, none⟩), .int .i64 most] w fun e w' => ∃ a n c, e = .returned (.slice a n c) ∧ ∃ Γ', JI (Ful Γ') (a, n, c) (dus zs most i).1 ∧ Lo w.heap.size (a, n, c) ∧ KD F v zs Γ w (dus zs most i).2 Γ' w' := by
  have HZ := hide hz
  have hkb := nx_bd hz.by' i
  have HN := hide (hs.next hz)
  have HP : Hid (dus zs most i = dusN zs ((nx zs i).1 % most).toNat (nx zs i).2) := rfl
  generalize (nx zs i).1 = k at *
  generalize (nx zs i).2 = j at *
  obtain ⟨hk0, hk1⟩ := hkb
  have hm0 : (most == 0) = false := by simp; omega
  have hmod0 : 0 ≤ k % most := Int.emod_nonneg k (by omega)
  have hmod1 : k % most < most := Int.emod_lt_of_pos k (by omega)
  obtain ⟨n, hn⟩ : ∃ n : Nat, k % most = (n : Int) := ⟨(k % most).toNat, by omega⟩
  have hnb : n < 12 := by omega
  rw [hn] at HP
  have HNn := hide hn
  clear hs hz hn hmod0 hmod1
  go_enter Tryz.func73, Tryz.ntmps73
  go_wp2_with fail
  refine HN.out.mono ?_
  rintro e w1 ⟨rfl, hD1⟩
  have HD1 := hide hD1
  clear HN hD1
  go_wp2
  rw [HNn.out]
  go_loopw [6, 7] (fun o t W => ∃ (m : Nat) (Γ1 : Gk) (a : Option Addr) (c : Nat), m ≤ n ∧ t = .int .i64 m ∧ o = .slice a m c ∧ JI (Ful Γ1) (a, m, c) (dusN zs m j).1 ∧ Lo w.heap.size (a, m, c) ∧ KD F v zs Γ w (dusN zs m j).2 Γ1 W)
    (fun _ t _ => n - (intOf t).toNat)
  case atStart => exact ⟨0, Γ, none, 0, Nat.zero_le _, rfl, rfl, .inl ⟨rfl, rfl⟩, Lo.nil _, HD1.out⟩
  case round =>
    obtain ⟨m, Γ1, a, c, hm, rfl, rfl, hJ, hLo, hD⟩ := hrel
    clear HD1
    by_cases hlt : m < n
    · have HS : Hid (dusN zs (m + 1) j = ((dusN zs m j).1 ++ [(duOne zs (dusN zs m j).2).1], (duOne zs (dusN zs m j).2).2)) := rfl
      have HO : Hid (duOne zs (dusN zs m j).2 = if (nx zs (dusN zs m j).2).1 % 5 = 0 then (55296 + (nx zs (dusN zs m j).2).1 * 4, (nx zs (dusN zs m j).2).2) else if (nx zs (dusN zs m j).2).1 % 5 = 1 then (56320 + (nx zs (dusN zs m j).2).1 * 4, (nx zs (dusN zs m j).2).2)
        else ((dp zs true (nx zs (dusN zs m j).2).2).1 % 65536, (dp zs true (nx zs (dusN zs m j).2).2).2)) := rfl
      have HN2 := hide (hD.next HZ.out)
      have hb2 := nx_bd HZ.out.by' (dusN zs m j).2
      generalize duOne zs (dusN zs m j).2 = x at *
      generalize (nx zs (dusN zs m j).2).1 = d at *
      generalize (nx zs (dusN zs m j).2).2 = j2 at *
      generalize (dusN zs m j).1 = ys at *
      generalize (dusN zs m j).2 = j1 at *
      obtain ⟨hd0, hd1⟩ := hb2
      have HJ := hide hJ
      have HL := hide hLo
      clear hJ hLo hD
      go_wp2_with fail
      refine HN2.out.mono ?_
      rintro e w2 ⟨rfl, hD2, _⟩
      have HD2 := hide hD2
      clear HN2 hD2
      by_cases h5 : d % 5 = 0
      · have q5 : (d % 5 == 0) = true := by simpa using h5
        have HX := hide (HO.out.trans (if_pos h5))
        obtain ⟨g, mc, w3, hrun, hD3, hF3, hg3, _⟩ := HD2.out.app1 (k := .is) HJ.out HL.out (.i (55296 + d * 4)) #[.int .i64 (55296 + d * 4)] rfl rfl (by omega)
        replace hrun : (Builtin.append_ #[71, 71] 71 #[.slice a m c, .slice (some ⟨w2.heap.size, 0, none⟩) 1 1]).run Tryz.prog (w2.alloc (.cells #[.int .i64 (55296 + d * 4)] 3)) = .ok (.slice (some ⟨g, 0, none⟩) (m + 1) mc) w3 := hrun
        have HD3 := hide hD3
        have HF3 := hide hF3
        clear hD3 hF3 h5 HO HD2
        go_wp2
        go_roundw
        case rel => exact ⟨m + 1, _, _, _, by omega, by go_num, rfl, by rw [HS.out, HX.out]; unfold JI; rw [List.map_append]; exact HF3.out, fun b e => by cases e; exact hg3, by rw [HS.out, HX.out]; exact HD3.out⟩
        case measure => simp [intOf]; omega
      · have q5 : (d % 5 == 0) = false := by simpa using h5
        by_cases h51 : d % 5 = 1
        · have q51 : (d % 5 == 1) = true := by simpa using h51
          have HX := hide ((HO.out.trans (if_neg h5)).trans (if_pos h51))
          obtain ⟨g, mc, w3, hrun, hD3, hF3, hg3, _⟩ := HD2.out.app1 (k := .is) HJ.out HL.out (.i (56320 + d * 4)) #[.int .i64 (56320 + d * 4)] rfl rfl (by omega)
          replace hrun : (Builtin.append_ #[71, 71] 71 #[.slice a m c, .slice (some ⟨w2.heap.size, 0, none⟩) 1 1]).run Tryz.prog (w2.alloc (.cells #[.int .i64 (56320 + d * 4)] 3)) = .ok (.slice (some ⟨g, 0, none⟩) (m + 1) mc) w3 := hrun
          have HD3 := hide hD3
          have HF3 := hide hF3
          clear hD3 hF3 h5 h51 HO HD2
          go_wp2
          go_roundw
          case rel => exact ⟨m + 1, _, _, _, by omega, by go_num, rfl, by rw [HS.out, HX.out]; unfold JI; rw [List.map_append]; exact HF3.out, fun b e => by cases e; exact hg3, by rw [HS.out, HX.out]; exact HD3.out⟩
          case measure => simp [intOf]; omega
        · have q51 : (d % 5 == 1) = false := by simpa using h51
          have HX := hide ((HO.out.trans (if_neg h5)).trans (if_neg h51))
          have HPt := hide (HD2.out.st.point HZ.out true)
          have hpb : 0 ≤ (dp zs true j2).1 ∧ (dp zs true j2).1 ≤ 1114111 := dp_bd true _ (nx_bd HZ.out.by' j2).1
          generalize dp zs true j2 = y at *
          obtain ⟨hp0, hp1⟩ := hpb
          clear h5 h51 HO
          go_wp2_with fail
          refine HPt.out.mono ?_
          rintro e w4 ⟨rfl, hD4⟩
          obtain ⟨g, mc, w3, hrun, hD3, hF3, hg3, _⟩ := (HD2.out.trans hD4).app1 (k := .is) HJ.out HL.out (.i (y.1 % 65536)) #[.int .i64 (y.1 % 65536)] rfl rfl (by omega)
          replace hrun : (Builtin.append_ #[71, 71] 71 #[.slice a m c, .slice (some ⟨w4.heap.size, 0, none⟩) 1 1]).run Tryz.prog (w4.alloc (.cells #[.int .i64 (y.1 % 65536)] 3)) = .ok (.slice (some ⟨g, 0, none⟩) (m + 1) mc) w3 := hrun
          have HD3 := hide hD3
          have HF3 := hide hF3
          clear hD3 hF3 HD2 hD4 HPt
          go_wp2
          go_roundw
          case rel => exact ⟨m + 1, _, _, _, by omega, by go_num, rfl, by rw [HS.out, HX.out]; unfold JI; rw [List.map_append]; exact HF3.out, fun b e => by cases e; exact hg3, by rw [HS.out, HX.out]; exact HD3.out⟩
          case measure => simp [intOf]; omega
    · have hmn : m = n := by omega
      subst hmn
      have HJ := hide hJ
      have HL := hide hLo
      have HD := hide hD
      clear hJ hLo hD
      go_wp2
      go_ret
      rw [HP.out]
      exact ⟨_, _, _, rfl, Γ1, HJ.out, HL.out, HD.out⟩
end Go.Proofs.YtakkdniikhgpdaaGreatDoor

namespace Go.Proofs.YtakkdniikhgpdaaGreatDoor
open Go.RowKit

theorem lit_cellK (W : World) (L : List (List Int)) (t : TypeId) (j : Nat) (hj : j < L.length) (A : Array Value) (hA : A = (L.map fun s => Value.string (strOfNums s)).toArray) :
    (W.alloc (.cells A t)).cell? ⟨W.heap.size, j, none⟩ = some (.string (strOfNums (L.getD j []))) := by
  rw [cell_of_row (W.alloc (.cells A t)) W.heap.size j A t (0, 0) (heap_alloc_new W _), hA]
  simp [hj]
/-- A list of words: each is short, of bytes. -/
def WdK (L : List (List Int)) : Bool := L.all fun t => decide (t.length ≤ 64) && t.all fun z => decide (0 ≤ z ∧ z ≤ 255)
theorem WdK.at {L : List (List Int)} (h : WdK L = true) (n : Nat) : (L.getD n []).length ≤ 64 ∧ Bys (L.getD n []) := by
  by_cases hn : n < L.length
  · have := List.all_eq_true.1 h L[n] (List.getElem_mem hn)
    simp only [Bool.and_eq_true, decide_eq_true_eq, List.all_eq_true] at this
    rw [List.getD_eq_getElem?_getD, List.getElem?_eq_getElem hn]
    exact this
  · rw [List.getD_eq_getElem?_getD, List.getElem?_eq_none (by omega)]
    exact ⟨by simp, fun z hz => by simp at hz⟩
theorem noLf_len (t : List Int) : (noLf t).length = t.length := by simp [noLf]
theorem lf_step {t : List Int} {n : Nat} (hn : n < t.length) : noLf (t.take (n + 1)) ++ t.drop (n + 1) = (noLf (t.take n) ++ t.drop n).set n (if t[n] = 10 then 46 else t[n]) := by
  have hl : (noLf (t.take n)).length = n := by rw [noLf_len, List.length_take]; omega
  rw [List.drop_eq_getElem_cons hn, List.set_append_right _ _ (by omega), hl, Nat.sub_self, List.set_cons_zero, List.take_add_one, List.getElem?_eq_getElem hn]
  unfold noLf
  rw [List.map_append]
  simp only [Option.toList_some, List.map_cons, List.map_nil, List.append_assoc, List.cons_append, List.nil_append]
theorem lf_at {t : List Int} {n : Nat} (hn : n < t.length) : (noLf (t.take n) ++ t.drop n)[n]? = some t[n] := by
  have hl : (noLf (t.take n)).length = n := by rw [noLf_len, List.length_take]; omega
  rw [List.drop_eq_getElem_cons hn, List.getElem?_append_right (by omega), hl, Nat.sub_self]
  rfl
theorem lf_len {t : List Int} {n : Nat} (hn : n ≤ t.length) : (noLf (t.take n) ++ t.drop n).length = t.length := by
  rw [List.length_append, noLf_len, List.length_take, List.length_drop]; omega
/-- A comment's block: its two cells. -/
theorem MT.two {H : Nat} {Γ : Gk} {w : World} (h : MT H Γ w) {b : Nat} {x : Bool} {t : Sv} {m : Nat} (hb : Γ b = some (.cm, m, [.c x t])) : w.cell? ⟨b, 0, none⟩ = some (.bool x) ∧ w.cell? ⟨b, 1, none⟩ = some t.v ∧ w.frozen? ⟨b, 0, none⟩ = false ∧ w.frozen? ⟨b, 1, none⟩ = false := by
  have h0 := h.cell hb (i := 0) (f := 0) (y := .c x t) rfl (by decide)
  have h1 := h.cell hb (i := 0) (f := 1) (y := .c x t) rfl (by decide)
  exact ⟨h0.1, h1.1, h0.2, h1.2⟩
/-- A comment is written into a block of its own. -/
theorem KD.put2 {F : Nat} {v : Value} {zs : List Int} {i : Nat} {Γ Γ1 : Gk} {w w1 : World} (h : KD F v zs Γ w i Γ1 w1) {b : Nat} {x x' : Bool} {t t' : Sv} {m : Nat} (hb : Γ1 b = some (.cm, m, [.c x t])) (hlo : w.heap.size ≤ b) :
    KD F v zs Γ w i (updK (updK Γ1 b (.cm, m, [.c x' t])) b (.cm, m, [.c x' t'])) ((w1.setCell ⟨b, 0, none⟩ (.bool x')).setCell ⟨b, 1, none⟩ t'.v) :=
  (h.set hb hlo (q := 0) (f := 0) (y := .c x t) (y' := .c x' t) (u := .bool x') rfl (by decide) rfl rfl).set (updK_at _ _ _) hlo (q := 0) (f := 1) (y := .c x' t) (y' := .c x' t') (u := t'.v) rfl (by decide) rfl rfl

attribute [-go_sem] Builtin.append_
set_option maxHeartbeats 4000000 in
set_option maxRecDepth 100000 in
theorem drawComment_k {F : Nat} {v : Value} {zs : List Int} {i : Nat} {Γ : Gk} {w : World} (hs : KS F v zs i Γ w) (hz : Zk zs) :
    Calls Tryz.prog 75 #[.pointer (some ⟨F, 0, none⟩)] w fun e w' => ∃ x a n c, e = .returned (.agg #[.bool x, .slice a n c]) ∧ ∃ Γ', (x = (dCom zs i).1.b ∧ JB (Ful Γ') (a, n, c) (dCom zs i).1.t) ∧ KD F v zs Γ w (dCom zs i).2 Γ' w' := by
  have hnot : ∀ (x : Bool) (w : World), (Op.unary .not (.bool x)).run Tryz.prog w = .ok (.bool (!x)) w := fun _ _ => rfl
  have D0 : KD F v zs Γ w i (updK Γ w.heap.size (.cm, 1, [.c false nilS])) (w.alloc (Obj.cells #[.bool false, .slice none 0 0] 127)) := (KD.refl hs).new1 (.c false nilS) #[.bool false, .slice none 0 0] rfl
  have HN := hide (D0.next hz)
  have hkb := nx_bd hz.by' i
  have HP : Hid (dCom zs i = (comV (nx zs i).1, (nx zs i).2)) := rfl
  have hR := updK_at Γ w.heap.size (.cm, 1, [.c false nilS])
  generalize updK Γ w.heap.size (.cm, 1, [.c false nilS]) = Γ1 at *
  generalize (nx zs i).1 = k at *
  generalize (nx zs i).2 = j at *
  obtain ⟨hk0, hk1⟩ := hkb
  clear hs D0 hz
  go_enter Tryz.func75, Tryz.ntmps75
  go_wp2_with fail
  refine HN.out.mono ?_
  rintro e w1 ⟨rfl, hD1, _⟩
  have hcell := lit_cellK w1 comW 9 (k / 2 % 14).toNat (by simp [comW]; omega) #[.string { data := #[] }, .string { data := #[32, 99] }, .string { data := #[120, 32, 121, 32] }, .string { data := #[42] }, .string { data := #[47] }, .string { data := #[195, 169] }, .string { data := #[97, 10, 98] }, .string { data := #[10] }, .string { data := #[32, 123, 91] }, .string { data := #[42, 32, 47] }, .string { data := #[47, 47] }, .string { data := #[97, 10, 32, 32, 98, 10] }, .string { data := #[39] }, .string { data := #[42, 42] }] rfl
  have hwd := WdK.at (L := comW) (by decide) (k / 2 % 14).toNat
  have HV : Hid (comV k = if k % 2 = 1 then ⟨true, comW.getD (k / 2 % 14).toNat []⟩ else ⟨false, noLf (comW.getD (k / 2 % 14).toNat [])⟩) := rfl
  generalize comW.getD (k / 2 % 14).toNat [] = t at hcell hwd HV
  have gB := World.grownBy_alloc w1 (Obj.cells #[.string { data := #[] }, .string { data := #[32, 99] }, .string { data := #[120, 32, 121, 32] }, .string { data := #[42] }, .string { data := #[47] }, .string { data := #[195, 169] }, .string { data := #[97, 10, 98] }, .string { data := #[10] }, .string { data := #[32, 123, 91] }, .string { data := #[42, 32, 47] }, .string { data := #[47, 47] }, .string { data := #[97, 10, 32, 32, 98, 10] }, .string { data := #[39] }, .string { data := #[42, 42] }] 9) none
  obtain ⟨cap, w3, hrun, hD3, hcp, _, sz3⟩ := (hD1.keep gB).conv t hwd.2 (by omega)
  have hR3 : updK Γ1 (w1.alloc (Obj.cells #[.string { data := #[] }, .string { data := #[32, 99] }, .string { data := #[120, 32, 121, 32] }, .string { data := #[42] }, .string { data := #[47] }, .string { data := #[195, 169] }, .string { data := #[97, 10, 98] }, .string { data := #[10] }, .string { data := #[32, 123, 91] }, .string { data := #[42, 32, 47] }, .string { data := #[47, 47] }, .string { data := #[97, 10, 32, 32, 98, 10] }, .string { data := #[39] }, .string { data := #[42, 42] }] 9)).heap.size (.bs, cap, t.map .b) w.heap.size = some (.cm, 1, [.c false nilS]) := by
    rw [updK_ne (by have := hD1.gr.size; simp; omega)]; exact hR
  have hT3 := updK_at Γ1 (w1.alloc (Obj.cells #[.string { data := #[] }, .string { data := #[32, 99] }, .string { data := #[120, 32, 121, 32] }, .string { data := #[42] }, .string { data := #[47] }, .string { data := #[195, 169] }, .string { data := #[97, 10, 98] }, .string { data := #[10] }, .string { data := #[32, 123, 91] }, .string { data := #[42, 32, 47] }, .string { data := #[47, 47] }, .string { data := #[97, 10, 32, 32, 98, 10] }, .string { data := #[39] }, .string { data := #[42, 42] }] 9)).heap.size (.bs, cap, t.map .b)
  simp only [World.size_alloc] at hrun hD3 hR3 hT3 sz3
  have hlo : w.heap.size ≤ w1.heap.size := hD1.gr.size
  generalize updK Γ1 (w1.heap.size + 1) (.bs, cap, t.map .b) = Γ3 at *
  have hD4 : KD F v zs Γ w j (updK Γ3 w3.heap.size (.cm, 1, [.c (k % 2 == 1) (some ⟨w1.heap.size + 1, 0, none⟩, t.length, cap)])) (w3.alloc (Obj.cells #[.bool (k % 2 == 1), .slice (some ⟨w1.heap.size + 1, 0, none⟩) t.length cap] 127)) := hD3.new1 (.c (k % 2 == 1) (some ⟨w1.heap.size + 1, 0, none⟩, t.length, cap)) _ rfl
  have hC4 := updK_at Γ3 w3.heap.size (.cm, 1, [.c (k % 2 == 1) (some ⟨w1.heap.size + 1, 0, none⟩, t.length, cap)])
  have hR4 : updK Γ3 w3.heap.size (.cm, 1, [.c (k % 2 == 1) (some ⟨w1.heap.size + 1, 0, none⟩, t.length, cap)]) w.heap.size = some (.cm, 1, [.c false nilS]) := by rw [updK_ne (by omega)]; exact hR3
  have hT4 : updK Γ3 w3.heap.size (.cm, 1, [.c (k % 2 == 1) (some ⟨w1.heap.size + 1, 0, none⟩, t.length, cap)]) (w1.heap.size + 1) = some (.bs, cap, t.map .b) := by rw [updK_ne (by omega)]; exact hT3
  generalize updK Γ3 w3.heap.size (.cm, 1, [.c (k % 2 == 1) (some ⟨w1.heap.size + 1, 0, none⟩, t.length, cap)]) = Γ4 at *
  have HD4 := hide hD4
  have HSz := hide sz3
  clear HN hD1 gB hD3 hD4 hR3 hT3 hR
  by_cases h2 : k % 2 = 1
  · have q2 : (k % 2 == 1) = true := by simpa using h2
    have HC := hide (HV.out.trans (if_pos h2))
    rw [q2] at HD4 hC4
    obtain ⟨r0, r1, f0, f1⟩ := (show MT (F + 1) Γ4 (w3.alloc (Obj.cells #[.bool true, .slice (some ⟨w1.heap.size + 1, 0, none⟩) t.length cap] 127)) from HD4.out.st.mt).two hR4
    have HR4 := hide hR4
    have HT4 := hide hT4
    clear h2 hR4 hC4 hT4 HV sz3
    go_wp2
    refine bodyPost_ret (v := .agg #[.bool true, .slice (some ⟨w1.heap.size + 1, 0, none⟩) t.length cap]) (by simp [results, Tryz.results75, go_sem, r0, r1]) rfl ?_
    rw [HP.out, HC.out]
    refine ⟨_, _, _, _, rfl, _, ⟨rfl, .inr ⟨w1.heap.size + 1, cap, by simp, ?_, hcp⟩⟩, HD4.out.put2 (x' := true) (t' := (some ⟨w1.heap.size + 1, 0, none⟩, t.length, cap)) HR4.out (Nat.le_refl _)⟩
    rw [updK_ne (by omega), updK_ne (by omega)]
    exact HT4.out
  · have q2 : (k % 2 == 1) = false := by simpa using h2
    have HC := hide (HV.out.trans (if_neg h2))
    rw [q2] at HD4 hC4
    obtain ⟨W4, hW4⟩ : ∃ W4, W4 = w3.alloc (Obj.cells #[.bool false, .slice (some ⟨w1.heap.size + 1, 0, none⟩) t.length cap] 127) := ⟨_, rfl⟩
    have HD5 : Hid (KD F v zs Γ w j Γ4 W4) := by unfold Hid; rw [hW4]; exact HD4.out
    have HC4 := hide hC4
    have HR4 := hide hR4
    have HT4 := hide hT4
    clear h2 hR4 hC4 hT4 HV HD4 sz3
    go_wp2
    rw [← hW4]
    have hs3 := HSz.out
    clear hW4 hrun hcell HSz
    generalize w3.heap.size = Cb at *
    generalize hTb : w1.heap.size + 1 = Tb at *
    generalize hR : w.heap.size = R at *
    have hRT : R ≠ Tb := by omega
    have hTC : Cb ≠ Tb := by omega
    clear hs3
    go_loopw [6] (fun i W => ∃ (n : Nat) (Γ5 : Gk), n ≤ t.length ∧ i = .int .i64 n ∧ Γ5 Tb = some (.bs, cap, (noLf (t.take n) ++ t.drop n).map .b) ∧ Γ5 Cb = some (.cm, 1, [.c false (some ⟨Tb, 0, none⟩, t.length, cap)]) ∧ Γ5 R = some (.cm, 1, [.c false nilS]) ∧ KD F v zs Γ w j Γ5 W) (fun i _ => t.length - (intOf i).toNat)
    case atStart => exact ⟨0, Γ4, Nat.zero_le _, rfl, by simpa [noLf] using HT4.out, HC4.out, HR4.out, HD5.out⟩
    case round =>
      obtain ⟨n, Γ5, hn, rfl, hT5, hC5, hR5, hD⟩ := hrel
      obtain ⟨c0, c1, cf0, cf1⟩ := hD.st.mt.two hC5
      obtain ⟨r0, r1, f0, f1⟩ := hD.st.mt.two hR5
      simp only [Sv.v] at c1 r1
      have hwl := hwd.1
      by_cases hlt : n < t.length
      · have hI : (n : Int) < (t.length : Int) := by omega
        have hat : ((noLf (t.take n) ++ t.drop n).map El.b)[n]? = some (.b t[n]) := by rw [List.getElem?_map, lf_at hlt]; rfl
        have hc := hD.st.mt.cell hT5 hat (f := 0) (by decide)
        simp only [KK.sz, Nat.mul_one, Nat.add_zero] at hc
        obtain ⟨e0, ef⟩ := hc
        replace e0 : wr.cell? ⟨Tb, n, none⟩ = some (.int .u8 t[n]) := e0
        have HS := hide (lf_step hlt)
        by_cases h10 : t[n] = 10
        · have hD6 := hD.set hT5 (by omega) (q := n) (f := 0) (y := .b t[n]) (y' := .b 46) (u := .int .u8 46) hat (by decide) rfl rfl
          simp only [KK.sz, Nat.mul_one, Nat.add_zero] at hD6
          have HD6 := hide hD6
          rw [if_pos h10] at HS
          have HC5 := hide hC5
          have HR5 := hide hR5
          generalize t[n] = z at *
          have q10 : (z == 10) = true := by simpa using h10
          clear h10 hD hD6 hT5 hC5 hR5 hat HD5 HT4 HC4 HR4
          go_wp2
          go_roundw
          case rel => exact ⟨n + 1, _, by omega, by go_num, by rw [updK_at, HS.out, List.map_set], by rw [updK_ne hTC]; exact HC5.out, by rw [updK_ne hRT]; exact HR5.out, HD6.out⟩
          case measure => simp [intOf]; omega
        · rw [if_neg h10] at HS
          have HD6 := hide hD
          have HT5 := hide hT5
          have HC5 := hide hC5
          have HR5 := hide hR5
          have HSe : Hid ((noLf (t.take n) ++ t.drop n).set n t[n] = noLf (t.take n) ++ t.drop n) := by
            have := lf_at hlt
            obtain ⟨h1, h2⟩ := List.getElem?_eq_some_iff.1 this
            unfold Hid
            conv => lhs; rw [← h2]
            exact List.set_getElem_self h1
          generalize t[n] = z at *
          have q10 : (z == 10) = false := by simpa using h10
          clear h10 hD hT5 hC5 hR5 hat HD5 HT4 HC4 HR4
          go_wp2
          go_roundw
          case rel => exact ⟨n + 1, Γ5, by omega, by go_num, by rw [HS.out, HSe.out]; exact HT5.out, HC5.out, HR5.out, HD6.out⟩
          case measure => simp [intOf]; omega
      · have hnn : n = t.length := by omega
        subst hnn
        have HT5 := hide hT5
        have HR5 := hide hR5
        have HD := hide hD
        clear hD hT5 hC5 hR5 HD5 HT4 HC4 HR4
        go_wp2
        refine bodyPost_ret (v := .agg #[.bool false, .slice (some ⟨Tb, 0, none⟩) t.length cap]) (by simp [results, Tryz.results75, go_sem, r0, r1]) rfl ?_
        rw [HP.out, HC.out]
        refine ⟨_, _, _, _, rfl, _, ⟨rfl, .inr ⟨Tb, cap, by simp [noLf_len], ?_, hcp⟩⟩, HD.out.put2 (x' := false) (t' := (some ⟨Tb, 0, none⟩, t.length, cap)) HR5.out (by omega)⟩
        rw [updK_ne (Ne.symm hRT), updK_ne (Ne.symm hRT), HT5.out]
        simp
end Go.Proofs.YtakkdniikhgpdaaGreatDoor

