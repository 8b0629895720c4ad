import Derived.Test.YtbiiopiaglkicaaDoorStarts
namespace Go.Proofs.YtbiiopiaglkicaaDoor
open Go.RowKit

theorem nestS_bd : ∀ (T : Tr), okN T → 0 ≤ nestS T ∧ nestS T ≤ 8000
  | .leaf _, _ => by simp [nestS]
  | .un p x, h => by
    have := nestS_bd x h.2; have := h.1
    simp only [nestS]
    split <;> omega
  | .bin _ x y, h => by
    have := nestS_bd x h.1; have := nestS_bd y h.2
    simp only [nestS]
    split <;> omega

/-- The contract, for one tree. -/
def NestedSays (va sv : Value) (B : Nat) (doc : List Pc) (st : List Int) (T : Tr) (b : Nat) : Prop :=
  ∀ w : World, RdP B w va doc → RdI B w sv st → Calls Tryd.prog 58 #[va, sv, .int .i64 (b : Int)] w fun e w' => e = .returned (.int .i64 (nestS T)) ∧ w.grownBy w' none

theorem seg_at {doc : List Pc} {j : Nat} {p : Pc} (h : doc[j]? = some p) : ∃ hj : j < doc.length, doc[j] = p := by
  obtain ⟨hj, h⟩ := List.getElem?_eq_some_iff.1 h; exact ⟨hj, h⟩

theorem rd_at {B : Nat} {w : World} {v : Value} {st : List Int} {j : Nat} {x : Int} (h : RdI B w v st) (hx : st[j]? = some x) : ∃ b off cap, v = .slice (some ⟨b, off, none⟩) st.length cap ∧ w.cell? ⟨b, off + j, none⟩ = some (.int .i64 x) := by
  obtain ⟨hj, hx2⟩ := List.getElem?_eq_some_iff.1 hx
  obtain ⟨a, cap, hv, hr⟩ := h
  obtain ⟨b, off, ha, hb, hc⟩ := hr (fun e => by rw [e] at hj; simp at hj)
  have := hc j hj
  rw [hx] at this
  exact ⟨b, off, cap, by rw [hv, ha], this⟩

set_option maxHeartbeats 2000000 in
set_option maxRecDepth 100000 in
theorem nested_leaf (va sv : Value) (B : Nat) (doc : List Pc) (st : List Int) (hdl : doc.length ≤ 1048576) (p : Pc) (a b : Nat) (hs : Seg doc st (.leaf p) a b) : NestedSays va sv B doc st (.leaf p) b := by
  intro w hv hsv
  obtain ⟨rfl, hp, har, _⟩ := hs
  obtain ⟨hj, hpj⟩ := seg_at hp
  obtain ⟨bl, off, cap, tv, rfl, hb, hat⟩ := hv.at a hj
  rw [hpj] at hat
  have k0 := hat.k; have t0 := hat.t; have n0 := hat.n
  obtain ⟨ta, tcap, htv, _, _⟩ := hat.sl
  subst htv
  have hA := l2arity_any p.k (w.alloc (.cells #[.int .i64 p.k, .slice ta p.t.length tcap, .int .i64 p.n] 49))
  rw [har] at hA
  have HF : Hid (nestS (.leaf p) = 0) := rfl
  clear hv hsv hat hpj hp har
  rw [show ((a + 1 : Nat) : Int) = (a : Int) + 1 by omega]
  go_enter Tryd.func58, Tryd.ntmps58
  go_wp2_with fail
  refine hA.mono ?_
  rintro e w1 ⟨rfl, rfl⟩
  go_wp2
  go_ret
  exact ⟨by rw [HF.out]; rfl, World.grownBy_alloc _ _ _⟩

set_option maxHeartbeats 2000000 in
set_option maxRecDepth 100000 in
theorem nested_un (va sv : Value) (B : Nat) (doc : List Pc) (st : List Int) (hdl : doc.length ≤ 1048576) (p : Pc) (x : Tr) (a b : Nat) (hs : Seg doc st (.un p x) a b) (hok : okN (.un p x))
    (IHx : ∀ m, Seg doc st x a m → Hid (NestedSays va sv B doc st x m)) : NestedSays va sv B doc st (.un p x) b := by
  intro w hv hsv
  obtain ⟨m, rfl, hp, har, _, hx⟩ := hs
  have IH := IHx m hx
  have hbd := nestS_bd x hok.2
  have hpn := hok.1
  obtain ⟨hj, hpj⟩ := seg_at hp
  obtain ⟨sa, scap, hsva, _⟩ := id hsv
  have HV : Hid (RdP B w va doc) := hv
  have HSV : Hid (RdI B w sv st) := hsv
  obtain ⟨bl, off, cap, tv, hva, hb, hat⟩ := hv.at m hj
  rw [hpj] at hat
  have k0 := hat.k; have t0 := hat.t; have n0 := hat.n
  obtain ⟨ta, tcap, htv, _, _⟩ := hat.sl
  subst htv
  have hA := l2arity_any p.k (w.alloc (.cells #[.int .i64 p.k, .slice ta p.t.length tcap, .int .i64 p.n] 49))
  rw [har] at hA
  have HF : Hid (nestS (.un p x) = if nestS x > 4000 ∨ p.n > 4000 then 4001 else p.n + nestS x) := rfl
  clear hv hsv hat hpj hp har hx hok IHx
  have hg : Hid (∀ o : Obj, w.grownBy (w.alloc o) none) := fun _ => World.grownBy_alloc _ _ _
  have IH2 := IH.out (w.alloc (.cells #[.int .i64 p.k, .slice ta p.t.length tcap, .int .i64 p.n] 49)) (HV.out.keep (hg.out _)) (HSV.out.keep (hg.out _))
  clear HV HSV IH
  subst hva
  rw [show ((m + 1 : Nat) : Int) = (m : Int) + 1 by omega]
  generalize nestS x = y at *
  subst hsva
  by_cases hy : y > 4000
  · have HR : Hid (nestS (.un p x) = 4001) := by unfold Hid; rw [HF.out, if_pos (.inl hy)]
    clear HF
    go_enter Tryd.func58, Tryd.ntmps58
    go_wp2_with fail
    refine hA.mono ?_
    rintro e w1 ⟨rfl, rfl⟩
    go_wp2_with fail
    refine IH2.mono ?_
    rintro e w2 ⟨rfl, g2⟩
    have c2 := g2.cell (a := ⟨w.heap.size, 2, none⟩) (v := .int .i64 p.n) (by simp [go_sem]) (by simp)
    go_wp2
    go_ret
    exact ⟨by rw [HR.out]; rfl, grown_trans (hg.out _) g2⟩
  by_cases hn4 : p.n > 4000
  · have HR : Hid (nestS (.un p x) = 4001) := by unfold Hid; rw [HF.out, if_pos (.inr hn4)]
    clear HF
    go_enter Tryd.func58, Tryd.ntmps58
    go_wp2_with fail
    refine hA.mono ?_
    rintro e w1 ⟨rfl, rfl⟩
    go_wp2_with fail
    refine IH2.mono ?_
    rintro e w2 ⟨rfl, g2⟩
    have c2 := g2.cell (a := ⟨w.heap.size, 2, none⟩) (v := .int .i64 p.n) (by simp [go_sem]) (by simp)
    go_wp2
    go_ret
    exact ⟨by rw [HR.out]; rfl, grown_trans (hg.out _) g2⟩
  · have HR : Hid (nestS (.un p x) = p.n + y) := by unfold Hid; rw [HF.out, if_neg (by omega)]
    clear HF
    go_enter Tryd.func58, Tryd.ntmps58
    go_wp2_with fail
    refine hA.mono ?_
    rintro e w1 ⟨rfl, rfl⟩
    go_wp2_with fail
    refine IH2.mono ?_
    rintro e w2 ⟨rfl, g2⟩
    have c2 := g2.cell (a := ⟨w.heap.size, 2, none⟩) (v := .int .i64 p.n) (by simp [go_sem]) (by simp)
    go_wp2
    go_ret
    exact ⟨by rw [HR.out]; rfl, grown_trans (hg.out _) g2⟩

set_option maxHeartbeats 2000000 in
set_option maxRecDepth 100000 in
theorem nested_bin (va sv : Value) (B : Nat) (doc : List Pc) (st : List Int) (hdl : doc.length ≤ 1048576) (p : Pc) (x y : Tr) (a b : Nat) (hs : Seg doc st (.bin p x y) a b) (hok : okN (.bin p x y))
    (IH1' : ∀ m, Seg doc st x a m → Hid (NestedSays va sv B doc st x m)) (IH2' : ∀ c m, Seg doc st y c m → Hid (NestedSays va sv B doc st y m)) : NestedSays va sv B doc st (.bin p x y) b := by
  intro w hv hsv
  obtain ⟨c, m0, rfl, hp, har, _, hx, hy⟩ := hs
  obtain ⟨m, rfl⟩ : ∃ m, m0 = m + 1 := ⟨m0 - 1, by have := hy.lt; omega⟩
  have hlast := hy.last
  simp only [Nat.add_sub_cancel] at hlast
  have IHy : Hid (NestedSays va sv B doc st y (m + 1)) := IH2' c (m + 1) hy
  have IHx : Hid (NestedSays va sv B doc st x c) := IH1' c hx
  have hby := nestS_bd y hok.2
  have hbx := nestS_bd x hok.1
  have hcm := hy.lt
  obtain ⟨hj, hpj⟩ := seg_at hp
  have hst := (List.getElem?_eq_some_iff.1 hlast).1
  obtain ⟨sb, soff, scap, hsva, hsc⟩ := rd_at hsv hlast
  have HV : Hid (RdP B w va doc) := hv
  have HSV : Hid (RdI B w sv st) := hsv
  obtain ⟨bl, off, cap, tv, hva, hb, hat⟩ := hv.at (m + 1) hj
  rw [hpj] at hat
  have k0 := hat.k; have t0 := hat.t; have n0 := hat.n
  obtain ⟨ta, tcap, htv, _, _⟩ := hat.sl
  subst htv
  have hA := l2arity_any p.k (w.alloc (.cells #[.int .i64 p.k, .slice ta p.t.length tcap, .int .i64 p.n] 49))
  rw [har] at hA
  have HF : Hid (nestS (.bin p x y) = if nestS x > nestS y then nestS x else nestS y) := rfl
  clear hv hsv hat hpj hp har hx hy hok hlast IH1' IH2'
  have hg : Hid (∀ o : Obj, w.grownBy (w.alloc o) none) := fun _ => World.grownBy_alloc _ _ _
  have IH2 := IHy.out (w.alloc (.cells #[.int .i64 p.k, .slice ta p.t.length tcap, .int .i64 p.n] 49)) (HV.out.keep (hg.out _)) (HSV.out.keep (hg.out _))
  clear IHy
  subst hva hsva
  have ht1 : (((m + 1 : Nat) : Int) + 1 - 2) = (m : Int) := by omega
  have ht2 : (((m + 1 : Nat) : Int) - 1) = (m : Int) := by omega
  have hcm2 : c ≤ m := by omega
  rw [show ((m + 1 + 1 : Nat) : Int) = ((m + 1 : Nat) : Int) + 1 by omega]
  clear hcm
  generalize m + 1 = t at *
  by_cases hxy : nestS x > nestS y
  · have HR : Hid (nestS (.bin p x y) = nestS x) := by unfold Hid; rw [HF.out, if_pos hxy]
    clear HF
    generalize nestS y = ny at *
    go_enter Tryd.func58, Tryd.ntmps58
    go_wp2_with fail
    refine hA.mono ?_
    rintro e w1 ⟨rfl, rfl⟩
    go_wp2_with fail
    refine IH2.mono ?_
    rintro e w2 ⟨rfl, g2⟩
    have hsc2 := g2.cell ((hg.out _).cell hsc (by simp)) (by simp)
    have hgw := grown_trans (hg.out _) g2
    have IH3 := IHx.out w2 (HV.out.keep hgw) (HSV.out.keep hgw)
    clear IHx HV HSV hsc
    go_wp2_with fail
    refine IH3.mono ?_
    rintro e w3 ⟨rfl, g3⟩
    clear IH3
    generalize nestS x = nx at *
    go_wp2
    go_ret
    exact ⟨by rw [HR.out]; rfl, grown_trans hgw g3⟩
  · have HR : Hid (nestS (.bin p x y) = nestS y) := by unfold Hid; rw [HF.out, if_neg hxy]
    clear HF
    generalize nestS y = ny at *
    go_enter Tryd.func58, Tryd.ntmps58
    go_wp2_with fail
    refine hA.mono ?_
    rintro e w1 ⟨rfl, rfl⟩
    go_wp2_with fail
    refine IH2.mono ?_
    rintro e w2 ⟨rfl, g2⟩
    have hsc2 := g2.cell ((hg.out _).cell hsc (by simp)) (by simp)
    have hgw := grown_trans (hg.out _) g2
    have IH3 := IHx.out w2 (HV.out.keep hgw) (HSV.out.keep hgw)
    clear IHx HV HSV hsc
    go_wp2_with fail
    refine IH3.mono ?_
    rintro e w3 ⟨rfl, g3⟩
    clear IH3
    generalize nestS x = nx at *
    go_wp2
    go_ret
    exact ⟨by rw [HR.out]; rfl, grown_trans hgw g3⟩

theorem l2nested_any (va sv : Value) (B : Nat) (doc : List Pc) (st : List Int) (hdl : doc.length ≤ 1048576) :
    ∀ (T : Tr) (a b : Nat), Seg doc st T a b → okN T → NestedSays va sv B doc st T b
  | .leaf p, a, b, hs, _ => nested_leaf va sv B doc st hdl p a b hs
  | .un p x, a, b, hs, hok => nested_un va sv B doc st hdl p x a b hs hok (fun m hx => l2nested_any va sv B doc st hdl x a m hx hok.2)
  | .bin p x y, a, b, hs, hok => nested_bin va sv B doc st hdl p x y a b hs hok (fun m hx => l2nested_any va sv B doc st hdl x a m hx hok.1) (fun c m hy => l2nested_any va sv B doc st hdl y c m hy hok.2)

end Go.Proofs.YtbiiopiaglkicaaDoor
