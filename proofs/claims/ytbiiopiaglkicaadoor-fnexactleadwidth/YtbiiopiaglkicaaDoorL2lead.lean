import Derived.Test.YtbiiopiaglkicaaDoorSpecValid
namespace Go.Proofs.YtbiiopiaglkicaaDoor
open Go.RowKit

theorem width_bd (t : List Int) : -1 ≤ widthR t ∧ widthR t ≤ t.length := by
  have := decR_len t
  unfold widthR
  split <;> omega

/-- The contract, for one tree. -/
def LeadSays (va sv : Value) (B : Nat) (doc : List Pc) (st : List Int) (T : Tr) (b : Nat) : Prop :=
  ∀ w : World, B ≤ w.heap.size → RdP B w va doc → RdI B w sv st → Calls Tryd.prog 59 #[va, sv, .int .i64 (b : Int)] w fun e w' => e = .returned (.tuple #[.int .i64 (leadT T).1, .bool (leadT T).2]) ∧ w.grownBy w' none

set_option maxHeartbeats 2000000 in
set_option maxRecDepth 100000 in
theorem lead_leaf (va sv : Value) (B : Nat) (doc : List Pc) (st : List Int) (hd : Doc doc) (p : Pc) (a b : Nat) (hs : Seg doc st (.leaf p) a b) : LeadSays va sv B doc st (.leaf p) b := by
  intro w hB hv hsv
  have hdl := hd.len
  obtain ⟨rfl, hp, har, _⟩ := hs
  obtain ⟨hj, hpj⟩ := seg_at hp
  obtain ⟨sa, scap, hsva, _⟩ := id hsv
  obtain ⟨bl, off, cap, tv, hva, hb, hat⟩ := hv.at a hj
  rw [hpj] at hat
  have k0 := hat.k; have t0 := hat.t; have n0 := hat.n
  have hmem : p ∈ doc := by rw [← hpj]; exact List.getElem_mem hj
  have hg : w.grownBy (w.alloc (.cells #[.int .i64 p.k, tv, .int .i64 p.n] 49)) none := World.grownBy_alloc _ _ _
  have hA := l2arity_any p.k (w.alloc (.cells #[.int .i64 p.k, tv, .int .i64 p.n] 49))
  have hW := specTextWidth_any tv p.t (w.alloc (.cells #[.int .i64 p.k, tv, .int .i64 p.n] 49)) ((hat.rd.keep hg).wide (by simp; omega)) (hd.bys p hmem) (hd.tlen p hmem)
  rw [har] at hA
  obtain ⟨ta, tcap, htv, _, _⟩ := hat.sl
  have HG : Hid (w.grownBy (w.alloc (.cells #[.int .i64 p.k, tv, .int .i64 p.n] 49)) none) := hg
  have hbw := width_bd p.t
  clear hv hsv hat hpj hp har hmem hg hd
  subst htv hva hsva
  rw [show ((a + 1 : Nat) : Int) = (a : Int) + 1 by omega]
  by_cases hk : p.k = 0
  · have HF : Hid (leadT (.leaf p) = (0, false)) := by unfold Hid leadT; rw [if_pos hk]
    have q0 : (p.k == 0) = true := by rw [hk]; rfl
    clear hk hA hW
    go_enter Tryd.func59, Tryd.ntmps59
    go_wp2
    go_ret2
    exact ⟨by rw [HF.out]; rfl, HG.out⟩
  have q0 : (p.k == 0) = false := by simpa using hk
  by_cases hk1 : p.k = 1
  · have HF : Hid (leadT (.leaf p) = (widthR p.t, false)) := by unfold Hid leadT; rw [if_neg hk, if_pos hk1]
    have q1 : (p.k == 1) = true := by rw [hk1]; rfl
    clear hk hk1 hA
    generalize widthR p.t = wd at *
    go_enter Tryd.func59, Tryd.ntmps59
    go_wp2_with fail
    refine hW.mono ?_
    rintro e w1 ⟨rfl, g1⟩
    go_wp2
    go_ret2
    exact ⟨by rw [HF.out]; rfl, grown_trans HG.out g1⟩
  · have HF : Hid (leadT (.leaf p) = (0, true)) := by unfold Hid leadT; rw [if_neg hk, if_neg hk1]
    have q1 : (p.k == 1) = false := by simpa using hk1
    clear hk hk1 hW
    go_enter Tryd.func59, Tryd.ntmps59
    go_wp2_with fail
    refine hA.mono ?_
    rintro e w1 ⟨rfl, rfl⟩
    go_wp2
    go_ret2
    exact ⟨by rw [HF.out]; rfl, HG.out⟩

set_option maxHeartbeats 2000000 in
set_option maxRecDepth 100000 in
theorem lead_un (va sv : Value) (B : Nat) (doc : List Pc) (st : List Int) (hd : Doc doc) (p : Pc) (x : Tr) (a b : Nat) (hs : Seg doc st (.un p x) a b)
    (IHx : ∀ m, Seg doc st x a m → Hid (LeadSays va sv B doc st x m)) : LeadSays va sv B doc st (.un p x) b := by
  intro w hB hv hsv
  have hdl := hd.len
  obtain ⟨m, rfl, hp, har, _, hx⟩ := hs
  have IH := IHx m hx
  obtain ⟨hj, hpj⟩ := seg_at hp
  have hk' := ar1 har
  obtain ⟨sa, scap, hsva, _⟩ := id hsv
  obtain ⟨bl, off, cap, tv, hva, hb, hat⟩ := hv.at m hj
  rw [hpj] at hat
  have k0 := hat.k; have t0 := hat.t; have n0 := hat.n
  have hg : w.grownBy (w.alloc (.cells #[.int .i64 p.k, tv, .int .i64 p.n] 49)) none := World.grownBy_alloc _ _ _
  have hA := l2arity_any p.k (w.alloc (.cells #[.int .i64 p.k, tv, .int .i64 p.n] 49))
  rw [har] at hA
  have IH2 := IH.out (w.alloc (.cells #[.int .i64 p.k, tv, .int .i64 p.n] 49)) (by simp; omega) (hv.keep hg) (hsv.keep hg)
  obtain ⟨ta, tcap, htv, _, _⟩ := hat.sl
  have HG : Hid (w.grownBy (w.alloc (.cells #[.int .i64 p.k, tv, .int .i64 p.n] 49)) none) := hg
  have HF1 : Hid ((leadT (.un p x)).1 = (leadT x).1) := rfl
  have HF2 : Hid ((leadT (.un p x)).2 = (leadT x).2) := rfl
  clear hv hsv hat hpj hp har hx IHx IH hg hd
  subst htv hva hsva
  rw [show ((m + 1 : Nat) : Int) = (m : Int) + 1 by omega]
  obtain ⟨y1, hy1⟩ : ∃ y1, y1 = (leadT x).1 := ⟨_, rfl⟩
  obtain ⟨y2, hy2⟩ : ∃ y2, y2 = (leadT x).2 := ⟨_, rfl⟩
  have HR : Hid ((leadT (.un p x)).1 = y1 ∧ (leadT (.un p x)).2 = y2) := ⟨hy1 ▸ HF1.out, hy2 ▸ HF2.out⟩
  rw [← hy1, ← hy2] at IH2
  clear hy1 hy2 HF1 HF2
  rcases hk' with hk | hk
  · have q0 : (p.k == 0) = false := by rw [hk]; rfl
    have q1 : (p.k == 1) = false := by rw [hk]; rfl
    have q7 : (p.k == 7) = true := by rw [hk]; rfl
    have q8 : (p.k == 8) = false := by rw [hk]; rfl
    clear hk
    go_enter Tryd.func59, Tryd.ntmps59
    go_wp2_with fail
    refine hA.mono ?_
    rintro e w1 ⟨rfl, rfl⟩
    go_wp2_with fail
    refine IH2.mono ?_
    rintro e w2 ⟨rfl, g2⟩
    go_wp2
    go_ret2
    exact ⟨by rw [HR.out.1, HR.out.2]; rfl, grown_trans HG.out g2⟩
  · have q0 : (p.k == 0) = false := by rw [hk]; rfl
    have q1 : (p.k == 1) = false := by rw [hk]; rfl
    have q7 : (p.k == 7) = false := by rw [hk]; rfl
    have q8 : (p.k == 8) = true := by rw [hk]; rfl
    clear hk
    go_enter Tryd.func59, Tryd.ntmps59
    go_wp2_with fail
    refine hA.mono ?_
    rintro e w1 ⟨rfl, rfl⟩
    go_wp2_with fail
    refine IH2.mono ?_
    rintro e w2 ⟨rfl, g2⟩
    go_wp2
    go_ret2
    exact ⟨by rw [HR.out.1, HR.out.2]; rfl, grown_trans HG.out g2⟩

set_option maxHeartbeats 2000000 in
set_option maxRecDepth 100000 in
theorem lead_bin (va sv : Value) (B : Nat) (doc : List Pc) (st : List Int) (hd : Doc doc) (p : Pc) (x y : Tr) (a b : Nat) (hs : Seg doc st (.bin p x y) a b) (hsz : sz (.bin p x y) ≤ 140000)
    (IH1' : ∀ m, Seg doc st x a m → Hid (LeadSays va sv B doc st x m)) (IH2' : ∀ c m, Seg doc st y c m → Hid (LeadSays va sv B doc st y m)) : LeadSays va sv B doc st (.bin p x y) b := by
  intro w hB hv hsv
  have hdl := hd.len
  obtain ⟨c, m0, rfl, hp, har, _, hx, hy⟩ := hs
  obtain ⟨m, rfl⟩ : ∃ m, m0 = m + 1 := ⟨m0 - 1, by have := hy.lt; omega⟩
  have hlast := hy.last
  simp only [Nat.add_sub_cancel] at hlast
  have IHy := IH2' c (m + 1) hy
  have IHx := IH1' c hx
  have hcm := hy.lt
  obtain ⟨hj, hpj⟩ := seg_at hp
  have hk' := ar2 har
  have hst := (List.getElem?_eq_some_iff.1 hlast).1
  obtain ⟨sb, soff, scap, hsva, hsc⟩ := rd_at hsv hlast
  have hbx := leadT_le width_bd x
  have hby := leadT_le width_bd y
  simp only [sz] at hsz
  obtain ⟨bl, off, cap, tv, hva, hb, hat⟩ := hv.at (m + 1) hj
  rw [hpj] at hat
  have k0 := hat.k; have t0 := hat.t; have n0 := hat.n
  have hg : w.grownBy (w.alloc (.cells #[.int .i64 p.k, tv, .int .i64 p.n] 49)) none := World.grownBy_alloc _ _ _
  have hA := l2arity_any p.k (w.alloc (.cells #[.int .i64 p.k, tv, .int .i64 p.n] 49))
  rw [har] at hA
  have HV : Hid (RdP B w va doc) := hv
  have HSV : Hid (RdI B w sv st) := hsv
  have HB : Hid (B ≤ w.heap.size) := hB
  have IH2 := IHx.out (w.alloc (.cells #[.int .i64 p.k, tv, .int .i64 p.n] 49)) (by simp; omega) (hv.keep hg) (hsv.keep hg)
  have hscA : (w.alloc (.cells #[.int .i64 p.k, tv, .int .i64 p.n] 49)).cell? ⟨sb, soff + m, none⟩ = some (.int .i64 (c : Int)) := hg.cell hsc (by simp)
  obtain ⟨ta, tcap, htv, _, _⟩ := hat.sl
  have HG : Hid (w.grownBy (w.alloc (.cells #[.int .i64 p.k, tv, .int .i64 p.n] 49)) none) := hg
  have HF : Hid (leadT (.bin p x y) = if p.k = 9 ∨ (leadT x).2 = true then leadT x else ((leadT x).1 + (leadT y).1, (leadT y).2)) := rfl
  clear hv hsv hat hpj hp har hx hy IH1' IH2' IHx hg hd hlast hsc
  have ht1 : (((m + 1 : Nat) : Int) + 1 - 2) = (m : Int) := by omega
  have ht2 : (((m + 1 : Nat) : Int) - 1) = (m : Int) := by omega
  have hcm2 : c ≤ m := by omega
  rw [show ((m + 1 + 1 : Nat) : Int) = ((m + 1 : Nat) : Int) + 1 by omega]
  clear hcm
  subst htv hva hsva
  generalize m + 1 = t at *
  obtain ⟨x1, hx1⟩ : ∃ x1, x1 = (leadT x).1 := ⟨_, rfl⟩
  obtain ⟨x2, hx2⟩ : ∃ x2, x2 = (leadT x).2 := ⟨_, rfl⟩
  obtain ⟨y1, hy1⟩ : ∃ y1, y1 = (leadT y).1 := ⟨_, rfl⟩
  obtain ⟨y2, hy2⟩ : ∃ y2, y2 = (leadT y).2 := ⟨_, rfl⟩
  rw [← hx1, ← hx2] at IH2
  rw [← hx1] at hbx
  rw [← hy1] at hby
  have HRa : Hid (p.k = 9 ∨ x2 = true → (leadT (.bin p x y)).1 = x1 ∧ (leadT (.bin p x y)).2 = x2) := by
    intro h; rw [HF.out, if_pos (by rw [← hx2]; exact h), hx1, hx2]; exact ⟨rfl, rfl⟩
  have HRb : Hid (¬ (p.k = 9 ∨ x2 = true) → (leadT (.bin p x y)).1 = x1 + y1 ∧ (leadT (.bin p x y)).2 = y2) := by
    intro h; rw [HF.out, if_neg (by rw [← hx2]; exact h), hx1, hy1, hy2]; exact ⟨rfl, rfl⟩
  have HY1 : Hid (y1 = (leadT y).1) := hy1
  have HY2 : Hid (y2 = (leadT y).2) := hy2
  clear hx1 hx2 hy1 hy2 HF
  rcases hk' with hk | hk
  · have q0 : (p.k == 0) = false := by rw [hk]; rfl
    have q1 : (p.k == 1) = false := by rw [hk]; rfl
    have q7 : (p.k == 7) = false := by rw [hk]; rfl
    have q8 : (p.k == 8) = false := by rw [hk]; rfl
    have q9 : (p.k == 9) = false := by rw [hk]; rfl
    have HK : Hid (¬ p.k = 9) := by unfold Hid; omega
    clear hk
    cases x2 with
    | true =>
      have HR := HRa.out (.inr rfl)
      have HR' : Hid ((leadT (.bin p x y)).1 = x1 ∧ (leadT (.bin p x y)).2 = true) := HR
      clear HRa HRb HR
      go_enter Tryd.func59, Tryd.ntmps59
      go_wp2_with fail
      refine hA.mono ?_
      rintro e w1 ⟨rfl, rfl⟩
      go_wp2_with fail
      refine IH2.mono ?_
      rintro e w2 ⟨rfl, g2⟩
      have c0 := g2.cell (a := ⟨w.heap.size, 0, none⟩) (v := .int .i64 p.k) (by simp [go_sem]) (by simp)
      go_wp2
      go_ret2
      exact ⟨by rw [HR'.out.1, HR'.out.2]; rfl, grown_trans HG.out g2⟩
    | false =>
      have HR := HRb.out (by have := HK.out; simp [this])
      have HR' : Hid ((leadT (.bin p x y)).1 = x1 + y1 ∧ (leadT (.bin p x y)).2 = y2) := HR
      clear HRa HRb HR
      go_enter Tryd.func59, Tryd.ntmps59
      go_wp2_with fail
      refine hA.mono ?_
      rintro e w1 ⟨rfl, rfl⟩
      go_wp2_with fail
      refine IH2.mono ?_
      rintro e w2 ⟨rfl, g2⟩
      have c0 := g2.cell (a := ⟨w.heap.size, 0, none⟩) (v := .int .i64 p.k) (by simp [go_sem]) (by simp)
      have hgw := grown_trans HG.out g2
      have IH3 := IHy.out w2 (Nat.le_trans HB.out hgw.size) (HV.out.keep hgw) (HSV.out.keep hgw)
      rw [← HY1.out, ← HY2.out] at IH3
      clear IHy HV HSV HY1 HY2
      go_wp2_with fail
      refine IH3.mono ?_
      rintro e w3 ⟨rfl, g3⟩
      clear IH3
      go_wp2
      go_ret2
      exact ⟨by rw [HR'.out.1, HR'.out.2]; rfl, grown_trans hgw g3⟩
  · have q0 : (p.k == 0) = false := by rw [hk]; rfl
    have q1 : (p.k == 1) = false := by rw [hk]; rfl
    have q7 : (p.k == 7) = false := by rw [hk]; rfl
    have q8 : (p.k == 8) = false := by rw [hk]; rfl
    have q9 : (p.k == 9) = true := by rw [hk]; rfl
    have HR := HRa.out (.inl hk)
    have HR' : Hid ((leadT (.bin p x y)).1 = x1 ∧ (leadT (.bin p x y)).2 = x2) := HR
    clear HRa HRb HR hk
    go_enter Tryd.func59, Tryd.ntmps59
    go_wp2_with fail
    refine hA.mono ?_
    rintro e w1 ⟨rfl, rfl⟩
    go_wp2_with fail
    refine IH2.mono ?_
    rintro e w2 ⟨rfl, g2⟩
    have c0 := g2.cell (a := ⟨w.heap.size, 0, none⟩) (v := .int .i64 p.k) (by simp [go_sem]) (by simp)
    go_wp2
    go_ret2
    exact ⟨by rw [HR'.out.1, HR'.out.2]; rfl, grown_trans HG.out g2⟩

theorem l2lead_any (va sv : Value) (B : Nat) (doc : List Pc) (st : List Int) (hd : Doc doc) :
    ∀ (T : Tr) (a b : Nat), Seg doc st T a b → sz T ≤ 140000 → LeadSays va sv B doc st T b
  | .leaf p, a, b, hs, _ => lead_leaf va sv B doc st hd p a b hs
  | .un p x, a, b, hs, hz => lead_un va sv B doc st hd p x a b hs (fun m hx => l2lead_any va sv B doc st hd x a m hx (by simp only [sz] at hz; omega))
  | .bin p x y, a, b, hs, hz => lead_bin va sv B doc st hd p x y a b hs hz (fun m hx => l2lead_any va sv B doc st hd x a m hx (by simp only [sz] at hz; omega)) (fun c m hy => l2lead_any va sv B doc st hd y c m hy (by simp only [sz] at hz; omega))

end Go.Proofs.YtbiiopiaglkicaaDoor
