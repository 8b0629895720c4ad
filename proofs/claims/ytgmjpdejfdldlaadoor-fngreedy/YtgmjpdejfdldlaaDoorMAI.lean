import Derived.Test.YtgmjpdejfdldlaaDoorMAF
import Derived.Test.YtgmjpdejfdldlaaDoorMAH
namespace Go.Proofs.YtgmjpdejfdldlaaDoor
open Go.RowKit

theorem width_bd (t : List Int) : -1 ≤ widthR t ∧ widthR t ≤ t.length := by
  have := decR_len t
  unfold widthR
  split <;> omega

/-- The contract, for one tree. -/
def LeadSays (va sv : Value) (B : Nat) (doc : List Pc) (st : List Int) (T : Tr) (b : Nat) : Prop :=
  ∀ w : World, B ≤ w.heap.size → RdP B w va doc → RdI B w sv st → Calls Tryd.prog 59 #[va, sv, .int .i64 (b : Int)] w fun e w' => e = .returned (.tuple #[.int .i64 (leadT T).1, .bool (leadT T).2]) ∧ w.grownBy w' none

set_option maxHeartbeats 2000000 in
set_option maxRecDepth 100000 in
theorem lead_leaf (va sv : Value) (B : Nat) (doc : List Pc) (st : List Int) (hd : Doc doc) (p : Pc) (a b : Nat) (hs : Seg doc st (.leaf p) a b) : LeadSays va sv B doc st (.leaf p) b := by
  intro w hB hv hsv
  have hdl := hd.len
  obtain ⟨rfl, hp, har, _⟩ := hs
  obtain ⟨hj, hpj⟩ := seg_at hp
  obtain ⟨sa, scap, hsva, _⟩ := id hsv
  obtain ⟨bl, off, cap, tv, hva, hb, hat⟩ := hv.at a hj
  rw [hpj] at hat
  have k0 := hat.k; have t0 := hat.t; have n0 := hat.n
  have hmem : p ∈ doc := by rw [← hpj]; exact List.getElem_mem hj
  have hg : w.grownBy (w.alloc (.cells #[.int .i64 p.k, tv, .int .i64 p.n] 40)) none := World.grownBy_alloc _ _ _
  have hA := l2arity_any p.k (w.alloc (.cells #[.int .i64 p.k, tv, .int .i64 p.n] 40))
  have hW := specTextWidth_any tv p.t (w.alloc (.cells #[.int .i64 p.k, tv, .int .i64 p.n] 40)) ((hat.rd.keep hg).wide (by simp; omega)) (hd.bys p hmem) (hd.tlen p hmem)
  rw [har] at hA
  obtain ⟨ta, tcap, htv, _, _⟩ := hat.sl
  have HG : Hid (w.grownBy (w.alloc (.cells #[.int .i64 p.k, tv, .int .i64 p.n] 40)) none) := hg
  have hbw := width_bd p.t
  clear hv hsv hat hpj hp har hmem hg hd
  subst htv hva hsva
  rw [show ((a + 1 : Nat) : Int) = (a : Int) + 1 by omega]
  by_cases hk : p.k = 0
  · have HF : Hid (leadT (.leaf p) = (0, false)) := by unfold Hid leadT; rw [if_pos hk]
    have q0 : (p.k == 0) = true := by rw [hk]; rfl
    clear hk hA hW
    go_enter Tryd.func59, Tryd.ntmps59
    go_wp2
    go_ret2
    exact ⟨by rw [HF.out]; rfl, HG.out⟩
  have q0 : (p.k == 0) = false := by simpa using hk
  by_cases hk1 : p.k = 1
  · have HF : Hid (leadT (.leaf p) = (widthR p.t, false)) := by unfold Hid leadT; rw [if_neg hk, if_pos hk1]
    have q1 : (p.k == 1) = true := by rw [hk1]; rfl
    clear hk hk1 hA
    generalize widthR p.t = wd at *
    go_enter Tryd.func59, Tryd.ntmps59
    go_wp2_with fail
    refine hW.mono ?_
    rintro e w1 ⟨rfl, g1⟩
    go_wp2
    go_ret2
    exact ⟨by rw [HF.out]; rfl, grown_trans HG.out g1⟩
  · have HF : Hid (leadT (.leaf p) = (0, true)) := by unfold Hid leadT; rw [if_neg hk, if_neg hk1]
    have q1 : (p.k == 1) = false := by simpa using hk1
    clear hk hk1 hW
    go_enter Tryd.func59, Tryd.ntmps59
    go_wp2_with fail
    refine hA.mono ?_
    rintro e w1 ⟨rfl, rfl⟩
    go_wp2
    go_ret2
    exact ⟨by rw [HF.out]; rfl, HG.out⟩

set_option maxHeartbeats 2000000 in
set_option maxRecDepth 100000 in
theorem lead_un (va sv : Value) (B : Nat) (doc : List Pc) (st : List Int) (hd : Doc doc) (p : Pc) (x : Tr) (a b : Nat) (hs : Seg doc st (.un p x) a b)
    (IHx : ∀ m, Seg doc st x a m → Hid (LeadSays va sv B doc st x m)) : LeadSays va sv B doc st (.un p x) b := by
  intro w hB hv hsv
  have hdl := hd.len
  obtain ⟨m, rfl, hp, har, _, hx⟩ := hs
  have IH := IHx m hx
  obtain ⟨hj, hpj⟩ := seg_at hp
  have hk' := ar1 har
  obtain ⟨sa, scap, hsva, _⟩ := id hsv
  obtain ⟨bl, off, cap, tv, hva, hb, hat⟩ := hv.at m hj
  rw [hpj] at hat
  have k0 := hat.k; have t0 := hat.t; have n0 := hat.n
  have hg : w.grownBy (w.alloc (.cells #[.int .i64 p.k, tv, .int .i64 p.n] 40)) none := World.grownBy_alloc _ _ _
  have hA := l2arity_any p.k (w.alloc (.cells #[.int .i64 p.k, tv, .int .i64 p.n] 40))
  rw [har] at hA
  have IH2 := IH.out (w.alloc (.cells #[.int .i64 p.k, tv, .int .i64 p.n] 40)) (by simp; omega) (hv.keep hg) (hsv.keep hg)
  obtain ⟨ta, tcap, htv, _, _⟩ := hat.sl
  have HG : Hid (w.grownBy (w.alloc (.cells #[.int .i64 p.k, tv, .int .i64 p.n] 40)) none) := hg
  have HF1 : Hid ((leadT (.un p x)).1 = (leadT x).1) := rfl
  have HF2 : Hid ((leadT (.un p x)).2 = (leadT x).2) := rfl
  clear hv hsv hat hpj hp har hx IHx IH hg hd
  subst htv hva hsva
  rw [show ((m + 1 : Nat) : Int) = (m : Int) + 1 by omega]
  obtain ⟨y1, hy1⟩ : ∃ y1, y1 = (leadT x).1 := ⟨_, rfl⟩
  obtain ⟨y2, hy2⟩ : ∃ y2, y2 = (leadT x).2 := ⟨_, rfl⟩
  have HR : Hid ((leadT (.un p x)).1 = y1 ∧ (leadT (.un p x)).2 = y2) := ⟨hy1 ▸ HF1.out, hy2 ▸ HF2.out⟩
  rw [← hy1, ← hy2] at IH2
  clear hy1 hy2 HF1 HF2
  rcases hk' with hk | hk
  · have q0 : (p.k == 0) = false := by rw [hk]; rfl
    have q1 : (p.k == 1) = false := by rw [hk]; rfl
    have q7 : (p.k == 7) = true := by rw [hk]; rfl
    have q8 : (p.k == 8) = false := by rw [hk]; rfl
    clear hk
    go_enter Tryd.func59, Tryd.ntmps59
    go_wp2_with fail
    refine hA.mono ?_
    rintro e w1 ⟨rfl, rfl⟩
    go_wp2_with fail
    refine IH2.mono ?_
    rintro e w2 ⟨rfl, g2⟩
    go_wp2
    go_ret2
    exact ⟨by rw [HR.out.1, HR.out.2]; rfl, grown_trans HG.out g2⟩
  · have q0 : (p.k == 0) = false := by rw [hk]; rfl
    have q1 : (p.k == 1) = false := by rw [hk]; rfl
    have q7 : (p.k == 7) = false := by rw [hk]; rfl
    have q8 : (p.k == 8) = true := by rw [hk]; rfl
    clear hk
    go_enter Tryd.func59, Tryd.ntmps59
    go_wp2_with fail
    refine hA.mono ?_
    rintro e w1 ⟨rfl, rfl⟩
    go_wp2_with fail
    refine IH2.mono ?_
    rintro e w2 ⟨rfl, g2⟩
    go_wp2
    go_ret2
    exact ⟨by rw [HR.out.1, HR.out.2]; rfl, grown_trans HG.out g2⟩

set_option maxHeartbeats 2000000 in
set_option maxRecDepth 100000 in
theorem lead_bin (va sv : Value) (B : Nat) (doc : List Pc) (st : List Int) (hd : Doc doc) (p : Pc) (x y : Tr) (a b : Nat) (hs : Seg doc st (.bin p x y) a b) (hsz : sz (.bin p x y) ≤ 140000)
    (IH1' : ∀ m, Seg doc st x a m → Hid (LeadSays va sv B doc st x m)) (IH2' : ∀ c m, Seg doc st y c m → Hid (LeadSays va sv B doc st y m)) : LeadSays va sv B doc st (.bin p x y) b := by
  intro w hB hv hsv
  have hdl := hd.len
  obtain ⟨c, m0, rfl, hp, har, _, hx, hy⟩ := hs
  obtain ⟨m, rfl⟩ : ∃ m, m0 = m + 1 := ⟨m0 - 1, by have := hy.lt; omega⟩
  have hlast := hy.last
  simp only [Nat.add_sub_cancel] at hlast
  have IHy := IH2' c (m + 1) hy
  have IHx := IH1' c hx
  have hcm := hy.lt
  obtain ⟨hj, hpj⟩ := seg_at hp
  have hk' := ar2 har
  have hst := (List.getElem?_eq_some_iff.1 hlast).1
  obtain ⟨sb, soff, scap, hsva, hsc⟩ := rd_at hsv hlast
  have hbx := leadT_le width_bd x
  have hby := leadT_le width_bd y
  simp only [sz] at hsz
  obtain ⟨bl, off, cap, tv, hva, hb, hat⟩ := hv.at (m + 1) hj
  rw [hpj] at hat
  have k0 := hat.k; have t0 := hat.t; have n0 := hat.n
  have hg : w.grownBy (w.alloc (.cells #[.int .i64 p.k, tv, .int .i64 p.n] 40)) none := World.grownBy_alloc _ _ _
  have hA := l2arity_any p.k (w.alloc (.cells #[.int .i64 p.k, tv, .int .i64 p.n] 40))
  rw [har] at hA
  have HV : Hid (RdP B w va doc) := hv
  have HSV : Hid (RdI B w sv st) := hsv
  have HB : Hid (B ≤ w.heap.size) := hB
  have IH2 := IHx.out (w.alloc (.cells #[.int .i64 p.k, tv, .int .i64 p.n] 40)) (by simp; omega) (hv.keep hg) (hsv.keep hg)
  have hscA : (w.alloc (.cells #[.int .i64 p.k, tv, .int .i64 p.n] 40)).cell? ⟨sb, soff + m, none⟩ = some (.int .i64 (c : Int)) := hg.cell hsc (by simp)
  obtain ⟨ta, tcap, htv, _, _⟩ := hat.sl
  have HG : Hid (w.grownBy (w.alloc (.cells #[.int .i64 p.k, tv, .int .i64 p.n] 40)) none) := hg
  have HF : Hid (leadT (.bin p x y) = if p.k = 9 ∨ (leadT x).2 = true then leadT x else ((leadT x).1 + (leadT y).1, (leadT y).2)) := rfl
  clear hv hsv hat hpj hp har hx hy IH1' IH2' IHx hg hd hlast hsc
  have ht1 : (((m + 1 : Nat) : Int) + 1 - 2) = (m : Int) := by omega
  have ht2 : (((m + 1 : Nat) : Int) - 1) = (m : Int) := by omega
  have hcm2 : c ≤ m := by omega
  rw [show ((m + 1 + 1 : Nat) : Int) = ((m + 1 : Nat) : Int) + 1 by omega]
  clear hcm
  subst htv hva hsva
  generalize m + 1 = t at *
  obtain ⟨x1, hx1⟩ : ∃ x1, x1 = (leadT x).1 := ⟨_, rfl⟩
  obtain ⟨x2, hx2⟩ : ∃ x2, x2 = (leadT x).2 := ⟨_, rfl⟩
  obtain ⟨y1, hy1⟩ : ∃ y1, y1 = (leadT y).1 := ⟨_, rfl⟩
  obtain ⟨y2, hy2⟩ : ∃ y2, y2 = (leadT y).2 := ⟨_, rfl⟩
  rw [← hx1, ← hx2] at IH2
  rw [← hx1] at hbx
  rw [← hy1] at hby
  have HRa : Hid (p.k = 9 ∨ x2 = true → (leadT (.bin p x y)).1 = x1 ∧ (leadT (.bin p x y)).2 = x2) := by
    intro h; rw [HF.out, if_pos (by rw [← hx2]; exact h), hx1, hx2]; exact ⟨rfl, rfl⟩
  have HRb : Hid (¬ (p.k = 9 ∨ x2 = true) → (leadT (.bin p x y)).1 = x1 + y1 ∧ (leadT (.bin p x y)).2 = y2) := by
    intro h; rw [HF.out, if_neg (by rw [← hx2]; exact h), hx1, hy1, hy2]; exact ⟨rfl, rfl⟩
  have HY1 : Hid (y1 = (leadT y).1) := hy1
  have HY2 : Hid (y2 = (leadT y).2) := hy2
  clear hx1 hx2 hy1 hy2 HF
  rcases hk' with hk | hk
  · have q0 : (p.k == 0) = false := by rw [hk]; rfl
    have q1 : (p.k == 1) = false := by rw [hk]; rfl
    have q7 : (p.k == 7) = false := by rw [hk]; rfl
    have q8 : (p.k == 8) = false := by rw [hk]; rfl
    have q9 : (p.k == 9) = false := by rw [hk]; rfl
    have HK : Hid (¬ p.k = 9) := by unfold Hid; omega
    clear hk
    cases x2 with
    | true =>
      have HR := HRa.out (.inr rfl)
      have HR' : Hid ((leadT (.bin p x y)).1 = x1 ∧ (leadT (.bin p x y)).2 = true) := HR
      clear HRa HRb HR
      go_enter Tryd.func59, Tryd.ntmps59
      go_wp2_with fail
      refine hA.mono ?_
      rintro e w1 ⟨rfl, rfl⟩
      go_wp2_with fail
      refine IH2.mono ?_
      rintro e w2 ⟨rfl, g2⟩
      have c0 := g2.cell (a := ⟨w.heap.size, 0, none⟩) (v := .int .i64 p.k) (by simp [go_sem]) (by simp)
      go_wp2
      go_ret2
      exact ⟨by rw [HR'.out.1, HR'.out.2]; rfl, grown_trans HG.out g2⟩
    | false =>
      have HR := HRb.out (by have := HK.out; simp [this])
      have HR' : Hid ((leadT (.bin p x y)).1 = x1 + y1 ∧ (leadT (.bin p x y)).2 = y2) := HR
      clear HRa HRb HR
      go_enter Tryd.func59, Tryd.ntmps59
      go_wp2_with fail
      refine hA.mono ?_
      rintro e w1 ⟨rfl, rfl⟩
      go_wp2_with fail
      refine IH2.mono ?_
      rintro e w2 ⟨rfl, g2⟩
      have c0 := g2.cell (a := ⟨w.heap.size, 0, none⟩) (v := .int .i64 p.k) (by simp [go_sem]) (by simp)
      have hgw := grown_trans HG.out g2
      have IH3 := IHy.out w2 (Nat.le_trans HB.out hgw.size) (HV.out.keep hgw) (HSV.out.keep hgw)
      rw [← HY1.out, ← HY2.out] at IH3
      clear IHy HV HSV HY1 HY2
      go_wp2_with fail
      refine IH3.mono ?_
      rintro e w3 ⟨rfl, g3⟩
      clear IH3
      go_wp2
      go_ret2
      exact ⟨by rw [HR'.out.1, HR'.out.2]; rfl, grown_trans hgw g3⟩
  · have q0 : (p.k == 0) = false := by rw [hk]; rfl
    have q1 : (p.k == 1) = false := by rw [hk]; rfl
    have q7 : (p.k == 7) = false := by rw [hk]; rfl
    have q8 : (p.k == 8) = false := by rw [hk]; rfl
    have q9 : (p.k == 9) = true := by rw [hk]; rfl
    have HR := HRa.out (.inl hk)
    have HR' : Hid ((leadT (.bin p x y)).1 = x1 ∧ (leadT (.bin p x y)).2 = x2) := HR
    clear HRa HRb HR hk
    go_enter Tryd.func59, Tryd.ntmps59
    go_wp2_with fail
    refine hA.mono ?_
    rintro e w1 ⟨rfl, rfl⟩
    go_wp2_with fail
    refine IH2.mono ?_
    rintro e w2 ⟨rfl, g2⟩
    have c0 := g2.cell (a := ⟨w.heap.size, 0, none⟩) (v := .int .i64 p.k) (by simp [go_sem]) (by simp)
    go_wp2
    go_ret2
    exact ⟨by rw [HR'.out.1, HR'.out.2]; rfl, grown_trans HG.out g2⟩

theorem l2lead_any (va sv : Value) (B : Nat) (doc : List Pc) (st : List Int) (hd : Doc doc) :
    ∀ (T : Tr) (a b : Nat), Seg doc st T a b → sz T ≤ 140000 → LeadSays va sv B doc st T b
  | .leaf p, a, b, hs, _ => lead_leaf va sv B doc st hd p a b hs
  | .un p x, a, b, hs, hz => lead_un va sv B doc st hd p x a b hs (fun m hx => l2lead_any va sv B doc st hd x a m hx (by simp only [sz] at hz; omega))
  | .bin p x y, a, b, hs, hz => lead_bin va sv B doc st hd p x y a b hs hz (fun m hx => l2lead_any va sv B doc st hd x a m hx (by simp only [sz] at hz; omega)) (fun c m hy => l2lead_any va sv B doc st hd y c m hy (by simp only [sz] at hz; omega))

end Go.Proofs.YtgmjpdejfdldlaaDoor

namespace Go.Proofs.YtgmjpdejfdldlaaDoor
open Go.RowKit

/-- The slice value v reads as items: where each ends, and its indent. -/
def RdT (B : Nat) (w : World) (v : Value) (its : List (Nat × Int)) : Prop :=
  ∃ a cap, v = .slice a its.length cap ∧ its.length ≤ cap ∧ cap ≤ maxLen ∧ (its ≠ [] → ∃ b off, a = some ⟨b, off, none⟩ ∧ b < B ∧ ∀ j x, its[j]? = some x → w.cell? ⟨b, off + j * 2, none⟩ = some (.int .i64 (x.1 : Int)) ∧ w.cell? ⟨b, off + j * 2 + 1, none⟩ = some (.int .i64 x.2))

theorem RdT.keep {B : Nat} {w w' : World} {v : Value} {its : List (Nat × Int)} (h : RdT B w v its) (hg : w.grownBy w' none) : RdT B w' v its := by
  obtain ⟨a, cap, hv, h1, h2, hh⟩ := h
  refine ⟨a, cap, hv, h1, h2, fun h0 => ?_⟩
  obtain ⟨b, off, ha, hb, hc⟩ := hh h0
  exact ⟨b, off, ha, hb, fun j x hx => ⟨hg.cell (hc j x hx).1 (by simp), hg.cell (hc j x hx).2 (by simp)⟩⟩

theorem RdT.at {B : Nat} {w : World} {v : Value} {its : List (Nat × Int)} (h : RdT B w v its) {j : Nat} {x : Nat × Int} (hx : its[j]? = some x) :
    ∃ b off cap, v = .slice (some ⟨b, off, none⟩) its.length cap ∧ its.length ≤ cap ∧ cap ≤ maxLen ∧ b < B ∧ w.cell? ⟨b, off + j * 2, none⟩ = some (.int .i64 (x.1 : Int)) ∧ w.cell? ⟨b, off + j * 2 + 1, none⟩ = some (.int .i64 x.2) := by
  obtain ⟨a, cap, hv, h1, h2, hh⟩ := h
  obtain ⟨b, off, ha, hb, hc⟩ := hh (fun e => by rw [e] at hx; simp at hx)
  exact ⟨b, off, cap, by rw [hv, ha], h1, h2, hb, (hc j x hx).1, (hc j x hx).2⟩

theorem szs_append : ∀ (a b : List Tr), szs (a ++ b) = szs a + szs b
  | [], b => by simp [szs]
  | x :: a, b => by simp only [List.cons_append, szs, szs_append a b]; omega

theorem take_tr (Ts : List Tr) (j : Nat) (T : Tr) (h : Ts[j]? = some T) : Ts.take (j + 1) = Ts.take j ++ [T] := by
  rw [List.take_add_one, h]; rfl

/-- The items fit their trees. -/
def Fits (doc : List Pc) (st : List Int) (Ts : List Tr) (its : List (Nat × Int)) : Prop :=
  Ts.length = its.length ∧ ∀ (j : Nat) (T : Tr) (x : Nat × Int), Ts[j]? = some T → its[j]? = some x → ∃ a, Seg doc st T a x.1

set_option maxHeartbeats 600000 in
set_option maxRecDepth 100000 in
theorem l3behind_any (va sv v : Value) (B : Nat) (doc : List Pc) (st : List Int) (hd : Doc doc) (Ts : List Tr) (its : List (Nat × Int)) (hf : Fits doc st Ts its) (hz : szs Ts ≤ 140000)
    (w : World) (hB : B ≤ w.heap.size) (hv : RdP B w va doc) (hsv : RdI B w sv st) (hr : RdT w.heap.size w v its) :
    Calls Tryd.prog 40 #[va, sv, v] w fun e w' => e = .returned (.int .i64 (behind Ts.reverse)) ∧ w.grownBy w' none := by
  have hil := length_szs Ts
  have hfl := hf.1
  obtain ⟨ra, rcap, hrv, hrc, hrm, _⟩ := id hr
  subst hrv
  go_enter Tryd.func40, Tryd.ntmps40
  go_wp2
  go_loopw [7, 8] (fun acc i wr => ∃ (k : Nat) (s : Int), k ≤ its.length ∧ i = .int .i64 ((k : Int) - 1) ∧ acc = .int .i64 s ∧ -((szs Ts : Int) - szs (Ts.take k)) ≤ s ∧ s ≤ (szs Ts : Int) - szs (Ts.take k) ∧ Hid (behind Ts.reverse = s + behind (Ts.take k).reverse) ∧ w.grownBy wr none)
    (fun _ i _ => (intOf i + 1).toNat)
  case atStart =>
    refine ⟨its.length, 0, Nat.le_refl _, rfl, rfl, ?_, ?_, ?_, World.grownBy.refl _ _⟩
    · rw [← hfl, List.take_length]; omega
    · rw [← hfl, List.take_length]; omega
    · unfold Hid; rw [← hfl, List.take_length]; omega
  case round =>
    obtain ⟨k, s, hk, rfl, rfl, hs1, hs2, HS, hgr⟩ := hrel
    cases k with
    | zero =>
      have HR : Hid (behind Ts.reverse = s) := by unfold Hid; rw [HS.out]; simp [behind]
      clear HS
      go_wp2
      go_ret
      exact ⟨by rw [HR.out]; rfl, hgr⟩
    | succ j =>
      obtain ⟨T, hT⟩ : ∃ T, Ts[j]? = some T := ⟨_, List.getElem?_eq_getElem (by omega)⟩
      obtain ⟨x, hx⟩ : ∃ x, its[j]? = some x := ⟨_, List.getElem?_eq_getElem (by omega)⟩
      obtain ⟨a, hseg⟩ := hf.2 j T x hT hx
      have htk := take_tr Ts j T hT
      have hszt : szs (Ts.take (j + 1)) = szs (Ts.take j) + sz T := by rw [htk, szs_append]; simp [szs]
      have hle : szs (Ts.take (j + 1)) ≤ szs Ts := by
        have := szs_append (Ts.take (j + 1)) (Ts.drop (j + 1))
        rw [List.take_append_drop] at this
        omega
      have hlb := leadT_le width_bd T
      have hsz1 : sz T ≤ 140000 := by omega
      have hL := l2lead_any va sv B doc st hd T a x.1 hseg hsz1 wr (Nat.le_trans hB hgr.size) (hv.keep hgr) (hsv.keep hgr)
      obtain ⟨rb, roff, rcap', hrv, _, _, _, c1, c2⟩ := (hr.keep hgr).at hx
      cases hrv
      have HS2 : Hid (behind Ts.reverse = s + (if (leadT T).2 = true then (leadT T).1 else (leadT T).1 + behind (Ts.take j).reverse)) := by
        unfold Hid; rw [HS.out, htk, List.reverse_append]; rfl
      rw [hszt] at hs1 hs2 hle
      clear HS htk hszt hT hx hseg hf hv hsv hr
      rw [show (((j + 1 : Nat) : Int) - 1) = (j : Int) by omega]
      generalize (leadT T).1 = l1 at *
      generalize (leadT T).2 = l2 at *
      generalize x.1 = x1 at *
      cases l2 with
      | true =>
        have HR : Hid (behind Ts.reverse = s + l1) := by unfold Hid; rw [HS2.out]; simp
        clear HS2
        go_wp2_with fail
        refine hL.mono ?_
        rintro e w2 ⟨rfl, g2⟩
        go_wp2
        go_ret
        exact ⟨by rw [HR.out]; rfl, grown_trans hgr g2⟩
      | false =>
        have HR : Hid (behind Ts.reverse = (s + l1) + behind (Ts.take j).reverse) := by unfold Hid; rw [HS2.out]; simp; omega
        clear HS2
        go_wp2_with fail
        refine hL.mono ?_
        rintro e w2 ⟨rfl, g2⟩
        go_wp2
        go_roundw
        case rel => exact ⟨j, s + l1, by omega, by go_num, by go_num, by omega, by omega, HR, grown_trans hgr g2⟩
        case measure => simp [intOf]

end Go.Proofs.YtgmjpdejfdldlaaDoor

namespace Go.Proofs.YtgmjpdejfdldlaaDoor

/-- An item of the layout that ends at place b of the document. -/
structure FitI (doc : List Pc) (st : List Int) (it : Item) (b : Nat) : Prop where
  seg : ∃ a, Seg doc st it.T a b ∧ it.n = grp doc a
  ok : okN it.T
  lo : 0 ≤ it.ind
  hi : it.ind + nestT it.T ≤ 4000

theorem FitI.ind_le {doc : List Pc} {st : List Int} {it : Item} {b : Nat} (h : FitI doc st it b) : it.ind ≤ 4000 := by
  have := nestT_pos it.T h.ok; have := h.hi; omega

theorem fit_leaf {doc : List Pc} {st : List Int} {p : Pc} {n b : Nat} {ind : Int} (h : FitI doc st ⟨.leaf p, n, ind⟩ b) : ∃ m, b = m + 1 ∧ doc[m]? = some p ∧ ar p.k = 0 := by
  obtain ⟨a, ⟨hb, hp, har, _⟩, _⟩ := h.seg
  exact ⟨a, hb, hp, har⟩

theorem fit_un {doc : List Pc} {st : List Int} {p : Pc} {x : Tr} {n b : Nat} {ind : Int} (h : FitI doc st ⟨.un p x, n, ind⟩ b) :
    ∃ m, b = m + 1 ∧ doc[m]? = some p ∧ ar p.k = 1 ∧ 0 ≤ p.n ∧ FitI doc st ⟨x, n, ind + p.n⟩ m ∧ FitI doc st ⟨x, n, ind⟩ m ∧ grp doc m = n + cntG x := by
  obtain ⟨a, ⟨m, hb, hp, har, _, hx⟩, hn⟩ := h.seg
  have h1 := h.hi; have h2 := h.lo; have h3 := h.ok
  simp only [nestT, okN] at h1 h2 h3
  have h4 := nestT_pos x h3.2
  have hg := grp_seg hx
  simp only at hn
  exact ⟨m, hb, hp, har, h3.1, ⟨⟨a, hx, hn⟩, h3.2, by simp only; omega, by simp only; omega⟩, ⟨⟨a, hx, hn⟩, h3.2, h2, by simp only; omega⟩, by rw [hg, hn]⟩

theorem fit_bin {doc : List Pc} {st : List Int} {p : Pc} {x y : Tr} {n b : Nat} {ind : Int} (h : FitI doc st ⟨.bin p x y, n, ind⟩ b) :
    ∃ (c m : Nat), b = m + 2 ∧ doc[m + 1]? = some p ∧ ar p.k = 2 ∧ st[m]? = some (c : Int) ∧ c ≤ m ∧ FitI doc st ⟨x, n, ind⟩ c ∧ FitI doc st ⟨y, n + cntG x, ind⟩ (m + 1) := by
  obtain ⟨a, ⟨c, m0, hb, hp, har, _, hx, hy⟩, hn⟩ := h.seg
  have h1 := h.hi; have h2 := h.lo; have h3 := h.ok
  simp only [nestT, okN] at h1 h2 h3
  have hlt := hy.lt
  obtain ⟨m, rfl⟩ : ∃ m, m0 = m + 1 := ⟨m0 - 1, by omega⟩
  have hg := grp_seg hx
  have hl := hy.last
  simp only [Nat.add_sub_cancel] at hl
  simp only at hn
  exact ⟨c, m, hb, hp, har, hl, by omega, ⟨⟨a, hx, hn⟩, h3.1, h2, by simp only; omega⟩, ⟨⟨c, hy, by simp only; rw [hg, hn]⟩, h3.2, h2, by simp only; omega⟩⟩

/-- The trees of the items. -/
def trs (its : List Item) : List Tr := its.map (·.T)

theorem newLine_len (ind : Int) (h1 : ind ≤ 4000) : (newLine ind).length ≤ 4001 := by
  unfold newLine; simp; omega

/-- The layout of a stack whose size is below the fuel does not hang on the fuel. -/
theorem lay_fuel (width : Int) (given : Option (List Int)) : ∀ (f f' : Nat) (its : List Item) (out met : List Int) (col : Int), szs (trs its) < f → szs (trs its) < f' → lay width given f its out met col = lay width given f' its out met col
  | 0, _, _, _, _, _, h, _ => by omega
  | _ + 1, 0, _, _, _, _, _, h => by omega
  | f + 1, f' + 1, [], out, met, col, _, _ => by simp only [lay]
  | f + 1, f' + 1, ⟨.leaf p, n, ind⟩ :: rest, out, met, col, h1, h2 => by
    simp only [trs, List.map_cons, szs, sz] at h1 h2
    have hr : ∀ o m c, lay width given f rest o m c = lay width given f' rest o m c := fun o m c => lay_fuel width given f f' rest o m c (by unfold trs; omega) (by unfold trs; omega)
    simp only [lay, hr]
  | f + 1, f' + 1, ⟨.bin p x y, n, ind⟩ :: rest, out, met, col, h1, h2 => by
    simp only [trs, List.map_cons, szs, sz] at h1 h2
    have hr : ∀ o m c, lay width given f (⟨x, n, ind⟩ :: ⟨y, n + cntG x, ind⟩ :: rest) o m c = lay width given f' (⟨x, n, ind⟩ :: ⟨y, n + cntG x, ind⟩ :: rest) o m c :=
      fun o m c => lay_fuel width given f f' _ o m c (by simp only [trs, List.map_cons, szs]; omega) (by simp only [trs, List.map_cons, szs]; omega)
    have hr2 : ∀ o m c, lay width given f (⟨x, n, ind⟩ :: rest) o m c = lay width given f' (⟨x, n, ind⟩ :: rest) o m c :=
      fun o m c => lay_fuel width given f f' _ o m c (by simp only [trs, List.map_cons, szs]; omega) (by simp only [trs, List.map_cons, szs]; omega)
    simp only [lay, hr, hr2]
  | f + 1, f' + 1, ⟨.un p x, n, ind⟩ :: rest, out, met, col, h1, h2 => by
    simp only [trs, List.map_cons, szs, sz] at h1 h2
    have hr : ∀ o m c, lay width given f rest o m c = lay width given f' rest o m c := fun o m c => lay_fuel width given f f' rest o m c (by unfold trs; omega) (by unfold trs; omega)
    have hr2 : ∀ i o m c, lay width given f (⟨x, n, i⟩ :: rest) o m c = lay width given f' (⟨x, n, i⟩ :: rest) o m c :=
      fun i o m c => lay_fuel width given f f' _ o m c (by simp only [trs, List.map_cons, szs]; omega) (by simp only [trs, List.map_cons, szs]; omega)
    simp only [lay, hr, hr2]

end Go.Proofs.YtgmjpdejfdldlaaDoor

namespace Go.Proofs.YtgmjpdejfdldlaaDoor
open Go.RowKit

theorem infoIt : (Tryd.prog.info? 93).map (fun i => (i.zero, i.size, i.bytes)) = some (some (.agg #[.int .i64 0, .int .i64 0]), 2, 16) := by kernel_rfl

def cells2 : List (Nat × Int) → List Value
  | [] => []
  | x :: r => .int .i64 (x.1 : Int) :: .int .i64 x.2 :: cells2 r

theorem cells2_len : ∀ (its : List (Nat × Int)), (cells2 its).length = its.length * 2
  | [] => rfl
  | x :: r => by simp only [cells2, List.length_cons, cells2_len r]; omega

theorem cells2_snoc : ∀ (its : List (Nat × Int)) (x : Nat × Int), cells2 (its ++ [x]) = cells2 its ++ [.int .i64 (x.1 : Int), .int .i64 x.2]
  | [], x => rfl
  | y :: r, x => by simp only [List.cons_append, cells2, cells2_snoc r x]

theorem cells2_at : ∀ (its : List (Nat × Int)) (j : Nat) (x : Nat × Int), its[j]? = some x → (cells2 its)[j * 2]? = some (.int .i64 (x.1 : Int)) ∧ (cells2 its)[j * 2 + 1]? = some (.int .i64 x.2)
  | [], j, x, h => by simp at h
  | y :: r, 0, x, h => by
    simp only [List.getElem?_cons_zero, Option.some.injEq] at h
    subst h
    simp [cells2]
  | y :: r, j + 1, x, h => by
    rw [List.getElem?_cons_succ] at h
    have := cells2_at r j x h
    rw [show (j + 1) * 2 = j * 2 + 1 + 1 by omega, show j * 2 + 1 + 1 + 1 = (j * 2 + 1) + 1 + 1 by omega]
    simp only [cells2, List.getElem?_cons_succ]
    exact this

/-- A row of items of one's own. -/
def OwT (B : Nat) (w : World) (v : Value) (its : List (Nat × Int)) : Prop := w.ownsRow B 93 2 v its.length (cells2 its)

theorem OwT.later {B : Nat} {w w' : World} {v : Value} {its : List (Nat × Int)} (h : OwT B w v its) (hg : w.grownBy w' none) : OwT B w' v its :=
  World.ownsRow.kept h hg (by cases v.ownBlock <;> simp)

theorem OwT.rd {B : Nat} {w : World} {v : Value} {its : List (Nat × Int)} (h : OwT B w v its) : RdT w.heap.size w v its := by
  rcases h.2 with ⟨hv, hn⟩ | ⟨g, cap, cur, hv, hb, hg, hnc, hcm, hcs, ht⟩
  · refine ⟨none, 0, by rw [hv, hn], by omega, by unfold maxLen; omega, fun h0 => ?_⟩
    exact absurd (List.length_eq_zero_iff.1 hn) h0
  · have hlt := World.ownsRow.lt h g (by rw [hv]; rfl)
    refine ⟨_, cap, hv, hnc, hcm, fun _ => ⟨g, 0, rfl, hlt.2, fun j x hx => ?_⟩⟩
    have hj := (List.getElem?_eq_some_iff.1 hx).1
    obtain ⟨h1, h2⟩ := cells2_at its j x hx
    have h' : w.ownsRow B 93 2 (.slice (some ⟨g, 0, none⟩) its.length cap) its.length (cells2 its) := by rw [← hv]; exact h
    refine ⟨?_, ?_⟩
    · rw [Nat.zero_add, World.ownsRow.cellAt h' (j * 2) (by omega)]; exact h1
    · rw [Nat.zero_add, World.ownsRow.cellAt h' (j * 2 + 1) (by omega)]; exact h2

/-- The last item taken off. -/
theorem OwT.pop {B : Nat} {w : World} {g cap : Nat} {its : List (Nat × Int)} {x : Nat × Int} {n : Nat} (h : OwT B w (.slice (some ⟨g, 0, none⟩) n cap) (its ++ [x])) (hn : n = its.length + 1) :
    OwT B w (.slice (some ⟨g, 0, none⟩) its.length cap) its := by
  subst hn
  have h' : w.ownsRow B 93 2 (.slice (some ⟨g, 0, none⟩) (its.length + 1) cap) (its.length + 1) (cells2 (its ++ [x])) := by
    have := h
    unfold OwT at this
    rw [List.length_append, List.length_singleton] at this
    exact this
  have := row_cut h' (m := its.length) (by omega)
  unfold OwT
  rw [cells2_snoc, List.take_append_of_le_length (by rw [cells2_len]; omega), List.take_of_length_le (by rw [cells2_len]; omega)] at this
  exact this

/-- An item put on. -/
theorem own_item {B : Nat} {w w1 : World} {v v' : Value} {its : List (Nat × Int)} (x : Nat × Int) {o : Obj} (n : Nat) (hB : B ≤ w.heap.size)
    (hv : OwT B w v its) (hown' : w1.ownsRow B 93 2 v' n (cells2 its ++ [.int .i64 (x.1 : Int), .int .i64 x.2])) (hn : n = its.length + 1) (hgrow : (w.alloc o).grownBy w1 v.ownBlock) :
    OwT B w1 v' (its ++ [x]) ∧ Below B w w1 := by
  subst hn
  refine ⟨by unfold OwT; rw [cells2_snoc, List.length_append, List.length_singleton]; exact hown', ((Below.refl B w).alloc hB o).grown hgrow (by simp; omega) (fun k hk => (World.ownsRow.lt hv k hk).1)⟩

end Go.Proofs.YtgmjpdejfdldlaaDoor

namespace Go.Proofs.YtgmjpdejfdldlaaDoor
open Go.RowKit

/-- Where the items end, read off the memory: the measure of the layout's loop. -/
def tos (w : World) (v : Value) : List Nat :=
  match v with
  | .slice (some a) n _ => (List.range n).map fun j => match w.cell? ⟨a.block, a.off + j * 2, none⟩ with
    | some u => (intOf u).toNat
    | none => 0
  | _ => []

theorem tos_rd {B : Nat} {w : World} {v : Value} {its : List (Nat × Int)} (h : RdT B w v its) : tos w v = its.map (·.1) := by
  obtain ⟨a, cap, hv, h1, h2, hh⟩ := h
  subst hv
  by_cases h0 : its = []
  · subst h0
    cases a <;> simp [tos]
  · obtain ⟨b, off, ha, hb, hc⟩ := hh h0
    subst ha
    refine List.ext_getElem? fun j => ?_
    simp only [tos, List.getElem?_map]
    by_cases hj : j < its.length
    · rw [List.getElem?_range hj, List.getElem?_eq_getElem hj]
      have := (hc j its[j] (List.getElem?_eq_getElem hj)).1
      simp only [Option.map_some, this]
      simp [intOf]
    · rw [List.getElem?_eq_none (by simp; omega), List.getElem?_eq_none (by omega)]
      rfl

theorem OwT.tos {B : Nat} {w : World} {v : Value} {its : List (Nat × Int)} (h : OwT B w v its) : tos w v = its.map (·.1) := tos_rd h.rd

/-- How many elements the item that ends at b covers. -/
def wtS (st : List Int) (b : Nat) : Nat := b - (st[b - 1]?.getD 0).toNat
def wts (st : List Int) : List Nat → Nat
  | [] => 0
  | b :: r => wtS st b + wts st r

theorem wts_append (st : List Int) : ∀ (a b : List Nat), wts st (a ++ b) = wts st a + wts st b
  | [], b => by simp [wts]
  | x :: a, b => by simp only [List.cons_append, wts, wts_append st a b]; omega

theorem wt_seg {doc : List Pc} {st : List Int} {T : Tr} {a b : Nat} (h : Seg doc st T a b) : wtS st b = b - a := by
  unfold wtS; rw [h.last]; simp

end Go.Proofs.YtgmjpdejfdldlaaDoor

