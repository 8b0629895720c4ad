import Derived.Test.YtbiiopiaglkicaaDoorPcKit
namespace Go.Proofs.YtbiiopiaglkicaaDoor
open Go.RowKit

/-- What is left of 'left' behind n; below nought: -1. -/
def szB (n : Nat) (left : Int) : Int := if left - n < 0 then -1 else left - n

set_option maxHeartbeats 400000 in
theorem szByteS_any (a : Option Addr) (n cap : Nat) (left : Int) (w : World) (hn : n ≤ 9223372036854775807) (h0 : 0 ≤ left) (h1 : left ≤ 1048576) :
    Calls Tryd.prog 61 #[.slice a n cap, .int .i64 left] w fun e w' => e = .returned (.int .i64 (szB n left)) ∧ w = w' := by
  by_cases h : left - n < 0
  · have HF : Hid (szB n left = -1) := by unfold Hid szB; rw [if_pos h]
    go_enter Tryd.func61, Tryd.ntmps61
    go_wp2
    go_ret
    exact ⟨by rw [HF.out]; rfl, rfl⟩
  · have HF : Hid (szB n left = left - n) := by unfold Hid szB; rw [if_neg h]
    go_enter Tryd.func61, Tryd.ntmps61
    go_wp2
    go_ret
    exact ⟨by rw [HF.out]; rfl, rfl⟩

theorem szB_bd (n : Nat) (left : Int) (h1 : left ≤ 1048576) : -1 ≤ szB n left ∧ szB n left ≤ 1048576 := by
  unfold szB; split <;> omega

set_option maxHeartbeats 400000 in
theorem szPiece_any (k n : Value) (a : Option Addr) (ln cap : Nat) (left : Int) (w : World) (hn : ln ≤ 9223372036854775807) (h0 : 0 ≤ left) (h1 : left ≤ 1048576) :
    Calls Tryd.prog 37 #[.agg #[k, .slice a ln cap, n], .int .i64 left] w fun e w' => e = .returned (.int .i64 (szB ln left)) ∧ w.grownBy w' none := by
  have hb := szB_bd ln left h1
  have hs := szByteS_any a ln cap left (w.alloc (Obj.cells #[k, Value.slice a ln cap, n] 59)) hn h0 h1
  generalize szB ln left = r at hb hs
  by_cases hr : r < 0
  · have hr1 : r = -1 := by omega
    subst hr1
    go_enter Tryd.func37, Tryd.ntmps37
    go_wp2_with fail
    refine hs.mono ?_
    rintro e w1 ⟨rfl, rfl⟩
    go_wp2
    go_ret
    exact ⟨rfl, World.grownBy_alloc _ _ _⟩
  · go_enter Tryd.func37, Tryd.ntmps37
    go_wp2_with fail
    refine hs.mono ?_
    rintro e w1 ⟨rfl, rfl⟩
    go_wp2
    go_ret
    exact ⟨rfl, World.grownBy_alloc _ _ _⟩

def szF : List Pc → Int → Int
  | [], l => l
  | p :: ps, l => if szB p.t.length l < 0 then -1 else szF ps (szB p.t.length l)
def szDoc (doc : List Pc) (left : Int) : Int := if left - doc.length < 0 then -1 else szF doc (left - doc.length)

theorem szF_go (doc : List Pc) (k : Nat) (hk : k < doc.length) (l : Int) (h : ¬ szB doc[k].t.length l < 0) : szF (doc.drop k) l = szF (doc.drop (k + 1)) (szB doc[k].t.length l) := by
  rw [List.drop_eq_getElem_cons hk]; simp only [szF]; rw [if_neg h]
theorem szF_bad (doc : List Pc) (k : Nat) (hk : k < doc.length) (l : Int) (h : szB doc[k].t.length l < 0) : szF (doc.drop k) l = -1 := by
  rw [List.drop_eq_getElem_cons hk]; simp only [szF]; rw [if_pos h]

set_option maxHeartbeats 1000000 in
set_option maxRecDepth 100000 in
theorem szPieceS_any (v : Value) (doc : List Pc) (left : Int) (w : World) (hv : RdP w.heap.size w v doc) (h0 : 0 ≤ left) (h1 : left ≤ 1048576) :
    Calls Tryd.prog 9 #[v, .int .i64 left] w fun e w' => e = .returned (.int .i64 (szDoc doc left)) ∧ w.grownBy w' none := by
  obtain ⟨a, cap, hv0, hcap, hmax, _⟩ := id hv
  unfold maxLen at hmax
  by_cases h : left - doc.length < 0
  · have HF : Hid (szDoc doc left = -1) := by unfold Hid szDoc; rw [if_pos h]
    subst hv0
    clear hv
    go_enter Tryd.func9, Tryd.ntmps9
    go_wp2
    go_ret
    exact ⟨by rw [HF.out]; rfl, World.grownBy.refl _ _⟩
  · have HF : Hid (szDoc doc left = szF doc (left - doc.length)) := by unfold Hid szDoc; rw [if_neg h]
    subst hv0
    go_enter Tryd.func9, Tryd.ntmps9
    go_wp2
    go_loopw [1, 5] (fun lf i wr => ∃ (k : Nat) (l : Int), k ≤ doc.length ∧ i = .int .i64 k ∧ lf = .int .i64 l ∧ 0 ≤ l ∧ l ≤ 1048576 ∧ Hid (szF (doc.drop k) l = szDoc doc left) ∧ w.grownBy wr none)
      (fun _ i _ => doc.length - (intOf i).toNat)
    case atStart => exact ⟨0, left - doc.length, Nat.zero_le _, rfl, by go_num, by omega, by omega, by unfold Hid; rw [HF.out]; rfl, World.grownBy.refl _ _⟩
    case round =>
      obtain ⟨k, l, hk, rfl, rfl, hl0, hl1, HT, hgr⟩ := hrel
      by_cases hlt : k < doc.length
      · obtain ⟨b, off, cap', tv, hva, hb, hp⟩ := (hv.keep hgr).at k hlt
        cases hva
        have hk0 := hp.k; have ht0 := hp.t; have hn0 := hp.n
        obtain ⟨ta, tcap, htv, htl, htm⟩ := hp.sl
        unfold maxLen at htm
        subst htv
        have hbd := szB_bd doc[k].t.length l hl1
        have hsz := szPiece_any (.int .i64 doc[k].k) (.int .i64 doc[k].n) ta doc[k].t.length tcap l wr (by omega) hl0 hl1
        have hT1 := szF_go doc k hlt l
        have hT2 := szF_bad doc k hlt l
        generalize szB doc[k].t.length l = r at hbd hsz hT1 hT2
        by_cases hr : r < 0
        · have hr1 : r = -1 := by omega
          have HR : Hid (szDoc doc left = -1) := by unfold Hid; rw [← HT.out]; exact hT2 hr
          subst hr1
          clear hv hp hT1 hT2 HF HT
          go_wp2_with fail
          refine hsz.mono ?_
          rintro e w1 ⟨rfl, g1⟩
          go_wp2
          go_ret
          exact ⟨by rw [HR.out]; rfl, grown_trans hgr g1⟩
        · have HR : Hid (szF (doc.drop (k + 1)) r = szDoc doc left) := by unfold Hid; rw [← HT.out]; exact (hT1 hr).symm
          clear hv hp hT1 hT2 HF HT
          go_wp2_with fail
          refine hsz.mono ?_
          rintro e w1 ⟨rfl, g1⟩
          go_wp2
          go_roundw
          case rel => exact ⟨k + 1, r, by omega, by go_num, rfl, by omega, by omega, HR, grown_trans hgr g1⟩
          case measure => simp [intOf]; omega
      · have hkn : k = doc.length := by omega
        have HR : Hid (szDoc doc left = l) := by unfold Hid; rw [← HT.out, hkn]; simp [szF]
        clear hv HF HT
        go_wp2
        go_ret
        exact ⟨by rw [HR.out]; rfl, hgr⟩

theorem szF_le : ∀ (doc : List Pc) (l : Int), 0 ≤ l → (∀ l', szF doc l = l' → l' < 0 → l' = -1) ∧ (0 ≤ szF doc l → sumT doc ≤ l)
  | [], l, h => by refine ⟨fun l' h1 h2 => ?_, fun h => ?_⟩ <;> simp only [szF, sumT] at * <;> omega
  | p :: ps, l, h => by
    simp only [szF, sumT]
    by_cases hb : szB p.t.length l < 0
    · rw [if_pos hb]; exact ⟨fun l' h1 _ => h1.symm, fun h => by omega⟩
    · rw [if_neg hb]
      have := szF_le ps (szB p.t.length l) (by omega)
      refine ⟨this.1, fun h2 => ?_⟩
      have h3 := this.2 h2
      unfold szB at h3 hb
      split at h3 <;> omega

theorem szDoc_le (doc : List Pc) (h : 0 ≤ szDoc doc 1048576) : (doc.length : Int) + sumT doc ≤ 1048576 := by
  unfold szDoc at h
  split at h
  · omega
  · have := (szF_le doc (1048576 - doc.length) (by omega)).2 h
    omega

theorem sum_mem : ∀ (doc : List Pc) (p : Pc), p ∈ doc → (p.t.length : Int) ≤ sumT doc ∧ 0 ≤ sumT doc
  | [], _, h => by cases h
  | q :: ps, p, h => by
    have h0 : ∀ qs : List Pc, 0 ≤ sumT qs := by
      intro qs
      induction qs with
      | nil => simp [sumT]
      | cons q qs ih => simp only [sumT]; omega
    have := h0 ps
    simp only [sumT]
    rcases List.mem_cons.1 h with rfl | h
    · omega
    · have := sum_mem ps p h; omega

end Go.Proofs.YtbiiopiaglkicaaDoor
