import Derived.Test.YtbiiopiaglkicaaDoorNested
import Derived.Test.YtbiiopiaglkicaaDoorPieceOK
import Derived.Test.YtbiiopiaglkicaaDoorSzP
namespace Go.Proofs.YtbiiopiaglkicaaDoor
open Go.RowKit

/-- What the law knows of its argument. -/
structure Doc (doc : List Pc) : Prop where
  len : doc.length ≤ 1048576
  tlen : ∀ p ∈ doc, p.t.length ≤ 1048576
  sum : sumT doc ≤ 1048576
  bys : ∀ p ∈ doc, Bys p.t

theorem sumT_snoc : ∀ (doc : List Pc) (k : Nat) (hk : k < doc.length), sumT (doc.take (k + 1)) = sumT (doc.take k) + doc[k].t.length
  | p :: ps, 0, _ => by simp [sumT]
  | p :: ps, k + 1, hk => by
    have := sumT_snoc ps k (by simpa using hk)
    simp only [List.take_succ_cons, sumT, this, List.getElem_cons_succ]
    omega
theorem sumT_take : ∀ (doc : List Pc) (k : Nat), 0 ≤ sumT (doc.take k) ∧ sumT (doc.take k) ≤ sumT doc
  | [], k => by simp [sumT]
  | p :: ps, 0 => by
    have := (sumT_take ps 0)
    have h0 : ∀ qs : List Pc, 0 ≤ sumT qs := by
      intro qs
      induction qs with
      | nil => simp [sumT]
      | cons q qs ih => simp only [sumT]; omega
    have := h0 ps
    simp only [List.take_zero, sumT]
    omega
  | p :: ps, k + 1 => by
    have := (sumT_take ps k)
    simp only [List.take_succ_cons, sumT]
    omega
theorem allOK_snoc (doc : List Pc) (k : Nat) (hk : k < doc.length) (h : (doc.take k).all pcOK = true) (hp : pcOK doc[k] = true) : (doc.take (k + 1)).all pcOK = true := by
  rw [List.take_add_one, List.all_append, h]; simp [hk, hp]
theorem allOK_not (doc : List Pc) (k : Nat) (hk : k < doc.length) (hp : pcOK doc[k] = false) : doc.all pcOK = false := by
  rw [List.all_eq_false]; exact ⟨doc[k], List.getElem_mem hk, by simp [hp]⟩

set_option maxHeartbeats 2000000 in
set_option maxRecDepth 100000 in
theorem specValid_any (v : Value) (doc : List Pc) (w : World) (hv : RdP w.heap.size w v doc) (hd : Doc doc) :
    Calls Tryd.prog 32 #[v] w fun e w' => e = .returned (.bool (specV doc)) ∧ w.grownBy w' none := by
  obtain ⟨a, cap, hv0, hcap, hmax, _⟩ := id hv
  have hl := hd.len
  by_cases h1 : doc.length < 1
  · have HF : Hid (specV doc = false) := by
      unfold Hid specV
      rw [show decide (1 ≤ doc.length ∧ doc.length ≤ 40000) = false by simp; omega]; rfl
    subst hv0
    clear hv
    go_enter Tryd.func32, Tryd.ntmps32
    go_wp2
    go_ret
    exact ⟨by rw [HF.out]; rfl, World.grownBy.refl _ _⟩
  by_cases h4 : doc.length > 40000
  · have HF : Hid (specV doc = false) := by
      unfold Hid specV
      rw [show decide (1 ≤ doc.length ∧ doc.length ≤ 40000) = false by simp; omega]; rfl
    subst hv0
    clear hv
    go_enter Tryd.func32, Tryd.ntmps32
    go_wp2
    go_ret
    exact ⟨by rw [HF.out]; rfl, World.grownBy.refl _ _⟩
  have h0 : doc ≠ [] := fun e => by rw [e] at h1; simp at h1
  have HN : Hid (doc ≠ []) := h0
  have HLen : Hid (decide (1 ≤ doc.length ∧ doc.length ≤ 40000) = true) := by unfold Hid; simp; omega
  clear h0
  subst hv0
  go_enter Tryd.func32, Tryd.ntmps32
  go_wp2
  go_loopw [3, 4] (fun bv i wr => ∃ (k : Nat) (s : Int), k ≤ doc.length ∧ i = .int .i64 k ∧ bv = .int .i64 s ∧ Hid (s = sumT (doc.take k)) ∧ Hid ((doc.take k).all pcOK = true) ∧ w.grownBy wr none)
    (fun _ i _ => doc.length - (intOf i).toNat)
  case atStart => exact ⟨0, 0, Nat.zero_le _, rfl, rfl, rfl, rfl, World.grownBy.refl _ _⟩
  case round =>
    obtain ⟨k, s, hk, rfl, rfl, HS, HA, hgr⟩ := hrel
    have hs0 : 0 ≤ s := by rw [HS.out]; exact (sumT_take doc k).1
    have hs1 : s ≤ 1048576 := by rw [HS.out]; have := (sumT_take doc k).2; have := hd.sum; omega
    by_cases hlt : k < doc.length
    · obtain ⟨b, off, cap', tv, hva, hb, hp⟩ := (hv.keep hgr).at k hlt
      cases hva
      have hk0 := hp.k; have ht0 := hp.t; have hn0 := hp.n
      have hmem := List.getElem_mem hlt
      have hpt := hd.tlen _ hmem
      have hsn := sumT_snoc doc k hlt
      rw [← HS.out] at hsn
      have hsn1 : s + doc[k].t.length ≤ 1048576 := by rw [← hsn]; have := (sumT_take doc (k + 1)).2; have := hd.sum; omega
      have HS2 : Hid (s + doc[k].t.length = sumT (doc.take (k + 1))) := hsn.symm
      have hok := l2pieceOK_any doc[k] tv wr (hp.rd.wide hgr.size) (hd.bys _ hmem) hpt
      obtain ⟨ta, tcap, htv, _, _⟩ := hp.sl
      subst htv
      have HA1 : pcOK doc[k] = true → Hid ((doc.take (k + 1)).all pcOK = true) := allOK_snoc doc k hlt HA.out
      have HA2 : pcOK doc[k] = false → Hid (specV doc = false) := fun h => by unfold Hid specV; rw [allOK_not doc k hlt h]; simp
      clear hsn hp hmem HS HA hv
      generalize doc[k] = p at *
      cases hpk : pcOK p with
      | true =>
        have HA3 := HA1 hpk
        rw [hpk] at hok
        clear HA1 HA2 hpk
        go_wp2_with fail
        refine hok.mono ?_
        rintro e w1 ⟨rfl, g1⟩
        go_wp2
        go_roundw
        case rel => exact ⟨k + 1, s + p.t.length, by omega, by go_num, by go_num, HS2, HA3, grown_trans hgr g1⟩
        case measure => simp [intOf]; omega
      | false =>
        have HA3 := HA2 hpk
        rw [hpk] at hok
        clear HA1 HA2 hpk
        go_wp2_with fail
        refine hok.mono ?_
        rintro e w1 ⟨rfl, g1⟩
        go_wp2
        go_ret
        exact ⟨by rw [HA3.out]; rfl, grown_trans hgr g1⟩
    · have hkn : k = doc.length := by omega
      have HS1 : Hid (s = sumT doc) := by unfold Hid; rw [HS.out, hkn, List.take_length]
      have HA1 : Hid (doc.all pcOK = true) := by unfold Hid; have := HA.out; rw [hkn, List.take_length] at this; exact this
      have hst := l2starts_any _ doc wr ((hv.keep hgr).wide hgr.size) hl
      have hso := starts_ok doc HN.out
      have HV : Hid (RdP wr.heap.size wr (.slice a doc.length cap) doc) := (hv.keep hgr).wide hgr.size
      clear HS HA hv
      by_cases hbig : s > 100000
      · have HF : Hid (specV doc = false) := by
          unfold Hid specV
          rw [show decide (sumT doc ≤ 100000) = false by rw [← HS1.out]; simp; omega]; simp
        clear hso
        go_wp2_with fail
        refine hst.mono ?_
        rintro e w1 ⟨sv, rfl, o1, g1⟩
        obtain ⟨sa, scap, hsv, _, _⟩ := row_form o1
        subst hsv
        go_wp2
        go_ret
        exact ⟨by rw [HF.out]; rfl, grown_trans hgr g1⟩
      · rcases hso with ⟨hsl, T, hbd, hseg⟩ | ⟨hsl, hno⟩
        · have hokN := bd_okN doc [] [T] HA1.out (fun x hx => by cases hx) hbd T (by simp)
          have HF : Hid (specV doc = decide (nestS T ≤ 4000)) := by
            unfold Hid specV
            rw [HLen.out, HA1.out, hsl, hbd, show decide (sumT doc ≤ 100000) = true by rw [← HS1.out]; simp; omega]; simp
          have HSeg : Hid (Seg doc (startsOf doc) T 0 doc.length) := hseg
          have hbdT := nestS_bd T hokN
          have hne : (((startsOf doc).length : Int) != (doc.length : Int)) = false := by rw [hsl]; simp
          have HN2 : Hid (okN T) := hokN
          have hsl2 : (startsOf doc).length ≤ 1048576 := by omega
          clear hseg hbd hokN hsl
          go_wp2_with fail
          refine hst.mono ?_
          rintro e w1 ⟨sv, rfl, o1, g1⟩
          have hnest := l2nested_any (.slice a doc.length cap) sv w1.heap.size doc (startsOf doc) hl T 0 doc.length HSeg.out HN2.out w1 ((HV.out.keep g1).wide g1.size) o1.rd
          obtain ⟨sa, scap, hsv, _, _⟩ := row_form o1
          subst hsv
          generalize nestS T = nt at *
          clear o1 HV
          go_wp2_with fail
          refine hnest.mono ?_
          rintro e w2 ⟨rfl, g2⟩
          go_wp2
          go_ret
          exact ⟨by rw [HF.out]; rfl, grown_trans hgr (grown_trans g1 g2)⟩
        · have HF : Hid (specV doc = false) := by
            unfold Hid specV
            rw [show decide ((startsOf doc).length = doc.length) = false by simp [hsl]]; simp
          have hne : (((startsOf doc).length : Int) != (doc.length : Int)) = true := by simp; omega
          have hstl : (startsOf doc).length ≤ 1048576 := by
            unfold startsOf
            split
            · have := (stGo_len doc 0 [] []).2; simp at this; omega
            · simp
          clear hno hsl
          go_wp2_with fail
          refine hst.mono ?_
          rintro e w1 ⟨sv, rfl, o1, g1⟩
          obtain ⟨sa, scap, hsv, _, _⟩ := row_form o1
          subst hsv
          go_wp2
          go_ret
          exact ⟨by rw [HF.out]; rfl, grown_trans hgr g1⟩

end Go.Proofs.YtbiiopiaglkicaaDoor
