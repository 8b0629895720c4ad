import Derived.Test.YtkkcnpokobndcaaDoorFsMix
import Derived.Test.YtkkcnpokobndcaaDoorOrdG
namespace Go.Proofs.YtkkcnpokobndcaaDoor
open Go.RowKit

set_option maxHeartbeats 8000000 in
set_option maxRecDepth 100000 in
theorem copyFiles_any (v : Value) (fs : List Fl) (w : World) (hv : RdF w.heap.size w v fs) (hd : Fss fs) :
    Calls Tryd.prog 34 #[.agg #[v]] w fun e w' => ∃ (wr : World) (v' : Value), e = .returned (.pointer (some ⟨wr.heap.size, 0, none⟩)) ∧ OwF (w.heap.size + 1) wr v' fs ∧ w.grownBy wr none ∧ w' = wr.alloc (.cells #[v'] 80) := by
  obtain ⟨a, cap, hv0, _⟩ := id hv
  have HCl := hide (fun w' (g : w.grownBy w' none) => filesClone_any v fs w' (hv.now g) hd.len)
  have HT := hide hd.tlen
  have hlen := hd.len
  subst hv0
  clear hv hd
  go_enter Tryd.func34, Tryd.ntmps34
  go_wp2_with fail
  refine (HCl.out _ (World.grownBy_alloc _ _ _)).mono ?_
  rintro e w1 ⟨rv, rfl, o1, g1⟩
  rw [World.size_alloc] at o1
  have hs1 : w.heap.size + 1 ≤ w1.heap.size := by have := g1.size; rw [World.size_alloc] at this; exact this
  have HG1 : Hid (w.grownBy w1 none) := grown_trans (World.grownBy_alloc _ _ _) g1
  obtain ⟨ra, rcap, hrv, _⟩ := o1.rd hs1
  subst hrv
  have HM := hide o1.mix
  clear o1 g1
  go_wp2
  go_loopw [10] (fun i wr => ∃ (k : Nat), k ≤ fs.length ∧ i = .int .i64 k ∧ Hid (w.grownBy wr none) ∧ w.heap.size + 1 ≤ wr.heap.size ∧ Hid (Mix (w.heap.size + 1) wr (.slice ra fs.length rcap) fs k)) (fun i _ => fs.length - (intOf i).toNat)
  case atStart => exact ⟨0, Nat.zero_le _, rfl, HG1, hs1, HM⟩
  case round =>
    obtain ⟨k, hk, rfl, HGr, hsz, HMr⟩ := hrel
    by_cases hlt : k < fs.length
    · obtain ⟨g, rfl⟩ : ∃ g, ra = some ⟨g, 0, none⟩ := by
        obtain ⟨xs, hl, ho, _⟩ := HMr.out
        rcases ho.2 with ⟨h', h2⟩ | ⟨g, cap', cur, h', _⟩
        · omega
        · simp only [Value.slice.injEq] at h'; exact ⟨g, h'.1⟩
      have hgl := HMr.out.low g rfl
      obtain ⟨nv, dv, c0, f0, r0, s0, c1, f1, r1, s1, hst⟩ := HMr.out.step hlt hsz
      have HST := hide hst
      have hpt := HT.out fs[k] (List.getElem_mem hlt)
      have HC1 := hide (bytesClone_any nv fs[k].n wr (r0.wideF hsz) (by omega))
      have HC2 := hide (fun (w2 : World) (r : RdB w2.heap.size w2 dv fs[k].d) => bytesClone_any dv fs[k].d w2 r (by omega))
      have R1 := hide r1
      obtain ⟨na, ncap, hnv, _, _⟩ := s0
      obtain ⟨da, dcap, hdv, _, _⟩ := s1
      subst hnv hdv
      have hpl : (k : Int) < fs.length := by omega
      clear hst r0 r1
      generalize fs[k] = p at *
      go_wp2_with fail
      refine HC1.out.mono ?_
      rintro e w2 ⟨n1, rfl, o2, g2⟩
      obtain ⟨nb, ncap2, hn1, _, _⟩ := o2.sl
      subst hn1
      have c0b := (grown_bothF g2 c0 f0)
      have c1b := (grown_bothF g2 c1 f1)
      obtain ⟨c0c, f0c⟩ := c0b
      obtain ⟨c1c, f1c⟩ := c1b
      have hs2 := g2.size
      have G2 := hide g2
      have O2 := hide o2
      clear g2 o2
      go_wp2_with fail
      have g3a : w2.grownBy (w2.setCell ⟨g, k * 3, none⟩ (.slice nb p.n.length ncap2)) (some g) := grown_setF _ _ _
      refine (HC2.out _ (((R1.out.keep G2.out).beside g3a (fun i e => by cases e; exact hgl.1)).wideF (by simp; omega))).mono ?_
      rintro e w3 ⟨d1, rfl, o3, g3⟩
      obtain ⟨db, dcap2, hd1, _, _⟩ := o3.sl
      subst hd1
      have c1d : (w2.setCell ⟨g, k * 3, none⟩ (.slice nb p.n.length ncap2)).cell? ⟨g, k * 3 + 1, none⟩ = some (.slice da p.d.length dcap) := by simp [go_sem, c1c]
      have f1d : (w2.setCell ⟨g, k * 3, none⟩ (.slice nb p.n.length ncap2)).frozen? ⟨g, k * 3 + 1, none⟩ = false := by simp [go_sem, f1c]
      obtain ⟨c1e, f1e⟩ := grown_bothF g3 c1d f1d
      have HM2 : Hid (Mix (w.heap.size + 1) (w3.setCell ⟨g, k * 3 + 1, none⟩ (.slice db p.d.length dcap2)) (.slice (some ⟨g, 0, none⟩) fs.length rcap) fs (k + 1)) := HST.out _ _ _ _ G2.out O2.out g3 o3
      have HG4 : Hid (w.grownBy (w3.setCell ⟨g, k * 3 + 1, none⟩ (.slice db p.d.length dcap2)) none) := by
        have e1 := grown_new (grown_trans HGr.out G2.out) g3a (fun j e => by cases e; omega)
        exact grown_new (grown_trans e1 g3) (grown_setF _ _ _) (fun j e => by cases e; show _ ≤ g; omega)
      have hs4 : w.heap.size + 1 ≤ (w3.setCell ⟨g, k * 3 + 1, none⟩ (.slice db p.d.length dcap2)).heap.size := by
        have := g3.size
        simp only [World.size_setCell] at this ⊢
        omega
      clear g3 o3 g3a
      go_wp2
      go_roundw
      case rel => exact ⟨k + 1, by omega, by go_num, HG4, hs4, HM2⟩
      case measure => simp [intOf]; omega
    · have hkn : k = fs.length := by omega
      subst hkn
      go_wp2
      go_ret
      exact ⟨wr, _, rfl, HMr.out.all, HGr.out, rfl⟩

end Go.Proofs.YtkkcnpokobndcaaDoor
