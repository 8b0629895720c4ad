import Derived.Test.YtkkcnpokobndcaaDoorFsArg
namespace Go.Proofs.YtkkcnpokobndcaaDoor
open Go.RowKit
attribute [-go_sem] Builtin.append_

/-- What FsRead answers. -/
def readL (fs : List Fl) (n : List Int) : List Int := if okArg fs n then (match findF fs n with | some f => f.d | none => []) else []
def readC (fs : List Fl) (n : List Int) : Int := if okArg fs n then (match findF fs n with | some _ => 0 | none => 5) else 1


set_option maxHeartbeats 4000000 in
set_option maxRecDepth 100000 in
theorem specRead_any (v nv : Value) (fs : List Fl) (n : List Int) (w : World) (hv : RdF w.heap.size w v fs) (hnv : RdB w.heap.size w nv n) (hs : Sl nv n.length) (hd : Fss fs) (hb : Byt n) (hn : n.length ≤ 1048576) :
    Calls Tryd.prog 9 #[.agg #[v], nv] w fun e w' => ∃ v', e = .returned (.tuple #[v', .int .i64 (readC fs n)]) ∧ OwB w.heap.size w' v' (readL fs n) ∧ w.grownBy w' none := by
  obtain ⟨a, cap, hv0, _⟩ := id hv
  obtain ⟨na, ncap, hn0, _⟩ := id hnv
  have HV : Hid (∀ w', w.grownBy w' none → Calls Tryd.prog 28 #[.agg #[v]] w' fun e w'' => e = .returned (.bool (validF fs)) ∧ w'.grownBy w'' none) := fun w' g => specValid_any v fs w' (hv.now g) hd
  have HF : Hid (∀ w', w.grownBy w' none → Calls Tryd.prog 30 #[.agg #[v], nv] w' fun e w'' => FindSays w'.heap.size fs n e w'' ∧ w'.grownBy w'' none) := fun w' g => l7find_any v nv fs n w' (hv.now g) (hnv.keep g).now hd hb
  have HN : Hid (∀ w', Calls Tryd.prog 29 #[.slice na n.length ncap] w' fun e w'' => e = .returned (.bool (nameOK n)) ∧ w' = w'') := fun w' => nameOK_spec na n ncap w' (by omega)
  subst hv0 hn0
  clear hv hnv
  by_cases h1 : validF fs = true
  · rw [h1] at HV
    by_cases h2 : nameOK n = true
    · rw [h2] at HN
      have HO : Hid (okArg fs n = true) := by unfold Hid okArg; rw [h1, h2]; rfl
      clear h1 h2
      go_enter Tryd.func9, Tryd.ntmps9
      go_wp2_with fail
      refine (HV.out _ (World.grownBy_alloc _ _ _)).mono ?_
      rintro e w1 ⟨rfl, g1⟩
      have c1 : w1.cell? ⟨w.heap.size, 0, none⟩ = some (.slice a fs.length cap) := g1.cell (by simp [go_sem]) (by simp)
      have G1 : Hid (w.grownBy w1 none) := grown_trans (World.grownBy_alloc _ _ _) g1
      clear g1
      go_wp2_with fail
      refine (HN.out _).mono ?_
      rintro e w2 ⟨rfl, rfl⟩
      go_wp2_with fail
      refine (HF.out _ G1.out).mono ?_
      rintro e w2 ⟨hfs, g2⟩
      unfold FindSays at hfs
      cases hfind : findF fs n with
      | none =>
        rw [hfind] at hfs
        have HC : Hid (readC fs n = 5) := by unfold Hid readC; rw [HO.out, hfind]; rfl
        have HL : Hid (readL fs n = []) := by unfold Hid readL; rw [HO.out, hfind]; rfl
        subst hfs
        clear hfind
        have G2 : Hid (w.grownBy w2 none) := grown_trans G1.out g2
        clear g2
        go_wp2
        go_ret2
        exact ⟨.slice none 0 0, by rw [HC.out]; rfl, by rw [HL.out]; exact OwB.nil _ _, grown_trans G2.out (World.grownBy_alloc _ _ _)⟩
      | some f =>
        rw [hfind] at hfs
        obtain ⟨x, rfl, hx⟩ := hfs
        have HC : Hid (readC fs n = 0) := by unfold Hid readC; rw [HO.out, hfind]; rfl
        have HL : Hid (readL fs n = f.d) := by unfold Hid readL; rw [HO.out, hfind]; rfl
        have hft := hd.tlen f (find_mem hfind).1
        obtain ⟨x1, x2⟩ := x
        have HC1 : Hid (∀ w', w2.grownBy w' none → Calls Tryd.prog 31 #[x2] w' fun e w'' => ∃ v', e = .returned v' ∧ OwB w'.heap.size w'' v' f.d ∧ w'.grownBy w'' none) := fun w' g => l1copy_any x2 f.d w' ((hx.rd.keep g).now) (by omega)
        obtain ⟨a1, k1, e1, _, _⟩ := hx.sn
        obtain ⟨a2, k2, e2, _, _⟩ := hx.sd
        simp only at e1 e2
        subst e1 e2
        clear hfind hx
        have G2 : Hid (w.grownBy w2 none) := grown_trans G1.out g2
        clear g2
        go_wp2_with fail
        refine (HC1.out _ (World.grownBy_alloc _ _ _)).mono ?_
        rintro e w3 ⟨v3, rfl, o3, g3⟩
        have HO3 : Hid (OwB w.heap.size w3 v3 f.d) := row_base (by have := G2.out.size; simp; omega) o3
        have G3 : Hid (w.grownBy w3 none) := grown_trans (grown_trans G2.out (World.grownBy_alloc _ _ _)) g3
        obtain ⟨a3, k3, e3, _⟩ := o3.rd
        subst e3
        clear o3 g3
        go_wp2
        go_ret2
        exact ⟨.slice a3 f.d.length k3, by rw [HC.out]; rfl, by rw [HL.out]; exact HO3.out, G3.out⟩
    · rw [show nameOK n = false by simpa using h2] at HN
      have HC : Hid (readC fs n = 1) := by unfold Hid readC okArg; simp [h2]
      have HL : Hid (readL fs n = []) := by unfold Hid readL okArg; simp [h2]
      clear h1 h2
      go_enter Tryd.func9, Tryd.ntmps9
      go_wp2_with fail
      refine (HV.out _ (World.grownBy_alloc _ _ _)).mono ?_
      rintro e w1 ⟨rfl, g1⟩
      have G1 : Hid (w.grownBy w1 none) := grown_trans (World.grownBy_alloc _ _ _) g1
      clear g1
      go_wp2_with fail
      refine (HN.out _).mono ?_
      rintro e w2 ⟨rfl, rfl⟩
      go_wp2
      go_ret2
      exact ⟨.slice none 0 0, by rw [HC.out]; rfl, by rw [HL.out]; exact OwB.nil _ _, G1.out⟩
  · rw [show validF fs = false by simpa using h1] at HV
    have HC : Hid (readC fs n = 1) := by unfold Hid readC okArg; simp [h1]
    have HL : Hid (readL fs n = []) := by unfold Hid readL okArg; simp [h1]
    clear h1
    go_enter Tryd.func9, Tryd.ntmps9
    go_wp2_with fail
    refine (HV.out _ (World.grownBy_alloc _ _ _)).mono ?_
    rintro e w1 ⟨rfl, g1⟩
    have G1 : Hid (w.grownBy w1 none) := grown_trans (World.grownBy_alloc _ _ _) g1
    clear g1
    go_wp2
    go_ret2
    exact ⟨.slice none 0 0, by rw [HC.out]; rfl, by rw [HL.out]; exact OwB.nil _ _, G1.out⟩

end Go.Proofs.YtkkcnpokobndcaaDoor
