import Derived.Test.YtkkcnpokobndcaaDoorFsFnd
import Derived.Test.YtkkcnpokobndcaaDoorFsCpf
import Derived.Test.YtkkcnpokobndcaaDoorFsLRead
namespace Go.Proofs.YtkkcnpokobndcaaDoor
open Go.RowKit

/-- What read answers. -/
inductive Reads (fs : List Fl) (n : List Int) (a0 a1 : Addr) (B : Nat) (w : World) : Value → Prop
  | bad : nameOK n = false → Reads fs n a0 a1 B w (.tuple #[.slice none 0 0, Er a0])
  | none : nameOK n = true → findF fs n = none → Reads fs n a0 a1 B w (.tuple #[.slice none 0 0, Er a1])
  | yes (f : Fl) (v : Value) : nameOK n = true → findF fs n = some f → OwB B w v f.d → Sl v f.d.length → Reads fs n a0 a1 B w (.tuple #[v, .nilIface])

set_option maxHeartbeats 4000000 in
set_option maxRecDepth 100000 in
theorem read_any (h : Nat) (v nv : Value) (fs : List Fl) (n : List Int) (a0 a1 a2 : Addr) (w : World) (hc : w.cell? ⟨h, 0, none⟩ = some v) (hv : RdF w.heap.size w v fs) (hd : Fss fs) (hval : validF fs = true) (hn : RdB w.heap.size w nv n) (hs : Sl nv n.length) (hb : Byt n) (he : Errs w a0 a1 a2) :
    Calls Tryd.prog 35 #[.pointer (some ⟨h, 0, none⟩), nv] w fun e w' => ∃ u, e = .returned u ∧ Reads fs n a0 a1 w.heap.size w' u ∧ w.grownBy w' none := by
  have HF := hide (find_any h v nv fs n a0 a1 a2 w hc hv hd hval hn hs hb he)
  obtain ⟨a, cap, hv0, _⟩ := id hv
  obtain ⟨na, ncap, hnv0, _, _⟩ := id hs
  have HV := hide hv
  have HD := hide hd
  have hn1 : ∀ (t : TypeId) (u : Value) (w : World), (binOp .neq 54 (.iface t u) .nilIface).run Tryd.prog w = .ok (.bool true) w := fun _ _ _ => rfl
  have hn2 : ∀ (w : World), (binOp .neq 54 .nilIface .nilIface).run Tryd.prog w = .ok (.bool false) w := fun _ => rfl
  subst hnv0 hv0
  clear hv hn hs hval he hd hb
  go_enter Tryd.func35, Tryd.ntmps35
  go_wp2_with fail
  refine HF.out.mono ?_
  rintro e w1 ⟨u, rfl, fd, g⟩
  have HG := hide g
  have hc1 := g.cell hc (by simp)
  clear hc
  cases fd with
  | bad hk =>
    clear g
    go_wp2
    go_ret2
    exact ⟨_, rfl, .bad hk, HG.out⟩
  | none i hk _ hf =>
    clear g
    go_wp2
    go_ret2
    exact ⟨_, rfl, .none hk hf, HG.out⟩
  | yes i hi hk _ _ hf =>
    have HFf := hide hf
    have HK := hide hk
    obtain ⟨b, off, cap', x, hva, hb, hp⟩ := (HV.out.now g).at i hi
    cases hva
    obtain ⟨xn, xd⟩ := x
    have y0 := hp.n; have y1 := hp.d; have y2 := hp.s
    have hdl := (HD.out.tlen _ (List.getElem_mem hi)).2
    have HCl := hide (fun (w' : World) (g' : w1.grownBy w' none) => bytesClone_any xd fs[i].d w' ((hp.rd.keep g').wideF g'.size) (by omega))
    obtain ⟨da, dcap, hdv, _, _⟩ := hp.sd
    simp only at hdv
    subst hdv
    have hil : (i : Int) < fs.length := by omega
    clear hp g hf hk
    go_wp2_with fail
    refine (HCl.out _ (World.grownBy.refl _ _)).mono ?_
    rintro e w2 ⟨d1, rfl, o2, g2⟩
    have HR : Hid (Reads fs n a0 a1 w.heap.size w2 (.tuple #[d1, .nilIface])) := .yes fs[i] d1 HK.out HFf.out (row_base HG.out.size o2) o2.sl
    have HG2 : Hid (w.grownBy w2 none) := grown_trans HG.out g2
    clear o2 g2
    go_wp2
    go_ret2
    exact ⟨_, rfl, HR.out, HG2.out⟩

theorem readL_bad {fs : List Fl} {n : List Int} (h : okArg fs n = false) : readL fs n = [] ∧ readC fs n = 1 := by unfold readL readC; rw [h]; exact ⟨rfl, rfl⟩
theorem readL_none {fs : List Fl} {n : List Int} (h : okArg fs n = true) (hf : findF fs n = none) : readL fs n = [] ∧ readC fs n = 5 := by unfold readL readC; rw [h, hf]; exact ⟨rfl, rfl⟩
theorem readL_yes {fs : List Fl} {n : List Int} {f : Fl} (h : okArg fs n = true) (hf : findF fs n = some f) : readL fs n = f.d ∧ readC fs n = 0 := by unfold readL readC; rw [h, hf]; exact ⟨rfl, rfl⟩

set_option maxHeartbeats 4000000 in
set_option maxRecDepth 100000 in
theorem implRead_any (v nv : Value) (fs : List Fl) (n : List Int) (a0 a1 a2 : Addr) (w : World) (hv : RdF w.heap.size w v fs) (hd : Fss fs) (hn : RdB w.heap.size w nv n) (hs : Sl nv n.length) (hb : Byt n) (he : Errs w a0 a1 a2) :
    Calls Tryd.prog 12 #[.agg #[v], nv] w fun e w' => ∃ v', e = .returned (.tuple #[v', .int .i64 (readC fs n)]) ∧ OwB w.heap.size w' v' (readL fs n) ∧ w.grownBy w' none := by
  have HVa := hide (fun (w' : World) (g : w.grownBy w' none) => implValid_any v fs w' (hv.now g) hd)
  obtain ⟨a, cap, hv0, _⟩ := id hv
  obtain ⟨na, ncap, hnv0, _, _⟩ := id hs
  by_cases hval : validF fs = true
  · rw [hval] at HVa
    have HCp := hide (fun (w' : World) (g : w.grownBy w' none) => copyFiles_any v fs w' (hv.now g) hd)
    have HRd := hide (fun (h : Nat) (u : Value) (w' : World) (hc : w'.cell? ⟨h, 0, none⟩ = some u) (hu : RdF w'.heap.size w' u fs) (g : w.grownBy w' none) => read_any h u nv fs n a0 a1 a2 w' hc hu hd hval ((hn.keep g).wideF g.size) hs hb (he.keep g))
    have HE := hide he
    have HVl := hide hval
    subst hnv0 hv0
    clear hv hn hs hval he hd hb
    go_enter Tryd.func12, Tryd.ntmps12
    go_wp2_with fail
    have gS := World.grownBy_alloc w (Obj.cells #[Value.slice a fs.length cap] 31) none
    have hca : (w.alloc (Obj.cells #[Value.slice a fs.length cap] 31)).cell? ⟨w.heap.size, 0, none⟩ = some (.slice a fs.length cap) := by simp [go_sem]
    refine (HVa.out _ gS).mono ?_; rintro e w1 ⟨rfl, g1⟩
    have hca := g1.cell hca (by simp)
    have G1 : Hid (w.grownBy w1 none) := grown_trans gS g1
    clear gS
    clear g1
    go_wp2_with fail
    refine (HCp.out _ G1.out).mono ?_
    rintro e w2 ⟨wr, u, rfl, o2, g2, rfl⟩
    have gA := World.grownBy_alloc wr (Obj.cells #[u] 80) none
    have G2 : Hid (w.grownBy (wr.alloc (Obj.cells #[u] 80)) none) := grown_trans (grown_trans G1.out g2) gA
    have O2 := hide (o2.later gA)
    have hcu : (wr.alloc (Obj.cells #[u] 80)).cell? ⟨wr.heap.size, 0, none⟩ = some u := by simp [go_sem]
    clear o2 g2 gA
    go_wp2_with fail
    refine (HRd.out _ _ _ hcu O2.out.rd G2.out).mono ?_
    rintro e w3 ⟨t, rfl, rd, g3⟩
    have G3 : Hid (w.grownBy w3 none) := grown_trans G2.out g3
    have hsz := G2.out.size
    clear g3
    cases rd with
    | bad hk =>
      have HK : Hid (okArg fs n = false) := by unfold Hid okArg; rw [hk, Bool.and_false]
      have HCo := hide (codeOf_bad w3 a0 a1 a2 (HE.out.keep G3.out))
      go_wp2_with fail
      refine HCo.out.mono ?_; rintro e w4 ⟨rfl, rfl⟩
      go_wp2
      go_ret2
      exact ⟨_, by rw [(readL_bad HK.out).2]; rfl, by rw [(readL_bad HK.out).1]; exact OwB.nil _ _, G3.out⟩
    | none hk hf =>
      have HK : Hid (okArg fs n = true) := by unfold Hid okArg; rw [hk, HVl.out]; rfl
      have HF := hide hf
      have HCo := hide (codeOf_none w3 a0 a1 a2 (HE.out.keep G3.out))
      clear hf
      go_wp2_with fail
      refine HCo.out.mono ?_; rintro e w4 ⟨rfl, rfl⟩
      go_wp2
      go_ret2
      exact ⟨_, by rw [(readL_none HK.out HF.out).2]; rfl, by rw [(readL_none HK.out HF.out).1]; exact OwB.nil _ _, G3.out⟩
    | yes f d1 hk hf o3 s3 =>
      have HK : Hid (okArg fs n = true) := by unfold Hid okArg; rw [hk, HVl.out]; rfl
      have HF := hide hf
      have HO : Hid (OwB w.heap.size w3 d1 f.d) := row_base hsz o3
      have HCo := hide (codeOf_nil w3)
      clear hf o3 s3
      go_wp2_with fail
      refine HCo.out.mono ?_; rintro e w4 ⟨rfl, rfl⟩
      go_wp2
      go_ret2
      exact ⟨_, by rw [(readL_yes HK.out HF.out).2]; rfl, by rw [(readL_yes HK.out HF.out).1]; exact HO.out, G3.out⟩
  · have HK : Hid (okArg fs n = false) := by unfold Hid okArg; rw [show validF fs = false by simpa using hval]; rfl
    rw [show validF fs = false by simpa using hval] at HVa
    subst hnv0 hv0
    clear hv hn hs hval he hd hb
    go_enter Tryd.func12, Tryd.ntmps12
    go_wp2_with fail
    have gS := World.grownBy_alloc w (Obj.cells #[Value.slice a fs.length cap] 31) none
    refine (HVa.out _ gS).mono ?_; rintro e w1 ⟨rfl, g1⟩
    have g1 : w.grownBy w1 none := grown_trans gS g1
    clear gS
    go_wp2
    go_ret2
    exact ⟨_, by rw [(readL_bad HK.out).2]; rfl, by rw [(readL_bad HK.out).1]; exact OwB.nil _ _, g1⟩

theorem implFsRead (w : World) (a0 a1 a2 : Addr) (he : Errs w a0 a1 a2) : ImplFsRead w := fun fs z1 hd hb _ u u1 w' hbel hu h1 s1 => implRead_any u u1 fs z1 a0 a1 a2 w' hu hd h1 s1 hb (he.below hbel)

end Go.Proofs.YtkkcnpokobndcaaDoor
