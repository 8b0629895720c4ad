import Derived.Deep.RegionWith
import Derived.Test.YtgmjpdejfdldlaaDoorMAO
import Derived.Test.YtgmjpdejfdldlaaDoorMBJ
import Derived.Test.YtgmjpdejfdldlaaDoorMBM
import Derived.Test.YtgmjpdejfdldlaaDoorMBP
namespace Go.Proofs.YtgmjpdejfdldlaaDoor
open Go.RowKit

theorem Rd.heapN {q : IntKind} {w : World} {v : Value} {zs : List Int} (h : Rd q w.heap.size w v zs) (m : Nat) : Rd q (w.drewN m).heap.size (w.drewN m) v zs := h.keep (grown_drewN (World.grownBy.refl _ _) m)

set_option maxHeartbeats 1000000 in
set_option maxRecDepth 100000 in
theorem renderFn_any (cb : Nat) (cv : Value) (cs : List Int) (j : Nat) (line : Int) (B : Nat) (w : World) (hc : w.cell? ⟨cb, 0, none⟩ = some cv) (hr : RdI B w cv cs) (hj : j < cs.length) :
    Calls Tryd.prog 25 #[.int .i64 (j : Int), .int .i64 line, .pointer (some ⟨cb, 0, none⟩)] w fun e w' => e = .returned (.bool (dR cs j line)) ∧ w = w' := by
  obtain ⟨a, cap, rfl, hr⟩ := hr
  obtain ⟨b, off, rfl, hb, hcl⟩ := hr (fun h => by simp [h] at hj)
  have hx := hcl j hj
  have HD : Hid (dR cs j line = (cs[j]?.getD 0 == 1)) := by rw [Hid]; unfold dR; rw [Bool.eq_iff_iff]; simp
  have hjl : (j : Int) < (cs.length : Int) := by omega
  clear hr hcl
  generalize cs[j]?.getD 0 = z at hx HD
  go_enter Tryd.func25, Tryd.ntmps25
  go_wp2
  go_ret
  exact ⟨by rw [HD.out]; rfl, rfl⟩
theorem enter_render (args : Array Value) (W : World) : (callFunc 25 args).run Tryd.prog W = .ok (.enter 25 args) W := by kernel_rfl

theorem ren_eq {doc : List Pc} {cs : List Int} {T : Tr} (h1 : specV doc = true) (h3 : bd doc [] = some [T]) (hk : KOk T) (hg : grp doc doc.length = cntG T) (hl : cs.length = grp doc doc.length) :
    renderR doc cs = if (pmL (dR cs) [⟨T, 0, 0, false, 0, false⟩] [] 0 (List.replicate (cntG T) 0)).2 = cs then some (pmL (dR cs) [⟨T, 0, 0, false, 0, false⟩] [] 0 (List.replicate (cntG T) 0)).1 else none := by
  unfold renderR
  rw [if_pos ⟨h1, hl⟩, h3, hg]
  simp only
  have hM : Mt [⟨T, 0, 0⟩] [⟨T, 0, 0, false, 0, false⟩] := ⟨⟨rfl, rfl, rfl, rfl, rfl⟩, hk, trivial⟩
  cases hr : layL 0 (some cs) [⟨T, 0, 0⟩] [] (List.replicate (cntG T) 0) 0 with
  | some oq =>
    obtain ⟨o, q⟩ := oq
    rw [pm_render 0 cs (sz T) _ _ _ _ _ o q (by simp [trs, szs]) hM hr]
  | none =>
    obtain ⟨g, g1, g2⟩ := pm_refuse 0 cs (sz T) _ _ _ _ _ (by simp [trs, szs]) hM ⟨by simp, trivial⟩ (by simp) hr
    rw [if_neg]
    intro e
    rw [e] at g1
    rw [g1] at g2
    exact g2 rfl

set_option maxHeartbeats 4000000 in
set_option maxRecDepth 100000 in
theorem implRender_any (v cv : Value) (doc : List Pc) (cs : List Int) (w : World) (hv : RdP w.heap.size w v doc) (hd : Doc doc) (hcv : RdI w.heap.size w cv cs) (hcl : cs.length ≤ 1048576) (hT : Tab w) :
    Calls Tryd.prog 9 #[v, cv] w fun e w' => RenderEnds w (renderR doc cs) e w' := by
  have hnot : ∀ (x : Bool) (w : World), (Op.unary .not (.bool x)).run Tryd.prog w = .ok (.bool (!x)) w := fun _ _ => rfl
  have gA := World.grownBy_alloc w (.cells #[cv] 26) none
  have HN := hide (nodesOf_any v doc (w.alloc (.cells #[cv] 26)) ((hv.keep gA).wide gA.size) hd (hT.keep gA))
  obtain ⟨a, cap, hv0, _⟩ := id hv
  obtain ⟨ca, ccap, hc0, _⟩ := id hcv
  subst hv0
  have HV := hide hv
  have HC := hide hcv
  have HGA := hide gA
  have HD := hide hd
  subst hc0
  clear hv hT hd gA hcv
  go_enter Tryd.func9, Tryd.ntmps9
  go_wp2_with fail
  refine HN.out.mono ?_
  intro e w1 hS
  obtain ⟨hbel, hor⟩ := nodesOf_says hS
  rcases hor with ⟨h1, hlen, T, u, nv, l, h3, h5, rfl, hll, hrow, hrep, hpost, honce⟩ | ⟨h1, rfl⟩
  · have hcb : w1.cell? ⟨w.heap.size, 0, none⟩ = some (.slice ca cs.length ccap) := (hbel.cell (p := ⟨w.heap.size, 0, none⟩) (by simp)).trans (by simp [go_sem])
    have g1 := grown_trans HGA.out (grown_of_below hbel)
    have G1 := hide g1
    obtain ⟨na, ncap, hnv, hnc, hnm⟩ := row_form hrow
    have hlpos : ¬ l.length = 0 := by
      obtain ⟨l', e⟩ := hpost.last
      rw [e]; simp
    have hl0 : ((l.length : Int) == 0) = false := beq_false_of_ne (by omega)
    obtain ⟨f1, f2, f3, f4, f5⟩ := doc_facts HD.out h1 h3 h5
    have hcnt := post_cnt hrep hpost
    have HCG := hide (fun W (h : w1.grownBy W none) => countGroups_any (.slice a doc.length cap) doc W ((HV.out.keep (grown_trans g1 h)).wide (grown_trans g1 h).size) HD.out.len)
    have hlp2 : (0 : Int) < (l.length : Int) := by omega
    by_cases hlc : cs.length = grp doc doc.length
    · have HR := hide (ren_eq h1 h3 f4 f5 hlc)
      have HNp := hide (fun W cf cp (h : w1.grownBy W none) => newPrinter_any _ nv u T l W (row_keep hrow h (by simp)) (hrep.keep h) (hpost.keep hrep h) (honce.turn (fun b hb _ => h.block b hb (by simp)) (fun _ _ h => h)) f3 (by omega) cf cp)
      have HF := hide (And.intro f1 (And.intro f2 f3))
      have HCn := hide hcnt
      have Hl := hide hll
      have Hlen := hide hlen
      have HG5 := hide f5
      have Hlc := hide hlc
      have hne : ((cs.length : Int) != (grp doc doc.length : Int)) = false := by rw [hlc]; simp
      subst hnv
      clear hS hrow hrep hpost honce f1 f2 f3 f4 f5 hcnt h1 h3 h5 hbel HN hll hlen g1 hlc
      generalize grp doc doc.length = gd at *
      have hcbd : w1.drew.cell? ⟨w.heap.size, 0, none⟩ = some (.slice ca cs.length ccap) := hcb
      have HCd := hide (HCG.out w1.drew (grown_drew (World.grownBy.refl _ _)))
      go_wp2_with fail
      go_region_with (go_at_call 24; refine HCd.out.mono ?_; rintro e w1b ⟨rfl, g2⟩; have hcb2 := g2.cell hcbd (by simp))
      all_goals
        have g2b := grown_trans (grown_drew (World.grownBy.refl w1 none)) g2
        have HNq := hide (fun cf cp => HNp.out w1b cf cp g2b)
        clear HCd hcbd hcb
        go_wp2_with fail
        refine (HNq.out _ _).mono ?_
        rintro e w2 ⟨wm, fb, lb, nb, f0, f1, f2, wv, hv2, rfl, hC, hna, gwm, hP⟩
        have gall := grown_trans (grown_trans G1.out g2b) gwm
        have hcw : ∀ W, wm.grownBy W none → W.cell? ⟨w.heap.size, 0, none⟩ = some (.slice ca cs.length ccap) := fun W hW => hW.cell (gwm.cell hcb2 (by simp)) (by simp)
        have hB : w.heap.size + 1 ≤ wm.heap.size := by
          have := gwm.size
          have := World.block_lt_of_cell? w1b _ hcb2
          simp only at this
          omega
        have HPr := hide (print_any _ wm.heap.size wm w2 rfl (by simpa using hB) l fb lb nb f0 f1 f2 hC 25 (.pointer (some ⟨w.heap.size, 0, none⟩)) wv _ hv2 (cntV l) (by have := cntV_le l; have := Hl.out; have := Hlen.out; omega)
          (fun args W => enter_render args W) (dR cs) (fun j line W hj hW => renderFn_any w.heap.size _ cs j line _ W (hcw W hW) (HC.out.keep (grown_trans gall hW)) (by rw [Hlc.out, HG5.out, ← HCn.out]; exact hj)) [⟨u, T, 0, 0, false, 0, false⟩] [] 0 (List.replicate (cntV l) 0) hP (start_inv hna HF.out.1 HF.out.2.1 HF.out.2.2 HCn.out))
        have GW := hide gall
        have hcm := hide (hcw wm (World.grownBy.refl _ _))
        clear hcw hP hC hna HNp HNq gwm gall
        go_wp2_with fail
        refine HPr.out.mono ?_
        rintro e w3 ⟨rfl, wv3, tv3, col3, hP3⟩
        have hpm : pm (dR cs) (szS [⟨u, T, 0, 0, false, 0, false⟩] + 1) (List.map Tk.pt [⟨u, T, 0, 0, false, 0, false⟩]) [] 0 (List.replicate (cntV l) 0) = pmL (dR cs) [⟨T, 0, 0, false, 0, false⟩] [] 0 (List.replicate (cntG T) 0) := by
          unfold pmL
          rw [← szP_pt, HCn.out]
          rfl
        rw [hpm] at hP3
        obtain ⟨R, hR⟩ : ∃ R, R = pmL (dR cs) [⟨T, 0, 0, false, 0, false⟩] [] 0 (List.replicate (cntG T) 0) := ⟨_, rfl⟩
        rw [← hR] at hP3 HR
        have c5 := hP3.c5
        have c7 := hP3.c7
        have gw3 := grown_trans GW.out (grown_of_below hP3.bel)
        have hcb3 : w3.cell? ⟨w.heap.size, 0, none⟩ = some (.slice ca cs.length ccap) := (hP3.bel.cell (p := ⟨w.heap.size, 0, none⟩) (by simp only; omega)).trans hcm.out
        have hRl : R.2.length ≤ 600000000 := by
          rw [hR]
          unfold pmL
          rw [pm_len, List.length_replicate, ← HG5.out, ← Hlc.out]
          omega
        obtain ⟨ta, tcap, htf, _, _⟩ := row_form hP3.trow
        obtain ⟨ha, hcap2, hhf, _, _⟩ := row_form hP3.hrow
        have HE : Hid (∀ W, w3.grownBy W none → OwB w.heap.size W tv3 R.1 ∧ w.grownBy W none) :=
          fun W hW => ⟨Ow.later (row_base (by omega) hP3.trow) hW, grown_trans gw3 hW⟩
        have hEq := slEq_any hv2 (.slice ca cs.length ccap) R.2 cs w3.drew ((Ow.rd hP3.hrow).keep (grown_drew (World.grownBy.refl _ _))) ((HC.out.keep gw3).now.keep (grown_drew (World.grownBy.refl _ _))) hRl
        clear hpm hR hP3 HPr hRl
        subst htf hhf
        by_cases heq : R.2 = cs
        · have HR2 := hide (HR.out.trans (if_pos heq))
          rw [decide_eq_true heq] at hEq
          have HEq := hide hEq
          clear hEq heq HR
          go_wp2_with fail
          go_region_with (go_at_call 26; refine HEq.out.mono ?_; rintro e w4 ⟨rfl, m4, hw4⟩; have g4 : w3.grownBy w4 none := hw4 ▸ grown_drewN (grown_drew (World.grownBy.refl w3 none)) m4; have c5b := g4.cell c5 (by simp); clear hw4)
          all_goals
            go_wp2
            go_ret2
            rw [HR2.out]
            exact ⟨_, rfl, HE.out _ g4⟩
        · have HR2 := hide (HR.out.trans (if_neg heq))
          rw [decide_eq_false heq] at hEq
          have HEq := hide hEq
          clear hEq heq HR
          go_wp2_with fail
          go_region_with (go_at_call 26; refine HEq.out.mono ?_; rintro e w4 ⟨rfl, m4, hw4⟩; have g4 : w3.grownBy w4 none := hw4 ▸ grown_drewN (grown_drew (World.grownBy.refl w3 none)) m4; clear hw4)
          all_goals
            go_wp2
            go_ret2
            rw [HR2.out]
            exact ⟨rfl, (HE.out _ g4).2⟩
    · have HR : Hid (renderR doc cs = none) := by unfold Hid renderR; rw [if_neg (fun h => hlc h.2)]
      have hne : ((cs.length : Int) != (grp doc doc.length : Int)) = true := bne_iff_ne.2 (by omega)
      subst hnv
      clear hS hrow hrep hpost honce f1 f2 f3 f4 f5 hcnt h1 h3 h5 hbel HN hll hlen g1
      generalize grp doc doc.length = gd at *
      have hcbd : w1.drew.cell? ⟨w.heap.size, 0, none⟩ = some (.slice ca cs.length ccap) := hcb
      have HCd := hide (HCG.out w1.drew (grown_drew (World.grownBy.refl _ _)))
      go_wp2_with fail
      go_region_with (go_at_call 24; refine HCd.out.mono ?_; rintro e w2 ⟨rfl, g2⟩; have hcb2 := g2.cell hcbd (by simp))
      all_goals
        go_wp2
        go_ret2
        rw [HR.out]
        exact ⟨rfl, grown_trans G1.out (grown_trans (grown_drew (World.grownBy.refl _ _)) g2)⟩
  · have HR : Hid (renderR doc cs = none) := by unfold Hid renderR; rw [if_neg (fun h => by rw [h1] at h; cases h.1)]
    have G1 := hide (grown_trans HGA.out (grown_of_below hbel))
    have hcb : w1.cell? ⟨w.heap.size, 0, none⟩ = some (.slice ca cs.length ccap) := (hbel.cell (p := ⟨w.heap.size, 0, none⟩) (by simp)).trans (by simp [go_sem])
    clear hS hbel HN h1
    go_wp2_with fail
    go_quiet (fail)
    go_wp2
    go_ret2
    rw [HR.out]
    exact ⟨rfl, grown_drewN G1.out _⟩

end Go.Proofs.YtgmjpdejfdldlaaDoor

namespace Go.Proofs.YtgmjpdejfdldlaaDoor
open Go.RowKit Go.Shelf
attribute [local go_sem] Oper.semAt_some

theorem Rep.base {X : Nat → Prop} {B B' : Nat} {w : World} (hB : B ≤ B') : ∀ {T : Tr} {v : Value}, Rep X B w v T → Rep X B' w v T
  | .leaf p, v, h => by
    simp only [Rep] at h ⊢
    rcases h with h | h | h | h | h | ⟨h1, b, tv, h2, h3, h4, h5, h7, h8⟩
    · exact .inl h
    · exact .inr (.inl h)
    · exact .inr (.inr (.inl h))
    · exact .inr (.inr (.inr (.inl h)))
    · exact .inr (.inr (.inr (.inr (.inl h))))
    · exact .inr (.inr (.inr (.inr (.inr ⟨h1, b, tv, h2, h3, h4, h5, Rd.wide h7 hB, h8⟩))))
  | .un p x, v, h => by
    simp only [Rep] at h ⊢
    obtain ⟨b, u, h3, h4, h5, h6, h7⟩ := h
    exact ⟨b, u, h3, h4, h5, h6.base hB, h7⟩
  | .bin p x y, v, h => by
    simp only [Rep] at h ⊢
    obtain ⟨b, u, u', h3, h4, h5, h5', h6, h6', h7⟩ := h
    exact ⟨b, u, u', h3, h4, h5, h5', h6.base hB, h6'.base hB, h7⟩

theorem KpX.refl (n₀ tb : Nat) (W : World) : KpX n₀ tb W W := ⟨Below.refl _ _, fun _ _ h _ _ => h, fun _ h => .inl h⟩
set_option maxHeartbeats 400000 in
theorem metIn_in (n : Nat) (t : TypeId) (u : Value) (fl : Bool) (w : World) :
    CallsIn Fence.wide n Tryd.prog 29 #[.iface t u, .bool fl] w fun e w' => e = .returned (.func (.func 52) #[] #[.pointer (some ⟨w.heap.size, 0, none⟩), .pointer (some ⟨w.heap.size + 1, 0, none⟩)]) ∧ (w.alloc (.cells #[.iface t u] 70)).alloc (.cells #[.bool fl] 4) = w' := by
  refine callsIn_of_wp Tryd.func29 rfl trivial ?_ rfl
  simp only [Tryd.ntmps29, List.size_toArray, List.length_cons, List.length_nil, Nat.reduceAdd, Nat.reduceSub, Array.replicate_succ, Array.replicate_zero, List.push_toArray, List.append_toArray, List.nil_append, List.cons_append]
  gi_wp2
  go_ret
  exact ⟨rfl, rfl⟩

end Go.Proofs.YtgmjpdejfdldlaaDoor

