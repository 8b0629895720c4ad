import Derived.Deep.RegionWith
import Derived.Laws.BytesArg
import Derived.Laws.IdiomStrings
import Derived.Test.YthcjmmpkgljjhaaGreatDoorMAM
namespace Go.Proofs.YthcjmmpkgljjhaaGreatDoor
open Go.RowKit

/-- The scanner at block sb: its text, its place. -/
structure Sc (sb : Nat) (w : World) (tv : Value) (n : Nat) : Prop where
  c0 : w.cell? ⟨sb, 0, none⟩ = some tv
  c1 : w.cell? ⟨sb, 1, none⟩ = some (.int .i64 n)
  fz : ∀ j, w.frozen? ⟨sb, j, none⟩ = false
theorem Sc.lt {sb : Nat} {w : World} {tv : Value} {n : Nat} (h : Sc sb w tv n) : sb < w.heap.size := World.block_lt_of_cell? w _ h.c0
theorem Sc.keep {sb : Nat} {w w' : World} {tv : Value} {n : Nat} (h : Sc sb w tv n) (hg : w.grownBy w' none) : Sc sb w' tv n :=
  ⟨hg.cell h.c0 (by simp), hg.cell h.c1 (by simp), fun j => (World.frozen?_of_block (hg.block sb h.lt (by simp))).trans (h.fz j)⟩
theorem Sc.put {sb : Nat} {w : World} {tv : Value} {n : Nat} (h : Sc sb w tv n) (m : Int) (k : Nat) (hk : m = k) : Sc sb (w.setCell ⟨sb, 1, none⟩ (.int .i64 m)) tv k := by
  subst hk
  have h0 := h.c0
  have h1 := h.c1
  have hf := h.fz
  exact ⟨by simp [go_sem, h0], by simp [go_sem, h1], fun j => by simpa using hf j⟩

/-- The text, in blocks below B. -/
structure Tx (B : Nat) (w : World) (tv : Value) (zs : List Int) : Prop where
  rd : RdB B w tv zs
  sl : Sl tv zs.length
  by_ : Bys zs
  len : zs.length ≤ 1048576
theorem Tx.keep {B : Nat} {w w' : World} {tv : Value} {zs : List Int} (h : Tx B w tv zs) (hg : w.grownBy w' none) : Tx B w' tv zs := ⟨h.rd.keep hg, h.sl, h.by_, h.len⟩
theorem Tx.beside {B sb : Nat} {w w' : World} {tv : Value} {zs : List Int} (h : Tx B w tv zs) (hB : B ≤ sb) (hg : w.grownBy w' (some sb)) : Tx B w' tv zs :=
  ⟨h.rd.beside hg (fun k e => by cases e; exact hB), h.sl, h.by_, h.len⟩
theorem grown_set1 (w : World) (sb j : Nat) (x : Value) : w.grownBy (w.setCell ⟨sb, j, none⟩ x) (some sb) := by
  refine ⟨rfl, rfl, rfl, by simp, fun i hi hn => ?_⟩
  exact Below.heap_setCell _ _ _ _ (fun e => hn (by rw [e]))

theorem grown_drew1 {a b : World} {r : Option Nat} (h : a.grownBy b r) : a.grownBy b.drew r := ⟨h.os, h.tape, h.output, h.size, h.block⟩
theorem grown_row {a b : World} {r : Option Nat} (h : a.grownBy b none) : a.grownBy b r := ⟨h.os, h.tape, h.output, h.size, fun i hi _ => h.block i hi (by simp)⟩

set_option maxHeartbeats 400000 in
theorem ended_any (sb n : Nat) (tv : Value) (zs : List Int) (w : World) (h : Sc sb w tv n) (ht : Tx sb w tv zs) :
    Calls Tryz.prog 77 #[.pointer (some ⟨sb, 0, none⟩)] w fun e w' => e = .returned (.bool ((n : Int) == (zs.length : Int))) ∧ w.grownBy w' none := by
  obtain ⟨a, cap, rfl, _⟩ := ht.rd
  have h0 := h.c0
  have h1 := h.c1
  go_enter Tryz.func77, Tryz.ntmps77
  go_wp2_with fail
  go_quiet (fail)
  go_wp2
  go_ret
  exact ⟨rfl, grown_drewN (World.grownBy.refl _ _) _⟩

set_option maxHeartbeats 1000000 in
set_option maxRecDepth 100000 in
theorem next_any (sb n : Nat) (tv : Value) (zs : List Int) (w : World) (hT : Tab w) (h : Sc sb w tv n) (ht : Tx sb w tv zs) (hn : n ≤ zs.length) :
    Calls Tryz.prog 96 #[.pointer (some ⟨sb, 0, none⟩)] w fun e w' => e = .returned (.int .i32 (nxP zs n)) ∧ Sc sb w' tv (n + nxS zs n) ∧ w.grownBy w' (some sb) := by
  have hE := ended_any sb n tv zs w h ht
  have HSC := hide h
  have h0 := h.c0
  have h1 := h.c1
  have h2 := h.fz
  have hlt := h.lt
  have hlen := ht.len
  have hby := ht.by_
  clear h
  by_cases hlt2 : n < zs.length
  · have hne : ((n : Int) == (zs.length : Int)) = false := by simp; omega
    obtain ⟨a, cap, rfl, hr⟩ := ht.rd
    obtain ⟨b, off, rfl, hb, hc⟩ := hr (fun e => by simp [e] at hlt2)
    obtain ⟨a', cap', hve, hcap, hcm⟩ := ht.sl
    have hce : cap = cap' := by simp at hve; exact hve.2
    subst hce
    unfold maxLen at hcm
    have hbw : b < w.heap.size := by omega
    obtain ⟨s, hs⟩ : ∃ s, s = zs.drop n := ⟨_, rfl⟩
    have hsl : s.length = zs.length - n := by rw [hs, List.length_drop]
    have hrs : ∀ W, w.grownBy W none → RdB W.heap.size W (.slice (some ⟨b, off + n, none⟩) (zs.length - n) (cap - n)) s := by
      intro W hW
      refine ⟨some ⟨b, off + n, none⟩, cap - n, by rw [hsl], fun _ => ⟨b, off + n, rfl, by have := hW.size; omega, fun j hj => ?_⟩⟩
      rw [Nat.add_assoc, hW.cell (hc (n + j) (by omega)) (by simp), hs, drop_at]
    have hbs : Bys s := fun z hz => hby z (by rw [hs] at hz; exact List.mem_of_mem_drop hz)
    have HFP := fun W hW => firstPoint_any _ s W (hT.keep hW) (hrs W hW) hbs (by omega) (by omega)
    have HP : Hid (nxP zs n = fpP s) := by rw [Hid, nxP_in hlt2, hs]
    have HS : Hid (nxS zs n = fsize s) := by rw [Hid, nxS_in hlt2, hs]
    have hf4 : fsize s ≤ zs.length := by have := fsize_le s; omega
    have hck : ¬ cap = n := by omega
    clear hr hc hve hs hrs hbs
    generalize fpP s = p at HFP HP
    generalize fsize s = m at HFP HS hf4
    go_enter Tryz.func96, Tryz.ntmps96
    go_wp2_with fail
    refine hE.mono ?_
    rintro e w0 ⟨rfl, g0⟩
    rw [hne]
    have c0 := g0.cell h0 (by simp)
    have c1 := g0.cell h1 (by simp)
    have HF := hide (HFP w0.drew (grown_drew1 g0))
    clear h0 h1 h2 HFP
    go_wp2_with fail
    go_region_with (go_at_call 79; refine HF.out.mono ?_; rintro e w1 ⟨rfl, hb1⟩)
    all_goals
      have g1 := grown_trans (grown_drew1 g0) (grown_of_below hb1)
      have k := HSC.out.keep g1
      have k0 := k.c0
      have k1 := k.c1
      have k2 := k.fz
      have HK := hide k
      clear k hb1
      go_wp2
      go_ret
      refine ⟨by rw [HP.out]; rfl, by rw [HS.out]; exact HK.out.put _ _ (by go_num), grown_trans (grown_row g1) (grown_set1 _ _ _ _)⟩
  · have hne : ((n : Int) == (zs.length : Int)) = true := by simp; omega
    go_enter Tryz.func96, Tryz.ntmps96
    go_wp2_with fail
    refine hE.mono ?_
    rintro e w1 ⟨rfl, g1⟩
    rw [hne]
    go_wp2
    go_ret
    exact ⟨by rw [nxP_end hlt2]; rfl, by rw [nxS_end hlt2]; exact HSC.out.keep g1, grown_row g1⟩

end Go.Proofs.YthcjmmpkgljjhaaGreatDoor

namespace Go.Proofs.YthcjmmpkgljjhaaGreatDoor
open Go.RowKit

theorem strOfNums_list (xs : List Int) : (strOfNums xs).toList = xs.map fun n => UInt8.ofNat n.toNat := by
  rw [ByteArray.toList_eq]; rfl
theorem u8_inj {x y : Int} (hx : 0 ≤ x ∧ x ≤ 255) (hy : 0 ≤ y ∧ y ≤ 255) (h : UInt8.ofNat x.toNat = UInt8.ofNat y.toNat) : x = y := by
  have := congrArg UInt8.toNat h
  simp only [UInt8.toNat_ofNat'] at this
  omega
theorem map_inj : ∀ {xs ys : List Int}, Bys xs → Bys ys → (xs.map (fun n => UInt8.ofNat n.toNat)) = (ys.map (fun n => UInt8.ofNat n.toNat)) → xs = ys
  | [], [], _, _, _ => rfl
  | [], _ :: _, _, _, h => by simp at h
  | _ :: _, [], _, _, h => by simp at h
  | x :: xs, y :: ys, hx, hy, h => by
    simp only [List.map_cons, List.cons.injEq] at h
    rw [u8_inj (hx x (by simp)) (hy y (by simp)) h.1, map_inj (fun z hz => hx z (by simp [hz])) (fun z hz => hy z (by simp [hz])) h.2]
theorem eqBytes {xs ys : List Int} (hx : Bys xs) (hy : Bys ys) : ((strOfNums xs).toList == (strOfNums ys).toList) = decide (xs = ys) := by
  rw [strOfNums_list, strOfNums_list]
  by_cases h : xs = ys
  · subst h; simp
  · have : ¬ (xs.map (fun n => UInt8.ofNat n.toNat)) = (ys.map (fun n => UInt8.ofNat n.toNat)) := fun e => h (map_inj hx hy e)
    simp [h, this]

theorem conv_rd {B : Nat} {w : World} {v : Value} {xs : List Int} (h : Rd .u8 B w v xs) : (convert 40 9 v).run Tryz.prog w = .ok (.string (strOfNums xs)) w := by
  obtain ⟨a, cap, rfl, hr⟩ := h
  by_cases hx : xs = []
  · subst hx
    cases a with
    | none => exact run_convert_bytes_nil w 40 5 Tryz.underlying40 Tryz.underlying5 _ _ 9 Tryz.underlying9
    | some x =>
      rw [run_convert_bytes_string w 40 9 5 _ _ cap Tryz.underlying40 Tryz.underlying5 Tryz.underlying9]
      have := run_bytesToString (P := Tryz.prog) w x 0 cap [] (run_loadCells_list (P := Tryz.prog) w x [] (fun j v hj => by simp at hj))
      rw [show ([] : List Int).length = 0 from rfl, this]
      rfl
  · obtain ⟨b, off, rfl, hb, hc⟩ := hr hx
    exact run_convert_bytes_arg w 40 5 Tryz.underlying40 Tryz.underlying5 b off xs.length cap xs rfl (fun i hi => by rw [hc i hi]; simp [List.getD]) 9 Tryz.underlying9

set_option maxHeartbeats 400000 in
theorem bytesEqual_any (v1 v2 : Value) (xs ys : List Int) (w : World) (h1 : RdB w.heap.size w v1 xs) (h2 : RdB w.heap.size w v2 ys) (b1 : Bys xs) (b2 : Bys ys) :
    Calls Tryz.prog 90 #[v1, v2] w fun e w' => e = .returned (.bool (decide (xs = ys))) ∧ w = w' := by
  have k1 := conv_rd h1
  have k2 := conv_rd h2
  have HE := hide (eqBytes b1 b2)
  obtain ⟨a, cap, rfl, _⟩ := h1
  obtain ⟨a', cap', rfl, _⟩ := h2
  go_enter Tryz.func90, Tryz.ntmps90
  go_wp2
  go_ret
  exact ⟨by rw [← HE.out]; rfl, rfl⟩

theorem prefix_take (xs ys : List Int) : decide (ys <+: xs) = decide (xs.take ys.length = ys) := by
  exact decide_eq_decide.2 (List.prefix_iff_eq_take.trans eq_comm)

set_option maxHeartbeats 1000000 in
theorem hasPrefix_any (v1 v2 : Value) (xs ys : List Int) (w : World) (h1 : RdB w.heap.size w v1 xs) (s1 : Sl v1 xs.length) (h2 : RdB w.heap.size w v2 ys) (b1 : Bys xs) (b2 : Bys ys) (_hl : xs.length ≤ 1048576) (hl2 : ys.length ≤ 1048576) :
    Calls Tryz.prog 94 #[v1, v2] w fun e w' => e = .returned (.bool (decide (ys <+: xs))) ∧ w = w' := by
  obtain ⟨a, cap, hv, hcap, hcm⟩ := s1
  obtain ⟨a', cap', hv2, _⟩ := id h2
  by_cases hle : ys.length ≤ xs.length
  · have HP := hide (prefix_take xs ys)
    have hr : RdB w.heap.size w (.slice a ys.length cap) (xs.take ys.length) := by
      obtain ⟨a2, cap2, hv3, hr⟩ := h1
      have e : a = a2 ∧ cap = cap2 := by rw [hv] at hv3; simpa using hv3
      refine ⟨a, cap, by rw [List.length_take_of_le hle], fun h0 => ?_⟩
      obtain ⟨b, off, ha, hb, hc⟩ := hr (fun e => h0 (by rw [e]; simp))
      refine ⟨b, off, by rw [e.1]; exact ha, hb, fun j hj => ?_⟩
      rw [List.length_take_of_le hle] at hj
      rw [hc j (by omega)]
      simp [hj]
    have HE := hide (bytesEqual_any _ _ _ _ w hr h2 (fun z hz => b1 z (List.mem_of_mem_take hz)) b2)
    subst hv hv2
    clear h1 h2 hr
    unfold maxLen at hcm
    go_enter Tryz.func94, Tryz.ntmps94
    go_wp2_with (go_at_call 90; refine HE.out.mono ?_; rintro e w' ⟨rfl, rfl⟩)
    go_ret
    exact ⟨by rw [HP.out]; rfl, rfl⟩
  · have HP : Hid (decide (ys <+: xs) = false) := by
      simp only [Hid, decide_eq_false_iff_not]
      intro h
      exact hle h.length_le
    subst hv hv2
    go_enter Tryz.func94, Tryz.ntmps94
    go_wp2
    go_ret
    exact ⟨by rw [HP.out]; rfl, rfl⟩

end Go.Proofs.YthcjmmpkgljjhaaGreatDoor

namespace Go.Proofs.YthcjmmpkgljjhaaGreatDoor
open Go.RowKit

theorem Tx.wide {B B' : Nat} {w : World} {tv : Value} {zs : List Int} (h : Tx B w tv zs) (hB : B ≤ B') : Tx B' w tv zs := by
  obtain ⟨⟨a, cap, hv, hr⟩, h2, h3, h4⟩ := h
  refine ⟨⟨a, cap, hv, fun h0 => ?_⟩, h2, h3, h4⟩
  obtain ⟨b, off, ha, hb, hc⟩ := hr h0
  exact ⟨b, off, ha, by omega, hc⟩
theorem sc_new (w : World) (tv : Value) (n : Nat) : Sc w.heap.size (w.alloc (.cells #[tv, .int .i64 n] 94)) tv n :=
  ⟨by simp [go_sem], by simp [go_sem], fun j => by simp [go_sem]⟩
/-- A row that was laid since: nothing of w has turned. -/
theorem grown_over {a b c : World} {k : Nat} (h : a.grownBy b none) (hk : a.heap.size ≤ k) (g : b.grownBy c (some k)) : a.grownBy c none := grown_new h g (fun j e => by cases e; exact hk)

set_option maxHeartbeats 1000000 in
set_option maxRecDepth 100000 in
theorem peek_any (sb n : Nat) (tv : Value) (zs : List Int) (w : World) (hT : Tab w) (h : Sc sb w tv n) (ht : Tx sb w tv zs) (hn : n ≤ zs.length) :
    Calls Tryz.prog 95 #[.pointer (some ⟨sb, 0, none⟩)] w fun e w' => e = .returned (.int .i32 (nxP zs n)) ∧ w.grownBy w' none := by
  have hlt := h.lt
  have h0 := h.c0
  have h1 := h.c1
  have hg := World.grownBy_alloc w (.cells #[tv, .int .i64 n] 94) none
  have hN := next_any w.heap.size n tv zs _ (hT.keep hg) (sc_new w tv n) ((ht.wide (Nat.le_of_lt hlt)).keep hg) hn
  obtain ⟨a, cap, rfl, _⟩ := ht.rd
  have HG := hide hg
  have HN := hide hN
  clear h ht hT hN hg
  go_enter Tryz.func95, Tryz.ntmps95
  go_wp2_with (go_at_call 96; refine HN.out.mono ?_; rintro e w1 ⟨rfl, _, g1⟩)
  go_ret
  exact ⟨rfl, grown_over HG.out (Nat.le_refl _) g1⟩

end Go.Proofs.YthcjmmpkgljjhaaGreatDoor

