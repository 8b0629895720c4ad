import Derived.Deep.RegionWith
import Derived.Laws.BytesArg
import Derived.Laws.IdiomStrings
import Derived.Test.YtalkhnhhaiigiaaGreatDoorMAD
namespace Go.Proofs.YtalkhnhhaiigiaaGreatDoor
open Go.RowKit

/-- The scanner at block sb: its text, its place. -/
structure Sc (sb : Nat) (w : World) (tv : Value) (n : Nat) : Prop where
  c0 : w.cell? ⟨sb, 0, none⟩ = some tv
  c1 : w.cell? ⟨sb, 1, none⟩ = some (.int .i64 n)
  fz : ∀ j, w.frozen? ⟨sb, j, none⟩ = false
theorem Sc.lt {sb : Nat} {w : World} {tv : Value} {n : Nat} (h : Sc sb w tv n) : sb < w.heap.size := World.block_lt_of_cell? w _ h.c0
theorem Sc.keep {sb : Nat} {w w' : World} {tv : Value} {n : Nat} (h : Sc sb w tv n) (hg : w.grownBy w' none) : Sc sb w' tv n :=
  ⟨hg.cell h.c0 (by simp), hg.cell h.c1 (by simp), fun j => (World.frozen?_of_block (hg.block sb h.lt (by simp))).trans (h.fz j)⟩
theorem Sc.put {sb : Nat} {w : World} {tv : Value} {n : Nat} (h : Sc sb w tv n) (m : Int) (k : Nat) (hk : m = k) : Sc sb (w.setCell ⟨sb, 1, none⟩ (.int .i64 m)) tv k := by
  subst hk
  have h0 := h.c0
  have h1 := h.c1
  have hf := h.fz
  exact ⟨by simp [go_sem, h0], by simp [go_sem, h1], fun j => by simpa using hf j⟩

/-- The text, in blocks below B. -/
structure Tx (B : Nat) (w : World) (tv : Value) (zs : List Int) : Prop where
  rd : RdB B w tv zs
  sl : Sl tv zs.length
  by_ : Bys zs
  len : zs.length ≤ 1048576
theorem Tx.keep {B : Nat} {w w' : World} {tv : Value} {zs : List Int} (h : Tx B w tv zs) (hg : w.grownBy w' none) : Tx B w' tv zs := ⟨h.rd.keep hg, h.sl, h.by_, h.len⟩
theorem Tx.beside {B sb : Nat} {w w' : World} {tv : Value} {zs : List Int} (h : Tx B w tv zs) (hB : B ≤ sb) (hg : w.grownBy w' (some sb)) : Tx B w' tv zs :=
  ⟨h.rd.beside hg (fun k e => by cases e; exact hB), h.sl, h.by_, h.len⟩
theorem grown_set1 (w : World) (sb j : Nat) (x : Value) : w.grownBy (w.setCell ⟨sb, j, none⟩ x) (some sb) := by
  refine ⟨rfl, rfl, rfl, by simp, fun i hi hn => ?_⟩
  exact Below.heap_setCell _ _ _ _ (fun e => hn (by rw [e]))

theorem grown_drew1 {a b : World} {r : Option Nat} (h : a.grownBy b r) : a.grownBy b.drew r := ⟨h.os, h.tape, h.output, h.size, h.block⟩
theorem grown_row {a b : World} {r : Option Nat} (h : a.grownBy b none) : a.grownBy b r := ⟨h.os, h.tape, h.output, h.size, fun i hi _ => h.block i hi (by simp)⟩

set_option maxHeartbeats 400000 in
theorem ended_any (sb n : Nat) (tv : Value) (zs : List Int) (w : World) (h : Sc sb w tv n) (ht : Tx sb w tv zs) :
    Calls Tryz.prog 121 #[.pointer (some ⟨sb, 0, none⟩)] w fun e w' => e = .returned (.bool ((n : Int) == (zs.length : Int))) ∧ w.grownBy w' none := by
  obtain ⟨a, cap, rfl, _⟩ := ht.rd
  have h0 := h.c0
  have h1 := h.c1
  go_enter Tryz.func121, Tryz.ntmps121
  go_wp2_with fail
  go_quiet (fail)
  go_wp2
  go_ret
  exact ⟨rfl, grown_drewN (World.grownBy.refl _ _) _⟩

set_option maxHeartbeats 1000000 in
set_option maxRecDepth 100000 in
theorem next_any (sb n : Nat) (tv : Value) (zs : List Int) (w : World) (hT : Tab w) (h : Sc sb w tv n) (ht : Tx sb w tv zs) (hn : n ≤ zs.length) :
    Calls Tryz.prog 152 #[.pointer (some ⟨sb, 0, none⟩)] w fun e w' => e = .returned (.int .i32 (nxP zs n)) ∧ Sc sb w' tv (n + nxS zs n) ∧ w.grownBy w' (some sb) := by
  have hE := ended_any sb n tv zs w h ht
  have HSC := hide h
  have h0 := h.c0
  have h1 := h.c1
  have h2 := h.fz
  have hlt := h.lt
  have hlen := ht.len
  have hby := ht.by_
  clear h
  by_cases hlt2 : n < zs.length
  · have hne : ((n : Int) == (zs.length : Int)) = false := by simp; omega
    obtain ⟨a, cap, rfl, hr⟩ := ht.rd
    obtain ⟨b, off, rfl, hb, hc⟩ := hr (fun e => by simp [e] at hlt2)
    obtain ⟨a', cap', hve, hcap, hcm⟩ := ht.sl
    have hce : cap = cap' := by simp at hve; exact hve.2
    subst hce
    unfold maxLen at hcm
    have hbw : b < w.heap.size := by omega
    obtain ⟨s, hs⟩ : ∃ s, s = zs.drop n := ⟨_, rfl⟩
    have hsl : s.length = zs.length - n := by rw [hs, List.length_drop]
    have hrs : ∀ W, w.grownBy W none → RdB W.heap.size W (.slice (some ⟨b, off + n, none⟩) (zs.length - n) (cap - n)) s := by
      intro W hW
      refine ⟨some ⟨b, off + n, none⟩, cap - n, by rw [hsl], fun _ => ⟨b, off + n, rfl, by have := hW.size; omega, fun j hj => ?_⟩⟩
      rw [Nat.add_assoc, hW.cell (hc (n + j) (by omega)) (by simp), hs, drop_at]
    have hbs : Bys s := fun z hz => hby z (by rw [hs] at hz; exact List.mem_of_mem_drop hz)
    have HFP := fun W hW => firstPoint_any _ s W (hT.keep hW) (hrs W hW) hbs (by omega) (by omega)
    have HP : Hid (nxP zs n = fpP s) := by rw [Hid, nxP_in hlt2, hs]
    have HS : Hid (nxS zs n = fsize s) := by rw [Hid, nxS_in hlt2, hs]
    have hf4 : fsize s ≤ zs.length := by have := fsize_le s; omega
    have hck : ¬ cap = n := by omega
    clear hr hc hve hs hrs hbs
    generalize fpP s = p at HFP HP
    generalize fsize s = m at HFP HS hf4
    go_enter Tryz.func152, Tryz.ntmps152
    go_wp2_with fail
    refine hE.mono ?_
    rintro e w0 ⟨rfl, g0⟩
    rw [hne]
    have c0 := g0.cell h0 (by simp)
    have c1 := g0.cell h1 (by simp)
    have HF := hide (HFP w0.drew (grown_drew1 g0))
    clear h0 h1 h2 HFP
    go_wp2_with fail
    go_region_with (go_at_call 123; refine HF.out.mono ?_; rintro e w1 ⟨rfl, hb1⟩)
    all_goals
      have g1 := grown_trans (grown_drew1 g0) (grown_of_below hb1)
      have k := HSC.out.keep g1
      have k0 := k.c0
      have k1 := k.c1
      have k2 := k.fz
      have HK := hide k
      clear k hb1
      go_wp2
      go_ret
      refine ⟨by rw [HP.out]; rfl, by rw [HS.out]; exact HK.out.put _ _ (by go_num), grown_trans (grown_row g1) (grown_set1 _ _ _ _)⟩
  · have hne : ((n : Int) == (zs.length : Int)) = true := by simp; omega
    go_enter Tryz.func152, Tryz.ntmps152
    go_wp2_with fail
    refine hE.mono ?_
    rintro e w1 ⟨rfl, g1⟩
    rw [hne]
    go_wp2
    go_ret
    exact ⟨by rw [nxP_end hlt2]; rfl, by rw [nxS_end hlt2]; exact HSC.out.keep g1, grown_row g1⟩

end Go.Proofs.YtalkhnhhaiigiaaGreatDoor

namespace Go.Proofs.YtalkhnhhaiigiaaGreatDoor
open Go.RowKit

theorem strOfNums_list (xs : List Int) : (strOfNums xs).toList = xs.map fun n => UInt8.ofNat n.toNat := by
  rw [ByteArray.toList_eq]; rfl
theorem u8_inj {x y : Int} (hx : 0 ≤ x ∧ x ≤ 255) (hy : 0 ≤ y ∧ y ≤ 255) (h : UInt8.ofNat x.toNat = UInt8.ofNat y.toNat) : x = y := by
  have := congrArg UInt8.toNat h
  simp only [UInt8.toNat_ofNat'] at this
  omega
theorem map_inj : ∀ {xs ys : List Int}, Bys xs → Bys ys → (xs.map (fun n => UInt8.ofNat n.toNat)) = (ys.map (fun n => UInt8.ofNat n.toNat)) → xs = ys
  | [], [], _, _, _ => rfl
  | [], _ :: _, _, _, h => by simp at h
  | _ :: _, [], _, _, h => by simp at h
  | x :: xs, y :: ys, hx, hy, h => by
    simp only [List.map_cons, List.cons.injEq] at h
    rw [u8_inj (hx x (by simp)) (hy y (by simp)) h.1, map_inj (fun z hz => hx z (by simp [hz])) (fun z hz => hy z (by simp [hz])) h.2]
theorem eqBytes {xs ys : List Int} (hx : Bys xs) (hy : Bys ys) : ((strOfNums xs).toList == (strOfNums ys).toList) = decide (xs = ys) := by
  rw [strOfNums_list, strOfNums_list]
  by_cases h : xs = ys
  · subst h; simp
  · have : ¬ (xs.map (fun n => UInt8.ofNat n.toNat)) = (ys.map (fun n => UInt8.ofNat n.toNat)) := fun e => h (map_inj hx hy e)
    simp [h, this]

theorem conv_rd {B : Nat} {w : World} {v : Value} {xs : List Int} (h : Rd .u8 B w v xs) : (convert 57 9 v).run Tryz.prog w = .ok (.string (strOfNums xs)) w := by
  obtain ⟨a, cap, rfl, hr⟩ := h
  by_cases hx : xs = []
  · subst hx
    cases a with
    | none => exact run_convert_bytes_nil w 57 5 Tryz.underlying57 Tryz.underlying5 _ _ 9 Tryz.underlying9
    | some x =>
      rw [run_convert_bytes_string w 57 9 5 _ _ cap Tryz.underlying57 Tryz.underlying5 Tryz.underlying9]
      have := run_bytesToString (P := Tryz.prog) w x 0 cap [] (run_loadCells_list (P := Tryz.prog) w x [] (fun j v hj => by simp at hj))
      rw [show ([] : List Int).length = 0 from rfl, this]
      rfl
  · obtain ⟨b, off, rfl, hb, hc⟩ := hr hx
    exact run_convert_bytes_arg w 57 5 Tryz.underlying57 Tryz.underlying5 b off xs.length cap xs rfl (fun i hi => by rw [hc i hi]; simp [List.getD]) 9 Tryz.underlying9

set_option maxHeartbeats 400000 in
theorem bytesEqual_any (v1 v2 : Value) (xs ys : List Int) (w : World) (h1 : RdB w.heap.size w v1 xs) (h2 : RdB w.heap.size w v2 ys) (b1 : Bys xs) (b2 : Bys ys) :
    Calls Tryz.prog 138 #[v1, v2] w fun e w' => e = .returned (.bool (decide (xs = ys))) ∧ w = w' := by
  have k1 := conv_rd h1
  have k2 := conv_rd h2
  have HE := hide (eqBytes b1 b2)
  obtain ⟨a, cap, rfl, _⟩ := h1
  obtain ⟨a', cap', rfl, _⟩ := h2
  go_enter Tryz.func138, Tryz.ntmps138
  go_wp2
  go_ret
  exact ⟨by rw [← HE.out]; rfl, rfl⟩

theorem prefix_take (xs ys : List Int) : decide (ys <+: xs) = decide (xs.take ys.length = ys) := by
  exact decide_eq_decide.2 (List.prefix_iff_eq_take.trans eq_comm)

set_option maxHeartbeats 1000000 in
theorem hasPrefix_any (v1 v2 : Value) (xs ys : List Int) (w : World) (h1 : RdB w.heap.size w v1 xs) (s1 : Sl v1 xs.length) (h2 : RdB w.heap.size w v2 ys) (b1 : Bys xs) (b2 : Bys ys) (_hl : xs.length ≤ 1048576) (hl2 : ys.length ≤ 1048576) :
    Calls Tryz.prog 150 #[v1, v2] w fun e w' => e = .returned (.bool (decide (ys <+: xs))) ∧ w = w' := by
  obtain ⟨a, cap, hv, hcap, hcm⟩ := s1
  obtain ⟨a', cap', hv2, _⟩ := id h2
  by_cases hle : ys.length ≤ xs.length
  · have HP := hide (prefix_take xs ys)
    have hr : RdB w.heap.size w (.slice a ys.length cap) (xs.take ys.length) := by
      obtain ⟨a2, cap2, hv3, hr⟩ := h1
      have e : a = a2 ∧ cap = cap2 := by rw [hv] at hv3; simpa using hv3
      refine ⟨a, cap, by rw [List.length_take_of_le hle], fun h0 => ?_⟩
      obtain ⟨b, off, ha, hb, hc⟩ := hr (fun e => h0 (by rw [e]; simp))
      refine ⟨b, off, by rw [e.1]; exact ha, hb, fun j hj => ?_⟩
      rw [List.length_take_of_le hle] at hj
      rw [hc j (by omega)]
      simp [hj]
    have HE := hide (bytesEqual_any _ _ _ _ w hr h2 (fun z hz => b1 z (List.mem_of_mem_take hz)) b2)
    subst hv hv2
    clear h1 h2 hr
    unfold maxLen at hcm
    go_enter Tryz.func150, Tryz.ntmps150
    go_wp2_with (go_at_call 138; refine HE.out.mono ?_; rintro e w' ⟨rfl, rfl⟩)
    go_ret
    exact ⟨by rw [HP.out]; rfl, rfl⟩
  · have HP : Hid (decide (ys <+: xs) = false) := by
      simp only [Hid, decide_eq_false_iff_not]
      intro h
      exact hle h.length_le
    subst hv hv2
    go_enter Tryz.func150, Tryz.ntmps150
    go_wp2
    go_ret
    exact ⟨by rw [HP.out]; rfl, rfl⟩

end Go.Proofs.YtalkhnhhaiigiaaGreatDoor

namespace Go.Proofs.YtalkhnhhaiigiaaGreatDoor
open Go.RowKit

theorem Tx.wide {B B' : Nat} {w : World} {tv : Value} {zs : List Int} (h : Tx B w tv zs) (hB : B ≤ B') : Tx B' w tv zs := by
  obtain ⟨⟨a, cap, hv, hr⟩, h2, h3, h4⟩ := h
  refine ⟨⟨a, cap, hv, fun h0 => ?_⟩, h2, h3, h4⟩
  obtain ⟨b, off, ha, hb, hc⟩ := hr h0
  exact ⟨b, off, ha, by omega, hc⟩
theorem sc_new (w : World) (tv : Value) (n : Nat) : Sc w.heap.size (w.alloc (.cells #[tv, .int .i64 n] 143)) tv n :=
  ⟨by simp [go_sem], by simp [go_sem], fun j => by simp [go_sem]⟩
/-- A row that was laid since: nothing of w has turned. -/
theorem grown_over {a b c : World} {k : Nat} (h : a.grownBy b none) (hk : a.heap.size ≤ k) (g : b.grownBy c (some k)) : a.grownBy c none := grown_new h g (fun j e => by cases e; exact hk)

set_option maxHeartbeats 1000000 in
set_option maxRecDepth 100000 in
theorem peek_any (sb n : Nat) (tv : Value) (zs : List Int) (w : World) (hT : Tab w) (h : Sc sb w tv n) (ht : Tx sb w tv zs) (hn : n ≤ zs.length) :
    Calls Tryz.prog 151 #[.pointer (some ⟨sb, 0, none⟩)] w fun e w' => e = .returned (.int .i32 (nxP zs n)) ∧ w.grownBy w' none := by
  have hlt := h.lt
  have h0 := h.c0
  have h1 := h.c1
  have hg := World.grownBy_alloc w (.cells #[tv, .int .i64 n] 143) none
  have hN := next_any w.heap.size n tv zs _ (hT.keep hg) (sc_new w tv n) ((ht.wide (Nat.le_of_lt hlt)).keep hg) hn
  obtain ⟨a, cap, rfl, _⟩ := ht.rd
  have HG := hide hg
  have HN := hide hN
  clear h ht hT hN hg
  go_enter Tryz.func151, Tryz.ntmps151
  go_wp2_with (go_at_call 152; refine HN.out.mono ?_; rintro e w1 ⟨rfl, _, g1⟩)
  go_ret
  exact ⟨rfl, grown_over HG.out (Nat.le_refl _) g1⟩

end Go.Proofs.YtalkhnhhaiigiaaGreatDoor

namespace Go.Proofs.YtalkhnhhaiigiaaGreatDoor
open Go.RowKit

theorem bytes_row_rd (w : World) (wl : List Int) (hb : Bys wl) (c : Nat) :
    RdB (w.alloc (.cells (bytesRow (strOfNums wl) c) 5 ((bytesRow (strOfNums wl) c).size, (bytesRow (strOfNums wl) c).size + 1))).heap.size (w.alloc (.cells (bytesRow (strOfNums wl) c) 5 ((bytesRow (strOfNums wl) c).size, (bytesRow (strOfNums wl) c).size + 1))) (.slice (some ⟨w.heap.size, 0, none⟩) wl.length c) wl := by
  refine ⟨_, c, rfl, fun _ => ⟨w.heap.size, 0, rfl, by simp, fun j hj => ?_⟩⟩
  have := World.cell?_alloc_mark w (bytesRow (strOfNums wl) c) 5 ((bytesRow (strOfNums wl) c).size, (bytesRow (strOfNums wl) c).size + 1) j
  rw [Nat.zero_add, this]
  have hz := hb _ (List.getElem_mem hj)
  unfold bytesRow
  rw [Array.getElem?_append_left (by simp [strOfNums, hj])]
  simp [strOfNums, hj]
  omega
theorem Rd.heap {q : IntKind} {B : Nat} {w w' : World} {v : Value} {zs : List Int} (h : Rd q B w v zs) (e : w'.heap = w.heap) : Rd q B w' v zs := by
  obtain ⟨a, cap, hv, hr⟩ := h
  refine ⟨a, cap, hv, fun h0 => ?_⟩
  obtain ⟨b, off, ha, hb, hc⟩ := hr h0
  exact ⟨b, off, ha, hb, fun j hj => by rw [← hc j hj]; unfold World.cell?; rw [e]⟩
/-- The text from place n on. -/
theorem Tx.from_ {B : Nat} {w : World} {a : Option Addr} {cap : Nat} {zs : List Int} (h : Tx B w (.slice a zs.length cap) zs) (n : Nat) (hn : n ≤ zs.length) :
    RdB B w (.slice (if cap = n then a else Option.map (fun x => x.add n) a) (zs.length - n) (cap - n)) (zs.drop n) ∧ Sl (.slice (if cap = n then a else Option.map (fun x => x.add n) a) (zs.length - n) (cap - n)) (zs.drop n).length ∧ Bys (zs.drop n) := by
  obtain ⟨a2, cap2, hv, hr⟩ := h.rd
  obtain ⟨a', cap', hve, hcap, hcm⟩ := h.sl
  have e1 : a = a2 ∧ cap = cap2 := by simpa using hv
  have e2 : a = a' ∧ cap = cap' := by simpa using hve
  obtain ⟨rfl, rfl⟩ := e1
  obtain ⟨_, rfl⟩ := e2
  refine ⟨⟨_, cap - n, by rw [List.length_drop], fun h0 => ?_⟩, ⟨_, cap - n, by rw [List.length_drop], by rw [List.length_drop]; omega, by omega⟩, fun z hz => h.by_ z (List.mem_of_mem_drop hz)⟩
  have hlt : n < zs.length := by
    apply Classical.byContradiction
    intro hc
    exact h0 (List.drop_of_length_le (by omega))
  obtain ⟨b, off, rfl, hb, hc⟩ := hr (fun e => by simp [e] at hlt)
  rw [if_neg (by omega)]
  refine ⟨b, off + n, by simp [Addr.add], hb, fun j hj => ?_⟩
  rw [List.length_drop] at hj
  rw [Nat.add_assoc, hc (n + j) (by omega), drop_at]

theorem Sc.drew {sb : Nat} {w : World} {tv : Value} {n : Nat} (h : Sc sb w tv n) : Sc sb w.drew tv n := ⟨h.c0, h.c1, h.fz⟩

set_option maxHeartbeats 2000000 in
set_option maxRecDepth 100000 in
theorem accept_any (wl : List Int) (hwb : Bys wl) (hwl : wl.length ≤ 100) (sb n : Nat) (tv : Value) (zs : List Int) (w : World) (h : Sc sb w tv n) (ht : Tx sb w tv zs) (hn : n ≤ zs.length) :
    Calls Tryz.prog 131 #[.pointer (some ⟨sb, 0, none⟩), .string (strOfNums wl)] w fun e w' => e = .returned (.bool (decide (wl <+: zs.drop n))) ∧ Sc sb w' tv (if wl <+: zs.drop n then n + wl.length else n) ∧ w.grownBy w' (some sb) := by
  have hnot : ∀ (x : Bool) (w : World), (Op.unary .not (.bool x)).run Tryz.prog w = .ok (.bool (!x)) w := fun _ _ => rfl
  have h0 := h.c0
  have h1 := h.c1
  have hlt := h.lt
  have hss : (strOfNums wl).size = wl.length := strOfNums_size wl
  have hlen := ht.len
  have hconv : ∀ W : World, _ := fun W => run_bytes_of_string (P := Tryz.prog) W 9 57 5 (strOfNums wl) Tryz.underlying9 Tryz.underlying57 Tryz.underlying5
  simp only [strOfNums_size] at hconv
  obtain ⟨a, cap, rfl, _⟩ := ht.rd
  obtain ⟨a', cap', hve, hcap, hcm⟩ := ht.sl
  have hce : cap = cap' := by simp at hve; exact hve.2
  subst hce
  unfold maxLen at hcm
  have hF := ht.from_ n hn
  have hg := World.grownBy_alloc w (.cells (bytesRow (strOfNums wl) (grownCap w.drew wl.length 0 5)) 5 ((bytesRow (strOfNums wl) (grownCap w.drew wl.length 0 5)).size, (bytesRow (strOfNums wl) (grownCap w.drew wl.length 0 5)).size + 1)) none
  have hsz : sb ≤ (w.alloc (.cells (bytesRow (strOfNums wl) (grownCap w.drew wl.length 0 5)) 5 ((bytesRow (strOfNums wl) (grownCap w.drew wl.length 0 5)).size, (bytesRow (strOfNums wl) (grownCap w.drew wl.length 0 5)).size + 1))).heap.size := by simp; omega
  have HH := hide (fun v1 (r1 : RdB _ _ v1 _) s1 => hasPrefix_any v1 _ (zs.drop n) wl (w.alloc (.cells (bytesRow (strOfNums wl) (grownCap w.drew wl.length 0 5)) 5 ((bytesRow (strOfNums wl) (grownCap w.drew wl.length 0 5)).size, (bytesRow (strOfNums wl) (grownCap w.drew wl.length 0 5)).size + 1))).drew.drew
    r1 s1 ((bytes_row_rd w wl hwb _).heap rfl) hF.2.2 hwb (by rw [List.length_drop]; omega) (by omega) |>.mono fun e w' (hx : _ ∧ _) => (⟨hx.1, hx.2 ▸ (h.keep hg).drew.drew, hx.2 ▸ grown_drew1 (grown_drew1 hg)⟩ : _ ∧ Sc sb w' (.slice a zs.length cap) n ∧ w.grownBy w' none))
  have HR := hide ((hF.1.keep hg).now.heap (w' := (w.alloc (.cells (bytesRow (strOfNums wl) (grownCap w.drew wl.length 0 5)) 5 ((bytesRow (strOfNums wl) (grownCap w.drew wl.length 0 5)).size, (bytesRow (strOfNums wl) (grownCap w.drew wl.length 0 5)).size + 1))).drew.drew) rfl)
  have HSl := hide hF.2.1
  clear h ht hve hF hg hsz
  obtain ⟨m, hm⟩ : ∃ m : Nat, m = if wl <+: zs.drop n then n + wl.length else n := ⟨_, rfl⟩
  rw [← hm]
  have hm2 : m = if decide (wl <+: zs.drop n) = true then n + wl.length else n := by rw [hm]; simp
  generalize decide (wl <+: zs.drop n) = ok at HH hm2 ⊢
  have HM := hide hm2
  clear hm hm2
  by_cases hcn : cap = n
  · have hz : zs.length = n := by omega
    have HZ : Hid (∀ (a : Option Addr) (l c : Nat), l = 0 ∧ c = 0 → RdB (w.alloc (.cells (bytesRow (strOfNums wl) (grownCap w.drew wl.length 0 5)) 5 ((bytesRow (strOfNums wl) (grownCap w.drew wl.length 0 5)).size, (bytesRow (strOfNums wl) (grownCap w.drew wl.length 0 5)).size + 1))).drew.drew.heap.size (w.alloc (.cells (bytesRow (strOfNums wl) (grownCap w.drew wl.length 0 5)) 5 ((bytesRow (strOfNums wl) (grownCap w.drew wl.length 0 5)).size, (bytesRow (strOfNums wl) (grownCap w.drew wl.length 0 5)).size + 1))).drew.drew (.slice a l c) (zs.drop n) ∧ Sl (.slice a l c) (zs.drop n).length) := by
      rintro a l c ⟨rfl, rfl⟩
      rw [List.drop_of_length_le (by omega)]
      exact ⟨⟨a, 0, rfl, fun h => absurd rfl h⟩, ⟨a, 0, rfl, Nat.le_refl _, by unfold maxLen; omega⟩⟩
    clear hz
    cases ok
    · go_enter Tryz.func131, Tryz.ntmps131
      go_wp2_with fail
      have q0 : ∀ o, ((w.drew).drew.alloc o).cell? ⟨sb, 0, none⟩ = some (.slice a zs.length cap) := fun o => (World.cell?_alloc_past _ _ _ hlt).trans h0
      have q1 : ∀ o, ((w.drew).drew.alloc o).cell? ⟨sb, 1, none⟩ = some (.int .i64 n) := fun o => (World.cell?_alloc_past _ _ _ hlt).trans h1
      go_region_with (go_at_call 150; refine (HH.out _ (HZ.out _ _ _ (by omega)).1 (HZ.out _ _ _ (by omega)).2).mono ?_; rintro e w1 ⟨rfl, k1, g1⟩)
      all_goals
        have hc1 := k1.c1
        have hc2 := k1.fz
        go_wp2
        go_ret
        exact ⟨rfl, by rw [HM.out]; exact k1, grown_row g1⟩
    · go_enter Tryz.func131, Tryz.ntmps131
      go_wp2_with fail
      have q0 : ∀ o, ((w.drew).drew.alloc o).cell? ⟨sb, 0, none⟩ = some (.slice a zs.length cap) := fun o => (World.cell?_alloc_past _ _ _ hlt).trans h0
      have q1 : ∀ o, ((w.drew).drew.alloc o).cell? ⟨sb, 1, none⟩ = some (.int .i64 n) := fun o => (World.cell?_alloc_past _ _ _ hlt).trans h1
      go_region_with (go_at_call 150; refine (HH.out _ (HZ.out _ _ _ (by omega)).1 (HZ.out _ _ _ (by omega)).2).mono ?_; rintro e w1 ⟨rfl, k1, g1⟩)
      all_goals
        have hc1 := k1.c1
        have hc2 := k1.fz
        go_wp2
        go_ret
        exact ⟨rfl, by rw [HM.out]; exact k1.put _ _ (by go_num), grown_trans (grown_row g1) (grown_set1 _ _ _ _)⟩
  · rw [if_neg hcn] at HR HSl
    cases ok
    · go_enter Tryz.func131, Tryz.ntmps131
      go_wp2_with fail
      have q0 : ∀ o, ((w.drew).drew.alloc o).cell? ⟨sb, 0, none⟩ = some (.slice a zs.length cap) := fun o => (World.cell?_alloc_past _ _ _ hlt).trans h0
      have q1 : ∀ o, ((w.drew).drew.alloc o).cell? ⟨sb, 1, none⟩ = some (.int .i64 n) := fun o => (World.cell?_alloc_past _ _ _ hlt).trans h1
      go_region_with (go_at_call 150; refine (HH.out _ HR.out HSl.out).mono ?_; rintro e w1 ⟨rfl, k1, g1⟩)
      all_goals
        have hc1 := k1.c1
        have hc2 := k1.fz
        go_wp2
        go_ret
        exact ⟨rfl, by rw [HM.out]; exact k1, grown_row g1⟩
    · go_enter Tryz.func131, Tryz.ntmps131
      go_wp2_with fail
      have q0 : ∀ o, ((w.drew).drew.alloc o).cell? ⟨sb, 0, none⟩ = some (.slice a zs.length cap) := fun o => (World.cell?_alloc_past _ _ _ hlt).trans h0
      have q1 : ∀ o, ((w.drew).drew.alloc o).cell? ⟨sb, 1, none⟩ = some (.int .i64 n) := fun o => (World.cell?_alloc_past _ _ _ hlt).trans h1
      go_region_with (go_at_call 150; refine (HH.out _ HR.out HSl.out).mono ?_; rintro e w1 ⟨rfl, k1, g1⟩)
      all_goals
        have hc1 := k1.c1
        have hc2 := k1.fz
        go_wp2
        go_ret
        exact ⟨rfl, by rw [HM.out]; exact k1.put _ _ (by go_num), grown_trans (grown_row g1) (grown_set1 _ _ _ _)⟩

end Go.Proofs.YtalkhnhhaiigiaaGreatDoor

namespace Go.Proofs.YtalkhnhhaiigiaaGreatDoor
open Go.RowKit

set_option maxHeartbeats 400000 in
theorem l4digit_any (p : Int) (w : World) : Calls Tryz.prog 118 #[.int .i64 p] w fun e w' => e = .returned (.bool (isDig p)) ∧ w = w' := by
  by_cases h0 : 48 ≤ p
  · by_cases h1 : p ≤ 57
    · have HI : Hid (isDig p = true) := by simp [Hid, isDig, h0, h1]
      go_enter Tryz.func118, Tryz.ntmps118
      go_wp2
      go_ret
      exact ⟨by rw [HI.out]; rfl, rfl⟩
    · have HI : Hid (isDig p = false) := by simp [Hid, isDig]; omega
      go_enter Tryz.func118, Tryz.ntmps118
      go_wp2
      go_ret
      exact ⟨by rw [HI.out]; rfl, rfl⟩
  · have HI : Hid (isDig p = false) := by simp [Hid, isDig]; omega
    go_enter Tryz.func118, Tryz.ntmps118
    go_wp2
    go_ret
    exact ⟨by rw [HI.out]; rfl, rfl⟩

end Go.Proofs.YtalkhnhhaiigiaaGreatDoor

namespace Go.Proofs.YtalkhnhhaiigiaaGreatDoor
open Go.RowKit

set_option maxHeartbeats 1000000 in
theorem l4hex_any (p : Int) (w : World) : Calls Tryz.prog 130 #[.int .i64 p] w fun e w' => e = .returned (.int .i64 (hexV p)) ∧ w = w' := by
  cases hd : isDig p
  · by_cases ha : 97 ≤ p
    · by_cases hb : p ≤ 102
      · have HI : Hid (hexV p = p - 97 + 10) := by simp [Hid, hexV, hd, ha, hb]
        go_enter Tryz.func130, Tryz.ntmps130
        go_wp2_with (go_at_call 118; refine (l4digit_any _ _).mono ?_; rintro e w' ⟨rfl, rfl⟩; rw [hd])
        go_ret
        exact ⟨by rw [HI.out]; first | rfl | (congr 2; go_num), rfl⟩
      · have hc : ¬ p ≤ 70 := by omega
        have HI : Hid (hexV p = -1) := by simp [Hid, hexV, hd, ha, hb]; omega
        have he : 65 ≤ p := by omega
        go_enter Tryz.func130, Tryz.ntmps130
        go_wp2_with (go_at_call 118; refine (l4digit_any _ _).mono ?_; rintro e w' ⟨rfl, rfl⟩; rw [hd])
        go_ret
        exact ⟨by rw [HI.out]; rfl, rfl⟩
    · by_cases hc : 65 ≤ p
      · by_cases he : p ≤ 70
        · have HI : Hid (hexV p = p - 65 + 10) := by simp [Hid, hexV, hd, ha, hc, he]
          go_enter Tryz.func130, Tryz.ntmps130
          go_wp2_with (go_at_call 118; refine (l4digit_any _ _).mono ?_; rintro e w' ⟨rfl, rfl⟩; rw [hd])
          go_ret
          exact ⟨by rw [HI.out]; first | rfl | (congr 2; go_num), rfl⟩
        · have HI : Hid (hexV p = -1) := by simp [Hid, hexV, hd, ha, hc, he]
          go_enter Tryz.func130, Tryz.ntmps130
          go_wp2_with (go_at_call 118; refine (l4digit_any _ _).mono ?_; rintro e w' ⟨rfl, rfl⟩; rw [hd])
          go_ret
          exact ⟨by rw [HI.out]; rfl, rfl⟩
      · have HI : Hid (hexV p = -1) := by simp [Hid, hexV, hd, ha, hc]
        go_enter Tryz.func130, Tryz.ntmps130
        go_wp2_with (go_at_call 118; refine (l4digit_any _ _).mono ?_; rintro e w' ⟨rfl, rfl⟩; rw [hd])
        go_ret
        exact ⟨by rw [HI.out]; rfl, rfl⟩
  · have HI : Hid (hexV p = p - 48) := by simp [Hid, hexV, hd]
    have hd' : 48 ≤ p ∧ p ≤ 57 := by simpa [isDig] using hd
    obtain ⟨hd0, hd1⟩ := hd'
    go_enter Tryz.func130, Tryz.ntmps130
    go_wp2_with (go_at_call 118; refine (l4digit_any _ _).mono ?_; rintro e w' ⟨rfl, rfl⟩; rw [hd])
    go_ret
    exact ⟨by rw [HI.out]; first | rfl | (congr 2; go_num), rfl⟩

end Go.Proofs.YtalkhnhhaiigiaaGreatDoor

namespace Go.Proofs.YtalkhnhhaiigiaaGreatDoor
open Go.RowKit

attribute [-go_sem] run_index_string

/-- The byte at place k of the string of zs. -/
theorem str_at {zs : List Int} (hb : Bys zs) {k : Nat} (hk : k < zs.length) (W : World) :
    (Instr.index 9 (.string (strOfNums zs)) (.int .i64 (k : Int))).run Tryz.prog W = .ok (.int .u8 (zs[k]?.getD 0)) W := by
  rw [run_index_string W 9 (strOfNums zs) .i64 (k : Int) Tryz.underlying9]
  have hs : (strOfNums zs).size = zs.length := strOfNums_size zs
  rw [dif_pos ⟨by omega, by rw [hs]; omega⟩]
  have hz := hb _ (List.getElem_mem hk)
  congr 2
  simp only [Int.toNat_natCast]
  have : ((strOfNums zs)[k]'(by rw [hs]; exact hk)) = UInt8.ofNat (zs[k]).toNat := by
    simp [strOfNums, ByteArray.getElem_eq_getElem_data]
  rw [this]
  simp [hk]
  omega

set_option maxHeartbeats 1000000 in
set_option maxRecDepth 100000 in
theorem allDigits_any (zs : List Int) (w : World) (hb : Bys zs) (hl : zs.length ≤ 1048576) :
    Calls Tryz.prog 116 #[.string (strOfNums zs)] w fun e w' => e = .returned (.bool (allDig zs)) ∧ w = w' := by
  have hnot : ∀ (x : Bool) (w : World), (Op.unary .not (.bool x)).run Tryz.prog w = .ok (.bool (!x)) w := fun _ _ => rfl
  have hsz : (strOfNums zs).size = zs.length := strOfNums_size zs
  go_enter Tryz.func116, Tryz.ntmps116
  go_wp2
  go_loopw [3] (fun i wr => ∃ k : Nat, k ≤ zs.length ∧ i = .int .i64 k ∧ (zs.take k).all isDig = true ∧ w = wr)
    (fun i _ => zs.length - (intOf i).toNat)
  case atStart => exact ⟨0, Nat.zero_le _, rfl, rfl, rfl⟩
  case round =>
    obtain ⟨k, hk, rfl, hall, rfl⟩ := hrel
    by_cases hlt : k < zs.length
    · have hal := hide (all_snoc zs isDig k hlt hall)
      have han := hide (all_not zs isDig k hlt)
      have hix := str_at hb hlt w
      have hpb := hb.get k
      generalize zs[k]?.getD 0 = p at hix hal han hpb
      obtain ⟨hp0, hp1⟩ := hpb
      cases h1 : isDig p
      · have HF : Hid (allDig zs = false) := han.out h1
        go_wp2_with (go_at_call 118; refine (l4digit_any _ _).mono ?_; rintro e w' ⟨rfl, rfl⟩; rw [h1])
        go_ret
        exact ⟨by rw [HF.out]; rfl, rfl⟩
      · have HT : Hid ((zs.take (k + 1)).all isDig = true) := hal.out h1
        go_wp2_with (go_at_call 118; refine (l4digit_any _ _).mono ?_; rintro e w' ⟨rfl, rfl⟩; rw [h1])
        go_roundw
        case rel => exact ⟨k + 1, by omega, by go_num, HT.out, trivial⟩
        case measure => simp [intOf]; omega
    · have HF : Hid (allDig zs = true) := by
        rw [List.take_of_length_le (by omega)] at hall
        exact hall
      clear hall
      go_wp2
      go_ret
      exact ⟨by rw [HF.out]; rfl, rfl⟩

set_option maxHeartbeats 1000000 in
set_option maxRecDepth 100000 in
theorem allHex_any (zs : List Int) (w : World) (hb : Bys zs) (hl : zs.length ≤ 1048576) :
    Calls Tryz.prog 114 #[.string (strOfNums zs)] w fun e w' => e = .returned (.bool (zs.all isHex && decide (0 < zs.length))) ∧ w = w' := by
  have hnot : ∀ (x : Bool) (w : World), (Op.unary .not (.bool x)).run Tryz.prog w = .ok (.bool (!x)) w := fun _ _ => rfl
  have hsz : (strOfNums zs).size = zs.length := strOfNums_size zs
  go_enter Tryz.func114, Tryz.ntmps114
  go_wp2
  go_loopw [3] (fun i wr => ∃ k : Nat, k ≤ zs.length ∧ i = .int .i64 k ∧ (zs.take k).all isHex = true ∧ w = wr)
    (fun i _ => zs.length - (intOf i).toNat)
  case atStart => exact ⟨0, Nat.zero_le _, rfl, rfl, rfl⟩
  case round =>
    obtain ⟨k, hk, rfl, hall, rfl⟩ := hrel
    by_cases hlt : k < zs.length
    · have hal := hide (all_snoc zs isHex k hlt hall)
      have han := hide (all_not zs isHex k hlt)
      have hix := str_at hb hlt w
      have hpb := hb.get k
      generalize zs[k]?.getD 0 = p at hix hal han hpb
      obtain ⟨hp0, hp1⟩ := hpb
      by_cases h1 : 0 ≤ hexV p
      · have HT : Hid ((zs.take (k + 1)).all isHex = true) := hal.out (by simp [isHex, h1])
        clear hal han
        go_wp2_with (go_at_call 130; refine (l4hex_any _ _).mono ?_; rintro e w' ⟨rfl, rfl⟩)
        go_roundw
        case rel => exact ⟨k + 1, by omega, by go_num, HT.out, trivial⟩
        case measure => simp [intOf]; omega
      · have HF : Hid ((zs.all isHex && decide (0 < zs.length)) = false) := by rw [Hid, han.out (by simp [isHex]; omega)]; rfl
        clear hal han
        go_wp2_with (go_at_call 130; refine (l4hex_any _ _).mono ?_; rintro e w' ⟨rfl, rfl⟩)
        go_ret
        exact ⟨by rw [HF.out]; rfl, rfl⟩
    · have HF : Hid ((zs.all isHex && decide (0 < zs.length)) = decide (0 < zs.length)) := by
        rw [List.take_of_length_le (by omega)] at hall
        rw [Hid, hall]; rfl
      clear hall
      go_wp2
      go_ret
      exact ⟨by rw [HF.out]; rfl, rfl⟩

end Go.Proofs.YtalkhnhhaiigiaaGreatDoor

