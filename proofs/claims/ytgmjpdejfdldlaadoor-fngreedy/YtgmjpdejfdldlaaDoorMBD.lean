import Derived.Maps.AppendAt
import Derived.Lib.BufferMore
import Derived.Deep.Slices
import Derived.Handy
import Derived.ArgAppend
import Derived.Laws.BytesArg
import Derived.Laws.IdiomStrings
import Derived.Test.YtgmjpdejfdldlaaDoorMAA
import Derived.Test.YtgmjpdejfdldlaaDoorMAF
import Derived.Test.YtgmjpdejfdldlaaDoorMAW
namespace Go.Proofs.YtgmjpdejfdldlaaDoor
open Go.RowKit

/-- A reader's step: the byte at i (0 at the end) and where it stands then. -/
def nx (zs : List Int) (i : Nat) : Int × Nat := if i < zs.length then (zs[i]?.getD 0, i + 1) else (0, i)
theorem nx_bd {zs : List Int} (h : Bys zs) (i : Nat) : 0 ≤ (nx zs i).1 ∧ (nx zs i).1 ≤ 255 := by
  unfold nx; split
  · exact h.get i
  · simp
theorem nx_le {zs : List Int} {i : Nat} (h : i ≤ zs.length) : (nx zs i).2 ≤ zs.length := by
  unfold nx; split <;> simp only <;> omega

/-- A reader's box. -/
def Rdr (F : Nat) (w : World) (vb : Value) (i : Int) : Prop := w.heap[F]? = some (.cells #[vb, .int .i64 i] 86 (0, 0))
theorem Rdr.c0 {F : Nat} {w : World} {vb : Value} {i : Int} (h : Rdr F w vb i) : w.cell? ⟨F, 0, none⟩ = some vb := by rw [cell_of_row w F 0 _ _ _ h]; rfl
theorem Rdr.c1 {F : Nat} {w : World} {vb : Value} {i : Int} (h : Rdr F w vb i) : w.cell? ⟨F, 1, none⟩ = some (.int .i64 i) := by rw [cell_of_row w F 1 _ _ _ h]; rfl
theorem Rdr.fr {F : Nat} {w : World} {vb : Value} {i : Int} (h : Rdr F w vb i) (j : Nat) : w.frozen? ⟨F, j, none⟩ = false := frozen_of_row w F j _ _ h
theorem Rdr.set1 {F : Nat} {w : World} {vb : Value} {i q : Int} (h : Rdr F w vb i) : Rdr F (w.setCell ⟨F, 1, none⟩ (.int .i64 q)) vb q := heap_setCell_same w F 1 _ _ _ h
theorem Rdr.lt {F : Nat} {w : World} {vb : Value} {i : Int} (h : Rdr F w vb i) : F < w.heap.size := (Array.getElem?_eq_some_iff.1 h).1
theorem Rdr.kept {F : Nat} {w w' : World} {vb : Value} {i : Int} {row : Option Nat} (h : Rdr F w vb i) (hg : w.grownBy w' row) (hne : some F ≠ row) : Rdr F w' vb i := (hg.block F h.lt hne).trans h
theorem grown_setD (w : World) (F j : Nat) (v : Value) : w.grownBy (w.setCell ⟨F, j, none⟩ v) (some F) :=
  ⟨rfl, rfl, rfl, by simp, fun k _ hk => heap_setCell_other w ⟨F, j, none⟩ k v (fun e => hk (by simp [e]))⟩
theorem grown_rowD {a b : World} (h : a.grownBy b none) (r : Option Nat) : a.grownBy b r := ⟨h.os, h.tape, h.output, h.size, fun k hk _ => h.block k hk (by simp)⟩

set_option maxHeartbeats 400000 in
set_option maxRecDepth 100000 in
theorem next_any (F : Nat) (v : Value) (zs : List Int) (i : Nat) (w : World) (hF : Rdr F w v i) (hv : RdB F w v zs) (hby : Bys zs) (hm : zs.length ≤ 4194304) (hi : i ≤ zs.length) :
    Calls Tryd.prog 31 #[.pointer (some ⟨F, 0, none⟩)] w fun e w' => e = .returned (.int .i64 (nx zs i).1) ∧ Rdr F w' v ((nx zs i).2 : Int) ∧ w.grownBy w' (some F) := by
  obtain ⟨a, cap, rfl, hr⟩ := hv
  have q0 := hF.c0
  have q1 := hF.c1
  have r1 := hF.fr 1
  have HF : Hid (Rdr F w (.slice a zs.length cap) i) := hF
  clear hF
  by_cases hlt : i < zs.length
  · have HN : Hid (nx zs i = (zs[i]?.getD 0, i + 1)) := by unfold Hid nx; rw [if_pos hlt]
    obtain ⟨b, off, rfl, hb, hcl⟩ := hr (fun h => by simp [h] at hlt)
    have hcx := hcl i hlt
    have hcb := hby.get i
    generalize zs[i]?.getD 0 = z at hcx hcb HN
    have hlt' : (i : Int) < (zs.length : Int) := by omega
    have hbF : ¬ b = F := by omega
    obtain ⟨hz0, hz1⟩ := hcb
    clear hr hcl
    go_enter Tryd.func31, Tryd.ntmps31
    go_wp2
    go_quiet (fail)
    go_wp2
    go_quiet (fail)
    go_wp2
    go_ret
    refine ⟨by rw [HN.out]; rfl, ?_, ?_⟩
    · rw [HN.out]; exact HF.out.set1
    · exact grown_trans (grown_rowD (grown_drewN (World.grownBy.refl w none) _) _) (grown_setD _ F 1 _)
  · have HN : Hid (nx zs i = (0, i)) := by unfold Hid nx; rw [if_neg hlt]
    clear hr
    go_enter Tryd.func31, Tryd.ntmps31
    go_wp2
    go_quiet (fail)
    go_wp2
    go_ret
    refine ⟨by rw [HN.out]; rfl, ?_, ?_⟩
    · rw [HN.out]; exact HF.out
    · exact grown_drewN (World.grownBy.refl _ _) _

set_option maxHeartbeats 400000 in
set_option maxRecDepth 100000 in
theorem l1open_any (a : Option Addr) (cap : Nat) (zs : List Int) (w : World) (hm : zs.length ≤ 1048576) (hlc : zs.length ≤ cap) (hcm : cap ≤ 9223372036854775807) :
    Calls Tryd.prog 15 #[.slice a zs.length cap] w fun e w' => e = .returned (.pointer (some ⟨w.heap.size, 0, none⟩)) ∧ w.alloc (.cells #[.slice a (min 500 zs.length) cap, .int .i64 0] 86) = w' := by
  by_cases h : 500 < zs.length
  · have HE : Hid (min 500 zs.length = 500) := by unfold Hid; omega
    go_enter Tryd.func15, Tryd.ntmps15
    go_wp2
    go_ret
    exact ⟨rfl, by rw [HE.out]⟩
  · have HE : Hid (min 500 zs.length = zs.length) := by unfold Hid; omega
    go_enter Tryd.func15, Tryd.ntmps15
    go_wp2
    go_ret
    exact ⟨rfl, by rw [HE.out]⟩

end Go.Proofs.YtgmjpdejfdldlaaDoor

namespace Go.Proofs.YtgmjpdejfdldlaaDoor
open Go.RowKit

/-! Documents in memory: read (PiR), and rows of one's own with texts in blocks of their own (PoT). -/

theorem run_noneF {P : Program} {w : World} (base : Nat) (t ty e : TypeId) (i : TypeInfo) (size : Nat) (ht : P.underlying t = some (.slice e)) (hi : P.info? e = some i)
    (v : Value) (n : Nat) (xs : List Value) (hown : w.ownsRow base e size v n xs) (c : Nat) : (Builtin.append_ #[t, t] ty #[v, .slice none 0 c]).run P w = .ok v w := by
  rcases hown.2 with ⟨rfl, rfl⟩ | ⟨g, cap, cur, rfl, _, _, hnc, _⟩
  · simp [Builtin.append_, run_underlying ht, sizeOf, typeInfo, hi, Builtin.lenOf, Builtin.firstCells]
  · simp [Builtin.append_, run_underlying ht, sizeOf, typeInfo, hi, Builtin.lenOf, Builtin.firstCells, hnc, storeCells]
theorem wpList_append_knownF {P : Program} {w : World} {ops : Array Oper} {rest : List Oper} {o : Oper} {a : Act} {Q : Exit → Act → World → Prop} (hgd : o.guard = none) (s x : Operand) (t : TypeId)
    (ho : o.op = .call { callee := .builtin .append, args := #[s, x], argTypes := #[t, t] }) (v xv v' : Value) (w' : World) (hs : a.eval s = v) (hx : a.eval x = xv)
    (hrun : (Builtin.append_ #[t, t] o.type #[v, xv]).run P w = .ok v' w') (h : wpList P ops Q rest (a.put o.dst v') w') : wpList P ops Q (o :: rest) a w := by
  refine wpList_plain hgd fun K hK => ?_
  unfold Oper.wp
  simp only [execOp, ho, resolve, invoke, builtin, Sem.run_bind, Sem.run_pure, Result.andThen_ok, List.map_toArray, List.map_cons, List.map_nil, hs, hx, hrun]
  exact hK _ _ h
/-- 'append(v, t...)' of numbers that are read. -/
theorem append_bytes (B B' : Nat) (w : World) (v tv : Value) (ys t : List Int) (hown : Ow .u8 5 B w v ys) (hrd : Rd .u8 B' w tv t) (hB : B ≤ w.heap.size) (hn : ys.length + t.length ≤ 100000000000) :
    ∃ v' w', (Builtin.append_ #[22, 22] 22 #[v, tv]).run Tryd.prog w = .ok v' w' ∧ Ow .u8 5 B w' v' (ys ++ t) ∧ w.grownBy w' v.ownBlock ∧ (v'.ownBlock = v.ownBlock ∨ v'.ownBlock = some w.heap.size) := by
  obtain ⟨i0, hi, hz0, hz1, hz2⟩ := info_parts info5
  obtain ⟨a, cap, htv, hr⟩ := hrd
  subst htv
  cases a with
  | none =>
    have ht : t = [] := by
      rcases t with _ | ⟨z, zs⟩
      · rfl
      · obtain ⟨b, off, ha, _⟩ := hr (by simp); cases ha
    subst ht
    exact ⟨v, w, run_noneF B _ _ _ i0 1 Tryd.underlying22 hi v _ _ hown cap, by simpa using hown, World.grownBy.refl _ _, .inl rfl⟩
  | some ad =>
    have hnews : ∀ j u, (t.map (Value.int .u8))[j]? = some u → w.cell? (ad.add j) = some u := by
      intro j u hj
      have hjl : j < t.length := by have := (List.getElem?_eq_some_iff.1 hj).1; simpa using this
      obtain ⟨b2, off2, ha, _, hc⟩ := hr (fun e => by rw [e] at hjl; simp at hjl)
      cases ha
      rw [Addr.add_lit, hc j hjl]
      simpa [hjl] using hj
    obtain ⟨v', w', hrun, h1, h2, _, h4⟩ := run_append_own_at (P := Tryd.prog) w B 22 22 5 i0 (.int .u8 0) 1 1 Tryd.underlying22 hi hz0 hz1 hz2 rfl (by decide) v ys.length (ys.map (Value.int .u8)) hown ad t.length cap (t.map (Value.int .u8)) (by simp) hnews
      (by intro u hu; simp only [List.mem_map] at hu; obtain ⟨z, _, rfl⟩ := hu; rfl) (by unfold maxLen; omega) (by omega) hB
    exact ⟨v', w', hrun, by unfold Ow; simpa using h1, h2, h4⟩
set_option maxHeartbeats 1000000 in
set_option maxRecDepth 100000 in
theorem l1copy_exact (a : Option Addr) (n cap : Nat) (v' : Value) (w w' : World) (hrun : (Builtin.append_ #[22, 22] 22 #[.slice none 0 0, .slice a n cap]).run Tryd.prog w = .ok v' w') :
    Calls Tryd.prog 78 #[.slice a n cap] w fun e w2 => e = .returned v' ∧ w' = w2 := by
  go_enter Tryd.func78, Tryd.ntmps78
  go_wp2_with (at_builtin; refine wpList_append_knownF rfl _ _ _ rfl _ _ _ _ rfl rfl hrun ?_)
  go_ret
  exact ⟨rfl, rfl⟩
theorem l1copy_any (v : Value) (zs : List Int) (w : World) (hv : Rd .u8 w.heap.size w v zs) (hn : zs.length ≤ 4194304) :
    Calls Tryd.prog 78 #[v] w fun e w' => ∃ v', e = .returned v' ∧ Ow .u8 5 w.heap.size w' v' zs ∧ w.grownBy w' none := by
  obtain ⟨v', w', hrun, o', g', _⟩ := append_bytes w.heap.size w.heap.size w (.slice none 0 0) v [] zs ⟨by simp, .inl ⟨rfl, rfl⟩⟩ hv (Nat.le_refl _) (by simp; omega)
  obtain ⟨a, cap, hv0, _⟩ := id hv
  subst hv0
  refine (l1copy_exact a zs.length cap v' w w' hrun).mono ?_
  rintro e w2 ⟨rfl, rfl⟩
  exact ⟨v', rfl, by simpa using o', g'⟩
def leafP (k : Int) : List Pc := [⟨k, [], 0⟩]
def textP (t : List Int) : List Pc := [⟨1, t, 0⟩]
/-- How much memory a document is. -/
def mes : List Pc → Nat
  | [] => 0
  | p :: ps => 1 + p.t.length + mes ps
theorem mes_app (a b : List Pc) : mes (a ++ b) = mes a + mes b := by
  induction a with
  | nil => simp [mes]
  | cons p a ih => simp only [List.cons_append, mes, ih]; omega
theorem mes_len (a : List Pc) : a.length ≤ mes a := by
  induction a with
  | nil => simp
  | cons p a ih => simp only [List.length_cons, mes]; omega
theorem mes_mem (a : List Pc) : ∀ p ∈ a, p.t.length ≤ mes a := by
  induction a with
  | nil => simp
  | cons p a ih =>
    intro q hq
    simp only [mes]
    rcases List.mem_cons.1 hq with rfl | h
    · omega
    · have := ih q h; omega
def Zo (B : Nat) (w : World) (r : Option Nat) (b : Nat) : Prop := B ≤ b ∧ b < w.heap.size ∧ some b ≠ r
/-- The text tv reads as t. -/
def TxR (B : Nat) (w : World) (r : Option Nat) (tv : Value) (t : List Int) : Prop :=
  ∃ a cap, tv = .slice a t.length cap ∧ t.length ≤ cap ∧ cap ≤ maxLen ∧ (t ≠ [] → ∃ b off, a = some ⟨b, off, none⟩ ∧ Zo B w r b ∧ ∀ j, j < t.length → w.cell? ⟨b, off + j, none⟩ = some (.int .u8 (t[j]?.getD 0)))
/-- An element at block b from cell o on. -/
def PcR (B : Nat) (w : World) (r : Option Nat) (b o : Nat) (p : Pc) : Prop :=
  ∃ tv, w.cell? ⟨b, o, none⟩ = some (.int .i64 p.k) ∧ w.cell? ⟨b, o + 1, none⟩ = some tv ∧ w.cell? ⟨b, o + 2, none⟩ = some (.int .i64 p.n) ∧ TxR B w r tv p.t
/-- A document. -/
def PiR (B : Nat) (w : World) (r : Option Nat) (v : Value) (ps : List Pc) : Prop :=
  ∃ a cap, v = .slice a ps.length cap ∧ ps.length ≤ cap ∧ cap ≤ maxLen ∧ (ps ≠ [] → ∃ b off, a = some ⟨b, off, none⟩ ∧ Zo B w r b ∧ ∀ j p, ps[j]? = some p → PcR B w r b (off + j * 3) p)
/-- The same memory for another base and another block to be left alone. -/
theorem TxR.turn {B B' : Nat} {w : World} {r r' : Option Nat} {tv : Value} {t : List Int} (h : TxR B w r tv t) (f : ∀ b, Zo B w r b → Zo B' w r' b) : TxR B' w r' tv t := by
  obtain ⟨a, cap, e, h1, h2, h3⟩ := h
  refine ⟨a, cap, e, h1, h2, fun h0 => ?_⟩
  obtain ⟨b, off, ha, hz, hc⟩ := h3 h0
  exact ⟨b, off, ha, f b hz, hc⟩
theorem PcR.turn {B B' : Nat} {w : World} {r r' : Option Nat} {b o : Nat} {p : Pc} (h : PcR B w r b o p) (f : ∀ b, Zo B w r b → Zo B' w r' b) : PcR B' w r' b o p := by
  obtain ⟨tv, h1, h2, h3, h4⟩ := h
  exact ⟨tv, h1, h2, h3, h4.turn f⟩
theorem PiR.turn {B B' : Nat} {w : World} {r r' : Option Nat} {v : Value} {ps : List Pc} (h : PiR B w r v ps) (f : ∀ b, Zo B w r b → Zo B' w r' b) : PiR B' w r' v ps := by
  obtain ⟨a, cap, e, h1, h2, h3⟩ := h
  refine ⟨a, cap, e, h1, h2, fun h0 => ?_⟩
  obtain ⟨b, off, ha, hz, hc⟩ := h3 h0
  exact ⟨b, off, ha, f b hz, fun j p hp => (hc j p hp).turn f⟩
theorem Zo.base {B B' : Nat} {w : World} {r : Option Nat} (hB : B' ≤ B) : ∀ b, Zo B w r b → Zo B' w r b := fun _ h => ⟨Nat.le_trans hB h.1, h.2.1, h.2.2⟩
theorem Zo.off {B : Nat} {w : World} {r : Option Nat} : ∀ b, Zo B w r b → Zo B w none b := fun _ h => ⟨h.1, h.2.1, by simp⟩
theorem TxR.keep {B : Nat} {w w' : World} {r : Option Nat} {tv : Value} {t : List Int} (h : TxR B w r tv t) (g : w.grownBy w' none) : TxR B w' r tv t := by
  obtain ⟨a, cap, e, h1, h2, h3⟩ := h
  refine ⟨a, cap, e, h1, h2, fun h0 => ?_⟩
  obtain ⟨b, off, ha, hz, hc⟩ := h3 h0
  exact ⟨b, off, ha, ⟨hz.1, Nat.lt_of_lt_of_le hz.2.1 g.size, hz.2.2⟩, fun j hj => g.cell (hc j hj) (by simp)⟩
theorem PcR.keep {B : Nat} {w w' : World} {r : Option Nat} {b o : Nat} {p : Pc} (h : PcR B w r b o p) (g : w.grownBy w' none) : PcR B w' r b o p := by
  obtain ⟨tv, h1, h2, h3, h4⟩ := h
  exact ⟨tv, g.cell h1 (by simp), g.cell h2 (by simp), g.cell h3 (by simp), h4.keep g⟩
theorem PiR.keep {B : Nat} {w w' : World} {r : Option Nat} {v : Value} {ps : List Pc} (h : PiR B w r v ps) (g : w.grownBy w' none) : PiR B w' r v ps := by
  obtain ⟨a, cap, e, h1, h2, h3⟩ := h
  refine ⟨a, cap, e, h1, h2, fun h0 => ?_⟩
  obtain ⟨b, off, ha, hz, hc⟩ := h3 h0
  exact ⟨b, off, ha, ⟨hz.1, Nat.lt_of_lt_of_le hz.2.1 g.size, hz.2.2⟩, fun j p hp => (hc j p hp).keep g⟩
theorem TxR.rd {B : Nat} {w : World} {r : Option Nat} {tv : Value} {t : List Int} (h : TxR B w r tv t) : RdB w.heap.size w tv t := by
  obtain ⟨a, cap, e, h1, h2, h3⟩ := h
  refine ⟨a, cap, e, fun h0 => ?_⟩
  obtain ⟨b, off, ha, hz, hc⟩ := h3 h0
  exact ⟨b, off, ha, hz.2.1, hc⟩
theorem TxR.sl {B : Nat} {w : World} {r : Option Nat} {tv : Value} {t : List Int} (h : TxR B w r tv t) : Sl tv t.length := by
  obtain ⟨a, cap, e, h1, h2, h3⟩ := h
  exact ⟨a, cap, e, h1, h2⟩
theorem PiR.rdP {B : Nat} {w : World} {r : Option Nat} {v : Value} {ps : List Pc} (h : PiR B w r v ps) : RdP w.heap.size w v ps := by
  obtain ⟨a, cap, e, h1, h2, h3⟩ := h
  refine ⟨a, cap, e, h1, h2, fun h0 => ?_⟩
  obtain ⟨b, off, ha, hz, hc⟩ := h3 h0
  refine ⟨b, off, ha, hz.2.1, fun j p hp => ?_⟩
  obtain ⟨tv, c1, c2, c3, c4⟩ := hc j p hp
  exact ⟨tv, c1, c2, c3, c4.rd, c4.sl⟩
theorem infoPc : (Tryd.prog.info? 40).map (fun i => (i.zero, i.size, i.bytes)) = some (some (.agg #[.int .i64 0, .slice none 0 0, .int .i64 0]), 3, 40) := by kernel_rfl
def pcC (p : Pc) (tv : Value) : List Value := [.int .i64 p.k, tv, .int .i64 p.n]
def pcCs : List Pc → List Value → List Value
  | p :: ps, tv :: tvs => pcC p tv ++ pcCs ps tvs
  | _, _ => []
theorem pcCs_len : ∀ (ps : List Pc) (tvs : List Value), tvs.length = ps.length → (pcCs ps tvs).length = ps.length * 3
  | [], [], _ => rfl
  | _ :: ps, _ :: tvs, h => by simp only [List.length_cons, Nat.add_right_cancel_iff] at h; simp only [pcCs, pcC, List.length_append, List.length_cons, List.length_nil, pcCs_len ps tvs h]; omega
  | [], _ :: _, h => by simp at h
  | _ :: _, [], h => by simp at h
theorem pcCs_at : ∀ (ps : List Pc) (tvs : List Value) (j : Nat) (p : Pc) (tv : Value), ps[j]? = some p → tvs[j]? = some tv → (pcCs ps tvs)[j * 3]? = some (.int .i64 p.k) ∧ (pcCs ps tvs)[j * 3 + 1]? = some tv ∧ (pcCs ps tvs)[j * 3 + 2]? = some (.int .i64 p.n)
  | p0 :: ps, t0 :: tvs, 0, p, tv, hp, ht => by simp at hp ht; subst hp ht; exact ⟨rfl, rfl, rfl⟩
  | p0 :: ps, t0 :: tvs, j + 1, p, tv, hp, ht => by
    obtain ⟨h2, h3, h4⟩ := pcCs_at ps tvs j p tv (by simpa using hp) (by simpa using ht)
    refine ⟨?_, ?_, ?_⟩
    · rw [show (j + 1) * 3 = j * 3 + 3 by omega]; simpa [pcCs, pcC] using h2
    · rw [show (j + 1) * 3 + 1 = (j * 3 + 1) + 3 by omega]; simpa [pcCs, pcC] using h3
    · rw [show (j + 1) * 3 + 2 = (j * 3 + 2) + 3 by omega]; simpa [pcCs, pcC] using h4
  | [], _, _, _, _, hp, _ => by simp at hp
  | _ :: _, [], _, _, _, _, ht => by simp at ht
/-- Which element a cell is of. -/
theorem pcCs_mem : ∀ (ps : List Pc) (tvs : List Value), tvs.length = ps.length → ∀ (i : Nat) (u : Value), (pcCs ps tvs)[i]? = some u → ∃ (j : Nat) (p : Pc) (tv : Value), ps[j]? = some p ∧ tvs[j]? = some tv ∧ ((i = j * 3 ∧ u = .int .i64 p.k) ∨ (i = j * 3 + 1 ∧ u = tv) ∨ (i = j * 3 + 2 ∧ u = .int .i64 p.n))
  | [], [], _, i, u, h => by simp [pcCs] at h
  | p :: ps, tv :: tvs, hl, i, u, h => by
    simp only [List.length_cons, Nat.add_right_cancel_iff] at hl
    match i, h with
    | 0, h => simp [pcCs, pcC] at h; exact ⟨0, p, tv, rfl, rfl, .inl ⟨rfl, h.symm⟩⟩
    | 1, h => simp [pcCs, pcC] at h; exact ⟨0, p, tv, rfl, rfl, .inr (.inl ⟨rfl, h.symm⟩)⟩
    | 2, h => simp [pcCs, pcC] at h; exact ⟨0, p, tv, rfl, rfl, .inr (.inr ⟨rfl, h.symm⟩)⟩
    | i + 3, h =>
      obtain ⟨j, q, t, h1, h2, h3⟩ := pcCs_mem ps tvs hl i u (by simpa [pcCs, pcC] using h)
      refine ⟨j + 1, q, t, by simpa using h1, by simpa using h2, ?_⟩
      rcases h3 with ⟨e, h3⟩ | ⟨e, h3⟩ | ⟨e, h3⟩
      · exact .inl ⟨by omega, h3⟩
      · exact .inr (.inl ⟨by omega, h3⟩)
      · exact .inr (.inr ⟨by omega, h3⟩)
  | [], _ :: _, h, _, _, _ => by simp at h
  | _ :: _, [], h, _, _, _ => by simp at h
theorem oneCell_slice {v : Value} {n : Nat} (h : Sl v n) : v.oneCell' = true := by
  obtain ⟨a, cap, rfl, _⟩ := h; rfl
theorem PiR.sl {B : Nat} {w : World} {r : Option Nat} {v : Value} {ps : List Pc} (h : PiR B w r v ps) : Sl v ps.length := by
  obtain ⟨a, cap, e, h1, h2, _⟩ := h
  exact ⟨a, cap, e, h1, h2⟩
theorem PiR.at {B : Nat} {w : World} {r : Option Nat} {v : Value} {ps : List Pc} (h : PiR B w r v ps) (j : Nat) (hj : j < ps.length) :
    ∃ b off cap, v = .slice (some ⟨b, off, none⟩) ps.length cap ∧ Zo B w r b ∧ PcR B w r b (off + j * 3) ps[j] := by
  obtain ⟨a, cap, hv, h1, h2, hh⟩ := h
  obtain ⟨b, off, ha, hz, hc⟩ := hh (fun e => by rw [e] at hj; simp at hj)
  exact ⟨b, off, cap, by rw [hv, ha], hz, hc j ps[j] (by simp [hj])⟩

/-- A text in a block of its own, or nothing. -/
def TxG (B : Nat) (w : World) (tv : Value) (t : List Int) : Prop :=
  (tv = .slice none 0 0 ∧ t = []) ∨ ∃ g cap arr mk, tv = .slice (some ⟨g, 0, none⟩) t.length cap ∧ B ≤ g ∧ w.heap[g]? = some (.cells arr 5 mk) ∧ arr.size = cap ∧ t.length ≤ cap ∧ cap ≤ maxLen ∧ (mk = (0, 0) ∨ mk = (cap, cap + 1)) ∧ ∀ j, j < t.length → arr[j]? = some (.int .u8 (t[j]?.getD 0))
theorem TxG.nil (B : Nat) (w : World) : TxG B w (.slice none 0 0) [] := .inl ⟨rfl, rfl⟩
theorem TxG.lt {B : Nat} {w : World} {tv : Value} {t : List Int} (h : TxG B w tv t) : ∀ g, tv.ownBlock = some g → B ≤ g ∧ g < w.heap.size := by
  rcases h with ⟨rfl, rfl⟩ | ⟨g, cap, arr, mk, rfl, h1, h2, _⟩
  · intro g e; cases e
  · intro b e; cases e; exact ⟨h1, (Array.getElem?_eq_some_iff.1 h2).1⟩
theorem TxG.txr {B : Nat} {w : World} {tv : Value} {t : List Int} {r : Option Nat} (h : TxG B w tv t) (hr : ∀ g, tv.ownBlock = some g → some g ≠ r) : TxR B w r tv t := by
  have hlt := h.lt
  rcases h with ⟨rfl, rfl⟩ | ⟨g, cap, arr, mk, rfl, h1, h2, h3, h4, h5, h6, h7⟩
  · exact ⟨none, 0, rfl, Nat.le_refl _, by unfold maxLen; omega, fun h => absurd rfl h⟩
  · refine ⟨_, cap, rfl, h4, h5, fun _ => ⟨g, 0, rfl, ⟨h1, (hlt g rfl).2, hr g rfl⟩, fun j hj => ?_⟩⟩
    rw [Nat.zero_add, cell_of_row w g j _ _ _ h2]
    exact h7 j hj
theorem TxG.of_ow {B : Nat} {w : World} {tv : Value} {t : List Int} (h : Ow .u8 5 B w tv t) : TxG B w tv t := by
  rcases h.2 with ⟨rfl, hn⟩ | ⟨g, cap, cur, rfl, h1, h2, h3, h4, h5, h6⟩
  · exact .inl ⟨rfl, List.eq_nil_of_length_eq_zero hn⟩
  · refine .inr ⟨g, cap, cur, (0, 0), rfl, h1, h2, by simpa using h5, h3, h4, .inl rfl, fun j hj => ?_⟩
    have := congrArg (fun l => l[j]?) h6
    simp only [Nat.mul_one] at this
    rw [List.getElem?_take, if_pos hj] at this
    rw [← Array.getElem?_toList, this]
    simp [hj]
theorem TxG.kept {B : Nat} {w w' : World} {tv : Value} {t : List Int} {r : Option Nat} (h : TxG B w tv t) (hg : w.grownBy w' r) (hr : ∀ g, tv.ownBlock = some g → some g ≠ r) : TxG B w' tv t := by
  have hlt := h.lt
  rcases h with h | ⟨g, cap, arr, mk, rfl, h1, h2, h3⟩
  · exact .inl h
  · exact .inr ⟨g, cap, arr, mk, rfl, h1, (hg.block g (hlt g rfl).2 (hr g rfl)).trans h2, h3⟩
theorem TxG.base {B B' : Nat} {w : World} {tv : Value} {t : List Int} (h : TxG B w tv t) (hB : B' ≤ B) : TxG B' w tv t := by
  rcases h with h | ⟨g, cap, arr, mk, e, h1, h2⟩
  · exact .inl h
  · exact .inr ⟨g, cap, arr, mk, e, by omega, h2⟩
theorem TxG.sl {B : Nat} {w : World} {tv : Value} {t : List Int} (h : TxG B w tv t) : Sl tv t.length := (h.txr (r := none) (fun g _ => by simp)).sl

def AptT (tvs : List Value) : Prop := tvs.Pairwise fun a b => ∀ g, a.ownBlock = some g → b.ownBlock ≠ some g
structure TxT (B : Nat) (w : World) (r : Option Nat) (ps : List Pc) (tvs : List Value) : Prop where
  len : tvs.length = ps.length
  own : ∀ (j : Nat) (p : Pc) (tv : Value), ps[j]? = some p → tvs[j]? = some tv → TxG B w tv p.t ∧ ∀ g, tv.ownBlock = some g → some g ≠ r
  apt : AptT tvs
def PoT (B : Nat) (w : World) (v : Value) (ps : List Pc) : Prop := ∃ tvs, w.ownsRow B 40 3 v ps.length (pcCs ps tvs) ∧ TxT B w v.ownBlock ps tvs
theorem PoT.lt {B : Nat} {w : World} {v : Value} {ps : List Pc} (h : PoT B w v ps) : ∀ k, v.ownBlock = some k → B ≤ k ∧ k < w.heap.size := by
  obtain ⟨tvs, ho, _⟩ := h
  exact fun k e => World.ownsRow.lt ho k e
theorem PoT.nil (B : Nat) (w : World) : PoT B w (.slice none 0 0) [] := ⟨[], ⟨by simp [pcCs], .inl ⟨rfl, rfl⟩⟩, rfl, fun j p tv h => by simp at h, .nil⟩
theorem PoT.pi {B : Nat} {w : World} {v : Value} {ps : List Pc} (h : PoT B w v ps) : PiR B w none v ps := by
  obtain ⟨tvs, ho, ht⟩ := h
  rcases id ho.2 with ⟨hv, hn⟩ | ⟨g, cap, cur, hv, hg, hcur, hnc, hcm, _⟩
  · refine ⟨none, 0, by rw [hv, hn], by omega, by unfold maxLen; omega, fun h0 => absurd (List.eq_nil_of_length_eq_zero hn) h0⟩
  · refine ⟨_, cap, hv, hnc, hcm, fun h0 => ⟨g, 0, rfl, ?_, fun j p hp => ?_⟩⟩
    · have := World.ownsRow.lt ho g (by rw [hv]; rfl)
      exact ⟨this.1, this.2, by simp⟩
    · have hj := (List.getElem?_eq_some_iff.1 hp).1
      have hl := ht.len
      obtain ⟨tv, htv⟩ : ∃ tv, tvs[j]? = some tv := ⟨tvs[j]'(by omega), List.getElem?_eq_getElem (by omega)⟩
      obtain ⟨h1, h2, h3⟩ := pcCs_at ps tvs j p tv hp htv
      rw [hv] at ho
      refine ⟨tv, ?_, ?_, ?_, (ht.own j p tv hp htv).1.txr (fun g _ => by simp)⟩
      · rw [Nat.zero_add, World.ownsRow.cellAt ho (j * 3) (by omega)]; exact h1
      · rw [Nat.zero_add, World.ownsRow.cellAt ho (j * 3 + 1) (by omega)]; exact h2
      · rw [Nat.zero_add, World.ownsRow.cellAt ho (j * 3 + 2) (by omega)]; exact h3
theorem PoT.sl {B : Nat} {w : World} {v : Value} {ps : List Pc} (h : PoT B w v ps) : Sl v ps.length := h.pi.sl
theorem PoT.beside {B : Nat} {w w' : World} {v : Value} {ps : List Pc} {r : Option Nat} (h : PoT B w v ps) (hg : w.grownBy w' r) (hr : ∀ k, r = some k → k < B) : PoT B w' v ps := by
  have hlt := h.lt
  obtain ⟨tvs, ho, ht⟩ := h
  refine ⟨tvs, World.ownsRow.kept ho hg ?_, ht.len, fun j p tv hp htv => ?_, ht.apt⟩
  · cases hv : v.ownBlock with
    | none => exact .inl rfl
    | some k =>
      refine .inr fun e => ?_
      have := hr k e.symm
      have := (hlt k hv).1
      omega
  · obtain ⟨h1, h2⟩ := ht.own j p tv hp htv
    exact ⟨h1.kept hg (fun g e e' => by have := hr g e'.symm; have := (h1.lt g e).1; omega), h2⟩
theorem PoT.keep {B : Nat} {w w' : World} {v : Value} {ps : List Pc} (h : PoT B w v ps) (hg : w.grownBy w' none) : PoT B w' v ps := h.beside hg (fun k e => by cases e)
theorem PoT.base {B B' : Nat} {w : World} {v : Value} {ps : List Pc} (h : PoT B w v ps) (hB : B' ≤ B) : PoT B' w v ps := by
  obtain ⟨tvs, ho, ht⟩ := h
  exact ⟨tvs, row_base hB ho, ht.len, fun j p tv hp htv => ⟨(ht.own j p tv hp htv).1.base hB, (ht.own j p tv hp htv).2⟩, ht.apt⟩
theorem pcCs_app : ∀ (ps qs : List Pc) (tvs tvs' : List Value), tvs.length = ps.length → pcCs (ps ++ qs) (tvs ++ tvs') = pcCs ps tvs ++ pcCs qs tvs'
  | [], qs, [], tvs', _ => by simp [pcCs]
  | p :: ps, qs, tv :: tvs, tvs', h => by simp only [List.length_cons, Nat.add_right_cancel_iff] at h; simp only [List.cons_append, pcCs, pcCs_app ps qs tvs tvs' h, List.append_assoc]
  | [], _, _ :: _, _, h => by simp at h
  | _ :: _, _, [], _, h => by simp at h

/-- 'append(v, u...)': the elements' texts lie in blocks that are new since v was made. -/
theorem appT {B b off : Nat} {w0 w : World} {v : Value} {ps qs : List Pc} (cap : Nat) (tvs' : List Value) (hv : PoT B w0 v ps) (hg : w0.grownBy w none) (hB : B ≤ w0.heap.size) (hl : tvs'.length = qs.length)
    (hcell : ∀ j x, (pcCs qs tvs')[j]? = some x → w.cell? ((⟨b, off, none⟩ : Addr).add j) = some x) (hT : ∀ (j : Nat) (p : Pc) (tv : Value), qs[j]? = some p → tvs'[j]? = some tv → TxG w0.heap.size w tv p.t) (hA : AptT tvs') (hn : ps.length + qs.length ≤ 1000000000) :
    ∃ v' w', (Builtin.append_ #[23, 23] 23 #[v, .slice (some ⟨b, off, none⟩) qs.length cap]).run Tryd.prog w = .ok v' w' ∧ PoT B w' v' (ps ++ qs) ∧ w.grownBy w' v.ownBlock ∧ ∃ a c, v' = .slice a (ps.length + qs.length) c := by
  obtain ⟨i0, hi, hz0, hz1, hz2⟩ := info_parts infoPc
  have hvlt := hv.lt
  obtain ⟨tvs, ho, ht⟩ := hv
  have ho1 := World.ownsRow.kept ho hg (by cases v.ownBlock <;> simp)
  have hsz := hg.size
  obtain ⟨v', w', hrun, h1, h2, _, h4⟩ := run_append_own_at (P := Tryd.prog) w B 23 23 40 i0 (.agg #[.int .i64 0, .slice none 0 0, .int .i64 0]) 3 40 Tryd.underlying23 hi hz0 hz1 hz2 rfl (by decide) v ps.length (pcCs ps tvs) ho1 ⟨b, off, none⟩ qs.length cap (pcCs qs tvs') (pcCs_len qs tvs' hl) hcell
      (by
        intro x hx
        obtain ⟨i, hi', rfl⟩ := List.getElem_of_mem hx
        obtain ⟨j, p, tv, hp, hjt, hcase⟩ := pcCs_mem qs tvs' hl i _ (List.getElem?_eq_getElem hi')
        rcases hcase with ⟨_, e⟩ | ⟨_, e⟩ | ⟨_, e⟩
        · rw [e]; rfl
        · rw [e]; exact oneCell_slice (hT j p tv hp hjt).sl
        · rw [e]; rfl) (by unfold maxLen; omega) (by omega) (by omega)
  have hnew : ∀ x : Nat, x < w.heap.size → some x ≠ v.ownBlock → some x ≠ v'.ownBlock := fun x hx hne => by
    rcases h4 with e | e
    · rw [e]; exact hne
    · rw [e]; intro h; cases h; omega
  have hpt : PoT B w' v' (ps ++ qs) := by
    refine ⟨tvs ++ tvs', by rw [pcCs_app ps qs tvs tvs' ht.len, List.length_append]; exact h1, by rw [List.length_append, List.length_append, ht.len, hl], fun j p tv hp htv => ?_, ?_⟩
    · by_cases hj : j < ps.length
      · rw [List.getElem?_append_left hj] at hp
        rw [List.getElem?_append_left (by rw [ht.len]; exact hj)] at htv
        obtain ⟨k1, k2⟩ := ht.own j p tv hp htv
        refine ⟨(k1.kept hg (fun g _ => by simp)).kept h2 k2, fun g e => hnew g ?_ (k2 g e)⟩
        have := (k1.lt g e).2
        omega
      · rw [List.getElem?_append_right (by omega)] at hp
        rw [List.getElem?_append_right (by rw [ht.len]; omega), ht.len] at htv
        have k1 := hT _ p tv hp htv
        have hne : ∀ g, tv.ownBlock = some g → some g ≠ v.ownBlock := fun g e e' => by have := (k1.lt g e).1; have := (hvlt g e'.symm).2; omega
        exact ⟨(k1.kept h2 hne).base hB, fun g e => hnew g (k1.lt g e).2 (hne g e)⟩
    · unfold AptT
      rw [List.pairwise_append]
      refine ⟨ht.apt, hA, fun a ha c hc g e e' => ?_⟩
      obtain ⟨j, hj, hja⟩ := List.getElem_of_mem ha
      obtain ⟨k, hk, hkc⟩ := List.getElem_of_mem hc
      have l1 := ht.len
      have k1 := ((ht.own j (ps[j]'(by omega)) a (by simp [show j < ps.length by omega]) (by rw [← hja]; simp [hj])).1.lt g e).2
      have k2 := ((hT k (qs[k]'(by omega)) c (by simp [show k < qs.length by omega]) (by rw [← hkc]; simp [hk])).lt g e').1
      omega
  refine ⟨v', w', hrun, hpt, h2, ?_⟩
  obtain ⟨a, c, e, _⟩ := hpt.sl
  exact ⟨a, c, by rw [e, List.length_append]⟩

/-- One more element, laid in a block of its own. -/
theorem PoT.push {B : Nat} {w0 w : World} {v : Value} {ps : List Pc} (k n : Int) (tv : Value) (t : List Int) (hv : PoT B w0 v ps) (hg : w0.grownBy w none) (hB : B ≤ w0.heap.size) (ht : TxG w0.heap.size w tv t) (hn : ps.length ≤ 100000000) :
    ∃ v' w', (Builtin.append_ #[23, 23] 23 #[v, .slice (some ⟨w.heap.size, 0, none⟩) 1 1]).run Tryd.prog (w.alloc (Obj.cells #[.int .i64 k, tv, .int .i64 n] 40)) = .ok v' w' ∧ PoT B w' v' (ps ++ [⟨k, t, n⟩]) ∧ w.grownBy w' v.ownBlock ∧ (∃ a cap, v' = .slice a (ps.length + 1) cap) := by
  have g := World.grownBy_alloc w (Obj.cells #[.int .i64 k, tv, .int .i64 n] 40) none
  have g' := World.grownBy_alloc w (Obj.cells #[.int .i64 k, tv, .int .i64 n] 40) v.ownBlock
  obtain ⟨v', w', h1, h2, h3, h4⟩ := appT (b := w.heap.size) (off := 0) (w := w.alloc (Obj.cells #[.int .i64 k, tv, .int .i64 n] 40)) (qs := [⟨k, t, n⟩]) 1 [tv] hv (grown_trans hg g) hB rfl
    (fun j x hx => by
      rw [Addr.add_lit, Nat.zero_add]
      match j, hx with
      | 0, hx => simp [pcCs, pcC] at hx; subst hx; simp [go_sem]
      | 1, hx => simp [pcCs, pcC] at hx; subst hx; simp [go_sem]
      | 2, hx => simp [pcCs, pcC] at hx; subst hx; simp [go_sem]
      | j + 3, hx => simp [pcCs, pcC] at hx)
    (fun j p u hp hu => by
      match j, hp, hu with
      | 0, hp, hu => simp at hp hu; subst hp hu; exact ht.kept g (fun _ _ => by simp)
      | j + 1, hp, _ => simp at hp)
    (by unfold AptT; simp) (by simp; omega)
  exact ⟨v', w', h1, h2, grown_trans g' h3, h4⟩

/-- One element just laid. -/
theorem one_pcT (w : World) (k n : Int) (tv : Value) (t : List Int) (B : Nat) (hB : B ≤ w.heap.size) (ht : TxG B w tv t) :
    PoT B (w.alloc (Obj.cells #[.int .i64 k, tv, .int .i64 n] 40)) (.slice (some ⟨w.heap.size, 0, none⟩) 1 1) [⟨k, t, n⟩] := by
  have g := World.grownBy_alloc w (Obj.cells #[.int .i64 k, tv, .int .i64 n] 40) none
  refine ⟨[tv], ⟨by simp [pcCs, pcC], .inr ⟨w.heap.size, 1, #[.int .i64 k, tv, .int .i64 n], rfl, hB, by show (w.heap.push _)[w.heap.size]? = _; simp, Nat.le_refl _, by unfold maxLen; omega, by simp, by simp [pcCs, pcC]⟩⟩, rfl, fun j p u hp hu => ?_, by unfold AptT; simp⟩
  match j, hp, hu with
  | 0, hp, hu => simp at hp hu; subst hp hu; exact ⟨ht.kept g (fun _ _ => by simp), fun b e e' => by have e2 : b = w.heap.size := (by simpa [Value.ownBlock] using e'); have := (ht.lt _ e).2; omega⟩
  | j + 1, hp, _ => simp at hp

/-- '[]byte(s)'. -/
theorem conv_mk (wl : List Int) (hb : Bys wl) (hn : wl.length ≤ 1000000000) (w : World) :
    ∃ cap w', (convert 9 22 (.string (strOfNums wl))).run Tryd.prog w = .ok (.slice (some ⟨w.heap.size, 0, none⟩) wl.length cap) w' ∧ TxG w.heap.size w' (.slice (some ⟨w.heap.size, 0, none⟩) wl.length cap) wl ∧ w.grownBy w' none ∧ w'.heap.size = w.heap.size + 1 := by
  have h := run_bytes_of_string (P := Tryd.prog) w 9 22 5 (strOfNums wl) Tryd.underlying9 Tryd.underlying22 Tryd.underlying5
  rw [strOfNums_size] at h
  have hg := grownCap_ge w wl.length 0 5
  have hs : (bytesRow (strOfNums wl) (grownCap w wl.length 0 5)).size = grownCap w wl.length 0 5 := by
    simp only [bytesRow, Array.size_append, Array.size_replicate, strOfNums, ByteArray.size, List.map_toArray, List.size_toArray, List.length_map]
    omega
  refine ⟨_, _, h, .inr ⟨w.heap.size, _, _, _, rfl, Nat.le_refl _, heap_alloc_new w.drew _, hs, hg, grownCap_le_maxLen _ _ _ _ (by unfold maxLen; omega), .inr (by rw [hs]), fun j hj => ?_⟩, ?_, by simp⟩
  · have hz := hb _ (List.getElem_mem hj)
    unfold bytesRow
    rw [Array.getElem?_append_left (by simp [strOfNums, hj])]
    simp [strOfNums, hj]
    omega
  · have gd : w.grownBy w.drew none := ⟨rfl, rfl, rfl, Nat.le_refl _, fun _ _ _ => rfl⟩
    exact grown_trans gd (World.grownBy_alloc _ _ _)

end Go.Proofs.YtgmjpdejfdldlaaDoor

