import Derived.ProofKit
import Derived.OpenShut
import Derived.ChangeArms
import Derived.ChangeSame
import Derived.Deep.Slices
import Derived.Deep.Strs
import Derived.Handy
import Derived.Deep.RegionWith
import Derived.Test.YtalkhnhhaiigiaaGreatDoorMAA
import Derived.Test.YtalkhnhhaiigiaaGreatDoorMAH
import Derived.Test.YtalkhnhhaiigiaaGreatDoorMAO
import Derived.Test.YtalkhnhhaiigiaaGreatDoorMAT
import Derived.Test.YtalkhnhhaiigiaaGreatDoorMAW
import Derived.Test.YtalkhnhhaiigiaaGreatDoorMBS
import Derived.Test.YtalkhnhhaiigiaaGreatDoorMBU
import Derived.Test.YtalkhnhhaiigiaaGreatDoorMBV
namespace Go.Proofs.YtalkhnhhaiigiaaGreatDoor
open Go.ChangeShapes Go.WideShapes Go.ChangeAt Go.RowKit

/-- The integers of an int. -/
def I64s (zs : List Int) : Prop := ∀ z ∈ zs, (Lit.int .i64 z).wf = true
structure COk (c : Cm) : Prop where
  by' : Bys c.t
structure NBy (p : Nod) : Prop where
  k : (Lit.int .i64 p.k).wf = true
  cnt : (Lit.int .i64 p.cnt).wf = true
  lead : ∀ c ∈ p.lead, COk c
  key : I64s p.key
  text : Bys p.text
  units : I64s p.units
  tail : ∀ c ∈ p.tail, COk c

theorem cellsI_ : Tryz.prog.cellsOf 3 = 1 := by kernel_rfl
theorem cellsBo : Tryz.prog.cellsOf 4 = 1 := by kernel_rfl
theorem cellsLB : Tryz.prog.cellsOf 57 = 1 := by kernel_rfl
theorem cellsLI : Tryz.prog.cellsOf 66 = 1 := by kernel_rfl
theorem cellsLC : Tryz.prog.cellsOf 23 = 1 := by kernel_rfl
theorem cellsLN : Tryz.prog.cellsOf 22 = 1 := by kernel_rfl
theorem cellsC : Tryz.prog.cellsOf 71 = 2 := by kernel_rfl
theorem cellsN : Tryz.prog.cellsOf 68 = 8 := by kernel_rfl

theorem open_list {q : IntKind} {e t : TypeId} {H : Type} {enc : TypeId × Value → H} {W : World} {fuel : Nat} {v : Value} {x : DataW H × List MemPlace} (hu : Tryz.prog.underlying t = some (.slice e)) (he : Tryz.prog.underlying e = some (.int q)) (hc : Tryz.prog.cellsOf e = 1)
    (hf : DataW.trod enc Tryz.prog W 0 (fun _ => true) true fuel t [v] = some x) : ∃ zs : List Int, Rd q W.heap.size W v zs ∧ Sl v zs.length ∧ ∀ z ∈ zs, (Lit.int q z).wf = true := by
  rcases open_ints hu he hc hf with ⟨hv1, _⟩ | ⟨ax, l, c, zs, hv1, _, hl1, hm1, hz, _, hcz, hwz⟩
  · simp at hv1
    subst hv1
    exact ⟨[], ⟨none, 0, rfl, fun h => absurd rfl h⟩, ⟨none, 0, rfl, Nat.le_refl _, by unfold maxLen; omega⟩, fun z hz => by cases hz⟩
  · simp at hv1
    subst hv1
    simp only [if_true] at hz
    have hlen1 : (zs.take l).length = l := by rw [List.length_take]; omega
    refine ⟨zs.take l, ?_, ?_, ?_⟩
    · have := rd_of_row (q := q) ax (zs.take l) zs l c W rfl hlen1 (by omega) hcz
      rw [hlen1] at this
      exact this
    · exact ⟨some ax, c, by rw [hlen1], by rw [hlen1]; omega, hm1⟩
    · exact fun z hzm => hwz z (List.mem_of_mem_take hzm)

theorem len2' {α : Type} : ∀ {xs : List α}, xs.length = 2 → ∃ a b, xs = [a, b]
  | [a, b], _ => ⟨a, b, rfl⟩
  | [], h => by simp at h
  | [_], h => by simp at h
  | _ :: _ :: _ :: _, h => by simp at h
theorem len8 {α : Type} : ∀ {xs : List α}, xs.length = 8 → ∃ a b c d e f g h, xs = [a, b, c, d, e, f, g, h]
  | [a, b, c, d, e, f, g, h], _ => ⟨a, b, c, d, e, f, g, h, rfl⟩
  | [], h => by simp at h
  | [_], h => by simp at h
  | [_, _], h => by simp at h
  | [_, _, _], h => by simp at h
  | [_, _, _, _], h => by simp at h
  | [_, _, _, _, _], h => by simp at h
  | [_, _, _, _, _, _], h => by simp at h
  | [_, _, _, _, _, _, _], h => by simp at h
  | _ :: _ :: _ :: _ :: _ :: _ :: _ :: _ :: _ :: _, h => by simp at h

theorem open_comments {H : Type} {enc : TypeId × Value → H} {W : World} {fuel : Nat} {v : Value} {x : DataW H × List MemPlace}
    (hf : DataW.trod enc Tryz.prog W 0 (fun _ => true) true fuel 23 [v] = some x) : ∃ cs : List Cm, RdC W.heap.size W v cs ∧ ∀ p ∈ cs, COk p := by
  rcases Deep.open_slice Tryz.underlying23 hf with ⟨hcs, _⟩ | ⟨a, len0, cap0, m, n, D, Pl, hcs, _, hl, hm, hmm, _, hx⟩
  · simp at hcs
    subst hcs
    exact ⟨[], ⟨none, 0, rfl, Nat.le_refl _, by unfold maxLen; omega, fun h => absurd rfl h⟩, by simp⟩
  · simp at hcs
    subst hcs
    simp only [if_true] at hmm
    have each : ∀ i, i < len0 → ∃ q : Cm × Value, W.cell? (a.add (i * 2)) = some (.bool q.1.b) ∧ W.cell? (a.add (i * 2 + 1)) = some q.2 ∧ RdB W.heap.size W q.2 q.1.t ∧ Sl q.2 q.1.t.length ∧ COk q.1 := by
      intro i hi
      obtain ⟨cs', h1, h2⟩ := hx i (by omega)
      rw [cellsC] at h1
      obtain ⟨_, hlen, hcell⟩ := World.cells?_some h1
      obtain ⟨y0, y1, k, _, _, g0, g1⟩ := trod_struct2 Tryz.underlying71 h2
      obtain ⟨v0, v1, rfl⟩ := len2' hlen
      simp only [cellsBo, cellsLB, List.drop_zero, List.drop_succ_cons, List.take_succ_cons, List.take_zero] at g0 g1
      obtain ⟨z0, hz0, _⟩ := DataW.trod_bool Tryz.underlying4 g0
      simp at hz0
      subst hz0
      have e0 := hcell 0 (by omega)
      have e1 := hcell 1 (by omega)
      rw [Deep.add_add] at e0 e1
      simp at e0 e1
      obtain ⟨zs, r1, s1, b1⟩ := open_list Tryz.underlying57 Tryz.underlying5 (by kernel_rfl) g1
      exact ⟨(⟨z0, zs⟩, v1), e0, e1, r1, s1, ⟨fun z hz => bounds_u8 (b1 z hz)⟩⟩
    haveI : Inhabited (Cm × Value) := ⟨(⟨false, []⟩, .bool false)⟩
    obtain ⟨q, hq⟩ := Deep.choose_lt each
    refine ⟨(List.range len0).map fun i => (q i).1, ⟨some a, cap0, by simp, by simpa using hl, hm, fun h0 => ?_⟩, ?_⟩
    · have hpos : 0 < len0 := by
        rcases Nat.eq_zero_or_pos len0 with h | h
        · subst h; simp at h0
        · exact h
      obtain ⟨b, off, spot⟩ := a
      have hc0 := (hq 0 hpos).1
      have hspot : spot = none := by simpa [Addr.add] using World.cell?_spot hc0
      subst hspot
      refine ⟨b, off, rfl, by have := World.block_lt_of_cell? W _ hc0; simpa [Addr.add] using this, fun j p hp => ?_⟩
      have hj : j < len0 := by have := (List.getElem?_eq_some_iff.1 hp).1; simpa using this
      simp [hj] at hp
      subst hp
      obtain ⟨q0, q1, q3, q4, _⟩ := hq j hj
      rw [Addr.add_lit] at q0 q1
      exact ⟨(q j).2, q0, by simpa [Nat.add_assoc] using q1, q3, q4⟩
    · intro p hp
      simp only [List.mem_map, List.mem_range] at hp
      obtain ⟨i, hi, rfl⟩ := hp
      exact (hq i hi).2.2.2.2

structure NodIn (W : World) (a : Addr) (p : Nod) (lv kv xv uv tv : Value) : Prop where
  k : W.cell? a = some (.int .i64 p.k)
  lead : W.cell? (a.add 1) = some lv
  mem : W.cell? (a.add 2) = some (.bool p.mem)
  key : W.cell? (a.add 3) = some kv
  text : W.cell? (a.add 4) = some xv
  units : W.cell? (a.add 5) = some uv
  cnt : W.cell? (a.add 6) = some (.int .i64 p.cnt)
  tail : W.cell? (a.add 7) = some tv
  rl : RdC W.heap.size W lv p.lead
  rk : RdI W.heap.size W kv p.key
  sk : Sl kv p.key.length
  rx : RdB W.heap.size W xv p.text
  sx : Sl xv p.text.length
  ru : RdI W.heap.size W uv p.units
  su : Sl uv p.units.length
  rt : RdC W.heap.size W tv p.tail
  by' : NBy p

theorem open_node {H : Type} {enc : TypeId × Value → H} {W : World} {fuel : Nat} {a : Addr} {cs : List Value} {x : DataW H × List MemPlace} (h1 : W.cells? 0 a 8 = some cs)
    (h2 : DataW.trod enc Tryz.prog W 0 (fun _ => true) true fuel 68 cs = some x) : ∃ q : Nod × Value × Value × Value × Value × Value, NodIn W a q.1 q.2.1 q.2.2.1 q.2.2.2.1 q.2.2.2.2.1 q.2.2.2.2.2 := by
  obtain ⟨_, hlen, hcell⟩ := World.cells?_some h1
  obtain ⟨xs, n, _, _, _, hxl, hf⟩ := DataW.trod_struct Tryz.underlying68 h2
  obtain ⟨v0, v1, v2, v3, v4, v5, v6, v7, rfl⟩ := len8 hlen
  obtain ⟨y0, y1, y2, y3, y4, y5, y6, y7, rfl⟩ := len8 (by simpa using hxl)
  have g0 := hf 0 _ rfl
  change DataW.trod enc Tryz.prog W 0 (fun _ => true) true n 3 (List.take (Tryz.prog.cellsOf 3) (List.drop 0 [v0, v1, v2, v3, v4, v5, v6, v7])) = some y0 at g0
  rw [cellsI_] at g0
  change DataW.trod enc Tryz.prog W 0 (fun _ => true) true n 3 [v0] = some y0 at g0
  have g1 := hf 1 _ rfl
  change DataW.trod enc Tryz.prog W 0 (fun _ => true) true n 23 (List.take (Tryz.prog.cellsOf 23) (List.drop 1 [v0, v1, v2, v3, v4, v5, v6, v7])) = some y1 at g1
  rw [cellsLC] at g1
  change DataW.trod enc Tryz.prog W 0 (fun _ => true) true n 23 [v1] = some y1 at g1
  have g2 := hf 2 _ rfl
  change DataW.trod enc Tryz.prog W 0 (fun _ => true) true n 4 (List.take (Tryz.prog.cellsOf 4) (List.drop 2 [v0, v1, v2, v3, v4, v5, v6, v7])) = some y2 at g2
  rw [cellsBo] at g2
  change DataW.trod enc Tryz.prog W 0 (fun _ => true) true n 4 [v2] = some y2 at g2
  have g3 := hf 3 _ rfl
  change DataW.trod enc Tryz.prog W 0 (fun _ => true) true n 66 (List.take (Tryz.prog.cellsOf 66) (List.drop 3 [v0, v1, v2, v3, v4, v5, v6, v7])) = some y3 at g3
  rw [cellsLI] at g3
  change DataW.trod enc Tryz.prog W 0 (fun _ => true) true n 66 [v3] = some y3 at g3
  have g4 := hf 4 _ rfl
  change DataW.trod enc Tryz.prog W 0 (fun _ => true) true n 57 (List.take (Tryz.prog.cellsOf 57) (List.drop 4 [v0, v1, v2, v3, v4, v5, v6, v7])) = some y4 at g4
  rw [cellsLB] at g4
  change DataW.trod enc Tryz.prog W 0 (fun _ => true) true n 57 [v4] = some y4 at g4
  have g5 := hf 5 _ rfl
  change DataW.trod enc Tryz.prog W 0 (fun _ => true) true n 66 (List.take (Tryz.prog.cellsOf 66) (List.drop 5 [v0, v1, v2, v3, v4, v5, v6, v7])) = some y5 at g5
  rw [cellsLI] at g5
  change DataW.trod enc Tryz.prog W 0 (fun _ => true) true n 66 [v5] = some y5 at g5
  have g6 := hf 6 _ rfl
  change DataW.trod enc Tryz.prog W 0 (fun _ => true) true n 3 (List.take (Tryz.prog.cellsOf 3) (List.drop 6 [v0, v1, v2, v3, v4, v5, v6, v7])) = some y6 at g6
  rw [cellsI_] at g6
  change DataW.trod enc Tryz.prog W 0 (fun _ => true) true n 3 [v6] = some y6 at g6
  have g7 := hf 7 _ rfl
  change DataW.trod enc Tryz.prog W 0 (fun _ => true) true n 23 (List.take (Tryz.prog.cellsOf 23) (List.drop 7 [v0, v1, v2, v3, v4, v5, v6, v7])) = some y7 at g7
  rw [cellsLC] at g7
  change DataW.trod enc Tryz.prog W 0 (fun _ => true) true n 23 [v7] = some y7 at g7
  clear hf
  have e0 := hcell 0 (by omega)
  have e1 := hcell 1 (by omega)
  have e2 := hcell 2 (by omega)
  have e3 := hcell 3 (by omega)
  have e4 := hcell 4 (by omega)
  have e5 := hcell 5 (by omega)
  have e6 := hcell 6 (by omega)
  have e7 := hcell 7 (by omega)
  clear hcell h1 h2 hlen
  obtain ⟨z0, hz0, _, b0⟩ := DataW.trod_int Tryz.underlying3 g0
  obtain ⟨z2, hz2, _⟩ := DataW.trod_bool Tryz.underlying4 g2
  obtain ⟨z6, hz6, _, b6⟩ := DataW.trod_int Tryz.underlying3 g6
  simp at hz0 hz2 hz6
  subst hz0 hz2 hz6
  obtain ⟨lead, rl, bl⟩ := open_comments g1
  obtain ⟨tail, rt, bt⟩ := open_comments g7
  obtain ⟨key, rk, sk, bk⟩ := open_list Tryz.underlying66 Tryz.underlying3 (by kernel_rfl) g3
  obtain ⟨text, rx, sx, bx⟩ := open_list Tryz.underlying57 Tryz.underlying5 (by kernel_rfl) g4
  obtain ⟨units, ru, su, bu⟩ := open_list Tryz.underlying66 Tryz.underlying3 (by kernel_rfl) g5
  simp at e0 e1 e2 e3 e4 e5 e6 e7
  exact ⟨(⟨z0, lead, z2, key, text, units, z6, tail⟩, v1, v3, v4, v5, v7), ⟨by simpa [Addr.add] using e0, e1, e2, e3, e4, e5, e6, e7, rl, rk, sk, rx, sx, ru, su, rt, ⟨b0, b6, bl, bk, fun z hz => bounds_u8 (bx z hz), bu, bt⟩⟩⟩

theorem open_nodes {H : Type} {enc : TypeId × Value → H} {W : World} {fuel : Nat} {v : Value} {x : DataW H × List MemPlace}
    (hf : DataW.trod enc Tryz.prog W 0 (fun _ => true) true fuel 22 [v] = some x) : ∃ ns : List Nod, RdN W.heap.size W v ns ∧ ∀ p ∈ ns, NBy p := by
  rcases Deep.open_slice Tryz.underlying22 hf with ⟨hcs, _⟩ | ⟨a, len0, cap0, m, n, D, Pl, hcs, _, hl, hm, hmm, _, hx⟩
  · simp at hcs
    subst hcs
    exact ⟨[], ⟨none, 0, rfl, Nat.le_refl _, by unfold maxLen; omega, fun h => absurd rfl h⟩, by simp⟩
  · simp at hcs
    subst hcs
    simp only [if_true] at hmm
    have each : ∀ i, i < len0 → ∃ q : Nod × Value × Value × Value × Value × Value, NodIn W (a.add (i * 8)) q.1 q.2.1 q.2.2.1 q.2.2.2.1 q.2.2.2.2.1 q.2.2.2.2.2 := by
      intro i hi
      obtain ⟨cs', h1, h2⟩ := hx i (by omega)
      rw [cellsN] at h1
      exact open_node h1 h2
    haveI : Inhabited (Nod × Value × Value × Value × Value × Value) := ⟨(⟨0, [], false, [], [], [], 0, []⟩, .bool false, .bool false, .bool false, .bool false, .bool false)⟩
    obtain ⟨q, hq⟩ := Deep.choose_lt each
    refine ⟨(List.range len0).map fun i => (q i).1, ⟨some a, cap0, by simp, by simpa using hl, hm, fun h0 => ?_⟩, ?_⟩
    · have hpos : 0 < len0 := by
        rcases Nat.eq_zero_or_pos len0 with h | h
        · subst h; simp at h0
        · exact h
      obtain ⟨b, off, spot⟩ := a
      have hc0 := (hq 0 hpos).k
      have hspot : spot = none := by simpa [Addr.add] using World.cell?_spot hc0
      subst hspot
      refine ⟨b, off, rfl, by have := World.block_lt_of_cell? W _ hc0; simpa [Addr.add] using this, fun j p hp => ?_⟩
      have hj : j < len0 := by have := (List.getElem?_eq_some_iff.1 hp).1; simpa using this
      simp [hj] at hp
      subst hp
      have hn := hq j hj
      have c0 := hn.k; have c1 := hn.lead; have c2 := hn.mem; have c3 := hn.key; have c4 := hn.text; have c5 := hn.units; have c6 := hn.cnt; have c7 := hn.tail
      simp only [Addr.add_lit] at c0 c1 c2 c3 c4 c5 c6 c7
      exact ⟨_, _, _, _, _, ⟨c0, c1, c2, c3, c4, c5, c6, c7, hn.rl, hn.rk, hn.sk, hn.rx, hn.sx, hn.ru, hn.su, hn.rt⟩⟩
    · intro p hp
      simp only [List.mem_map, List.mem_range] at hp
      obtain ⟨i, hi, rfl⟩ := hp
      exact (hq i hi).by'

theorem open_tree {H : Type} {enc : TypeId × Value → H} {W : World} {fuel : Nat} {nv tv : Value} {x : DataW H × List MemPlace}
    (hf : DataW.trod enc Tryz.prog W 0 (fun _ => true) true fuel 25 [nv, tv] = some x) : ∃ t : Tre, RdT' W.heap.size W nv tv t ∧ (∀ p ∈ t.nodes, NBy p) ∧ ∀ c ∈ t.tail, COk c := by
  obtain ⟨y0, y1, n, _, _, g0, g1⟩ := trod_struct2 Tryz.underlying25 hf
  simp only [cellsLN, cellsLC, List.drop_zero, List.drop_succ_cons, List.take_succ_cons, List.take_zero] at g0 g1
  obtain ⟨ns, h1, h2⟩ := open_nodes g0
  obtain ⟨cs, h3, h4⟩ := open_comments g1
  exact ⟨⟨ns, cs⟩, ⟨h1, h3⟩, h2, h4⟩

end Go.Proofs.YtalkhnhhaiigiaaGreatDoor

namespace Go.Proofs.YtalkhnhhaiigiaaGreatDoor
open Go.RowKit

theorem szB_is {n : Nat} {l : Int} (h : ¬ szB n l < 0) : szB n l = l - n := by
  unfold szB at *
  by_cases a : l - n < 0
  · rw [if_pos a] at h; omega
  · rw [if_neg a]
theorem szCF_is : ∀ (cs : List Cm) (l : Int), ¬ szCF cs l < 0 → szCF cs l = l - sumC cs
  | [], l, _ => by simp [szCF, sumC]
  | c :: cs, l, h => by
    simp only [szCF, sumC] at *
    by_cases a : szB c.t.length l < 0
    · rw [if_pos a] at h; omega
    · rw [if_neg a] at h ⊢
      rw [szCF_is cs _ h, szB_is a]; omega
theorem szCs_is {cs : List Cm} {l : Int} (h : ¬ szCs cs l < 0) : szCs cs l = l - cs.length - sumC cs := by
  unfold szCs at *
  by_cases a : l - cs.length < 0
  · rw [if_pos a] at h; omega
  · rw [if_neg a] at h ⊢
    exact szCF_is cs _ h
theorem andB_is {l : Int} {f : Int → Int} (h : ¬ andB l f < 0) : ¬ l < 0 ∧ andB l f = f l ∧ ¬ f l < 0 := by
  by_cases a : l < 0
  · exfalso; apply h; unfold andB; rw [if_pos a]; omega
  · rw [andB_go a] at h ⊢; exact ⟨a, rfl, h⟩
theorem szNd_is {p : Nod} {l : Int} (h : ¬ szNd p l < 0) : szNd p l = l - nc p - nr p := by
  unfold szNd at *
  obtain ⟨h4, e4, k4⟩ := andB_is h
  obtain ⟨h3, e3, k3⟩ := andB_is h4
  obtain ⟨h2, e2, k2⟩ := andB_is h3
  obtain ⟨h1, e1, k1⟩ := andB_is h2
  have i1 := szCs_is h1
  have i2 := szB_is k1
  have i3 := szB_is k2
  have i4 := szB_is k3
  have i5 := szCs_is k4
  rw [e4, i5, e3, i4, e2, i3, e1, i2, i1]
  unfold nc nr
  omega
theorem szNF_is : ∀ (ns : List Nod) (l : Int), ¬ szNF ns l < 0 → szNF ns l = l - sumK ns - sumR ns
  | [], l, _ => by simp [szNF, sumK, sumR]
  | n :: ns, l, h => by
    simp only [szNF, sumK, sumR] at *
    by_cases a : szNd n l < 0
    · rw [if_pos a] at h; omega
    · rw [if_neg a] at h ⊢
      rw [szNF_is ns _ h, szNd_is a]; omega
theorem szTr_is {t : Tre} {l : Int} (h : ¬ szTr t l < 0) : szTr t l = l - t.nodes.length - sumK t.nodes - sumR t.nodes - t.tail.length - sumC t.tail := by
  unfold szTr at *
  obtain ⟨h1, e1, k1⟩ := andB_is h
  have i1 : szNs t.nodes l = l - t.nodes.length - sumK t.nodes - sumR t.nodes := by
    unfold szNs at *
    by_cases a : l - t.nodes.length < 0
    · rw [if_pos a] at h1; omega
    · rw [if_neg a] at h1 ⊢
      exact szNF_is _ _ h1
  rw [e1, szCs_is k1, i1]

theorem sumC_mem : ∀ (cs : List Cm) (c : Cm), c ∈ cs → (c.t.length : Int) ≤ sumC cs
  | x :: cs, c, h => by
    have := sumC_nonneg cs
    simp only [sumC]
    rcases List.mem_cons.1 h with rfl | h
    · omega
    · have := sumC_mem cs c h; omega
theorem sumR_mem : ∀ (ns : List Nod) (p : Nod), p ∈ ns → nr p ≤ sumR ns
  | x :: ns, p, h => by
    have := sumR_nonneg ns
    have := nr_nonneg x
    simp only [sumR]
    rcases List.mem_cons.1 h with rfl | h
    · omega
    · have := sumR_mem ns p h; omega
theorem sumK_mem : ∀ (ns : List Nod) (p : Nod), p ∈ ns → nc p ≤ sumK ns
  | x :: ns, p, h => by
    have := sumK_nonneg ns
    have := nc_nonneg x
    simp only [sumK]
    rcases List.mem_cons.1 h with rfl | h
    · omega
    · have := sumK_mem ns p h; omega

theorem tree_sizes (t : Tre) (h : ¬ szTr t 1048576 < 0) (hbn : ∀ p ∈ t.nodes, NBy p) (hbt : ∀ c ∈ t.tail, COk c) :
    TOk t ∧ TreOk t ∧ sumR t.nodes + sumC t.tail ≤ 1048576 ∧ sumK t.nodes + t.tail.length ≤ 1048576 := by
  have e := szTr_is h
  have a1 := sumR_nonneg t.nodes
  have a2 := sumK_nonneg t.nodes
  have a3 := sumC_nonneg t.tail
  have hN : ∀ p ∈ t.nodes, NOk p := fun p hp => by
    have b1 := sumR_mem t.nodes p hp
    have b2 := sumK_mem t.nodes p hp
    have c1 := sumC_nonneg p.lead
    have c2 := sumC_nonneg p.tail
    unfold nr at b1
    unfold nc at b2
    exact ⟨by omega, fun c hc => by have := sumC_mem _ c hc; omega, by omega, by omega, by omega, by omega, fun c hc => by have := sumC_mem _ c hc; omega⟩
  have hTs : ∀ c ∈ t.tail, c.t.length ≤ 1048576 := fun c hc => by have := sumC_mem _ c hc; omega
  refine ⟨⟨by omega, hN, by omega, hTs⟩, ⟨fun p hp => ?_, by omega, by omega, fun c hc => ⟨hTs c hc, (hbt c hc).by'⟩⟩, by omega, by omega⟩
  have hn := hN p hp
  have hb := hbn p hp
  refine ⟨⟨⟨hn.lead, fun c hc => ⟨hn.leads c hc, (hb.lead c hc).by'⟩⟩, ⟨hn.tail, fun c hc => ⟨hn.tails c hc, (hb.tail c hc).by'⟩⟩, hn.key, ⟨hn.text, hb.text⟩, hn.units⟩, ?_⟩
  have hc := hb.cnt
  simp only [Lit.wf, Bool.and_eq_true, decide_eq_true_eq] at hc
  have h1 : IntKind.i64.min = -9223372036854775808 := by decide
  have h2 : IntKind.i64.max = 9223372036854775807 := by decide
  omega

end Go.Proofs.YtalkhnhhaiigiaaGreatDoor

namespace Go.Proofs.YtalkhnhhaiigiaaGreatDoor
open Go.RowKit

set_option maxHeartbeats 1000000 in
set_option maxRecDepth 100000 in
theorem eqPiece_same (p : Pc) (ta tb : Value) (w : World) (ha : RdB w.heap.size w ta p.t) (hb : RdB w.heap.size w tb p.t) (hn : p.t.length ≤ 1048576) :
    Calls Tryz.prog 24 #[.agg #[.int .i64 p.k, ta, .int .i64 p.n], .agg #[.int .i64 p.k, tb, .int .i64 p.n]] w fun e w' => e = .returned (.bool true) ∧ w.grownBy w' none := by
  obtain ⟨a1, cap1, hva, _⟩ := id ha
  obtain ⟨a2, cap2, hvb, _⟩ := id hb
  have hg : ∀ o1 o2 : Obj, w.grownBy ((w.alloc o1).alloc o2) none := fun _ _ => grown_trans (World.grownBy_alloc _ _ _) (World.grownBy_alloc _ _ _)
  have hkk : (p.k != p.k) = false := by simp
  have hnn : (p.n != p.n) = false := by simp
  subst hva hvb
  go_enter Tryz.func24, Tryz.ntmps24
  go_wp2_with fail
  refine (eqByteS_any _ _ p.t p.t _ (ha.keep (hg _ _)).now (hb.keep (hg _ _)).now (by omega)).mono ?_
  rintro e w1 ⟨rfl, m, rfl⟩
  simp only [decide_true]
  go_wp2
  go_ret
  exact ⟨rfl, grown_drewN (hg _ _) m⟩

set_option maxHeartbeats 2000000 in
set_option maxRecDepth 100000 in
theorem eqPieceS_same (va vb : Value) (doc : List Pc) (w : World) (ha : RdP w.heap.size w va doc) (hb : RdP w.heap.size w vb doc) (hn : doc.length ≤ 1048576) (ht : ∀ p ∈ doc, p.t.length ≤ 1048576) :
    Calls Tryz.prog 8 #[va, vb] w fun e w' => e = .returned (.bool true) ∧ w.grownBy w' none := by
  obtain ⟨a1, cap1, hva, _⟩ := id ha
  obtain ⟨a2, cap2, hvb, _⟩ := id hb
  have hll : ((doc.length : Int) != (doc.length : Int)) = false := by simp
  subst hva hvb
  go_enter Tryz.func8, Tryz.ntmps8
  go_wp2
  go_loopw [5] (fun i wr => ∃ k : Nat, k ≤ doc.length ∧ i = .int .i64 k ∧ w.grownBy wr none) (fun i _ => doc.length - (intOf i).toNat)
  case atStart => exact ⟨0, Nat.zero_le _, rfl, World.grownBy.refl _ _⟩
  case round =>
    obtain ⟨k, hk, rfl, hgr⟩ := hrel
    by_cases hlt : k < doc.length
    · obtain ⟨b1, off1, cap1', tv1, hva1, hb1, hp1⟩ := (ha.keep hgr).at k hlt
      obtain ⟨b2, off2, cap2', tv2, hva2, hb2, hp2⟩ := (hb.keep hgr).at k hlt
      cases hva1
      cases hva2
      have k1 := hp1.k; have t1 := hp1.t; have n1 := hp1.n
      have k2 := hp2.k; have t2 := hp2.t; have n2 := hp2.n
      have rd1 := hp1.rd; have rd2 := hp2.rd
      obtain ⟨ta1, tcap1, htv1, _, _⟩ := hp1.sl
      obtain ⟨ta2, tcap2, htv2, _, _⟩ := hp2.sl
      have hpt := ht _ (List.getElem_mem hlt)
      have hgs := hgr.size
      clear ha hb hp1 hp2 ht
      subst htv1 htv2
      generalize doc[k] = p at k1 t1 n1 k2 t2 n2 rd1 rd2 hpt
      have H : Hid (∀ w' : World, wr.grownBy w' none → Calls Tryz.prog 24 #[.agg #[.int .i64 p.k, .slice ta1 p.t.length tcap1, .int .i64 p.n], .agg #[.int .i64 p.k, .slice ta2 p.t.length tcap2, .int .i64 p.n]] w' fun e w'' => e = .returned (.bool true) ∧ w'.grownBy w'' none) := by
        intro w' hg'
        exact eqPiece_same p _ _ w' (rd1.wide hgs |>.keep hg').now (rd2.wide hgs |>.keep hg').now hpt
      have HG : Hid (w.grownBy wr none) := hgr
      clear rd1 rd2 hgr
      go_wp2
      have HD : Hid (wr.grownBy wr.drew none) := ⟨rfl, rfl, rfl, Nat.le_refl _, fun _ _ _ => rfl⟩
      go_region_with (go_at_call 24; refine (H.out wr.drew HD.out).mono ?_; rintro e w1 ⟨rfl, g1⟩)
      all_goals
        go_wp2
        go_roundw
        case rel => exact ⟨k + 1, by omega, by go_num, grown_trans (grown_trans HG.out HD.out) g1⟩
        case measure => simp [intOf]; omega
    · go_wp2
      go_ret
      exact ⟨rfl, hgr⟩

end Go.Proofs.YtalkhnhhaiigiaaGreatDoor

namespace Go.Proofs.YtalkhnhhaiigiaaGreatDoor
open Go.RowKit

theorem wC_le : ∀ cs, (wC cs : Int) = 4 * sumC cs + 30 * cs.length
  | [] => by simp [wC, sumC]
  | c :: cs => by have := wC_le cs; simp only [wC, sumC, List.length_cons]; push_cast; omega
theorem wNs_le : ∀ ns, (wNs ns : Int) ≤ 100 * ns.length + 6 * sumR ns + 30 * sumK ns
  | [] => by simp [wNs, sumR, sumK]
  | n :: ns => by
    have h := wNs_le ns
    have h1 := wC_le n.lead
    have h2 := wC_le n.tail
    have h3 := sumC_nonneg n.lead
    have h4 := sumC_nonneg n.tail
    simp only [wNs, wN, sumR, sumK, nr, nc, List.length_cons]
    push_cast
    omega
theorem valid_doc (t : Tre) (ho : TreOk t) (h : validI t = true) : DocOk t ∧ (wNs t.nodes ≤ 2000000 ∧ wC t.tail ≤ 2000000 ∧ wNs t.nodes + wC t.tail ≤ 3000000) ∧ walkL triv 201 false (t.nodes, ()) = some ([], ()) := by
  rw [← validS_eq t ho] at h
  unfold validS at h
  simp only [Bool.and_eq_true, decide_eq_true_eq] at h
  obtain ⟨h1, h2, ⟨h3, h4⟩, h5, h6, h7⟩ := h
  have hend : ∀ R, endL t.nodes.length 201 false t.nodes = some R → R.length ≤ t.nodes.length := fun R hR => by
    obtain ⟨i, hi, rfl⟩ := end_suffix t.nodes.length 201 false t.nodes (Nat.le_refl _) 0 R (by simpa using hR)
    simp
  rw [place_len _ _ hend] at h7
  have hw := end_walk t.nodes.length 201 false t.nodes (Nat.le_refl _)
  rw [h7] at hw
  have a1 := sumR_nonneg t.nodes
  have a2 := sumK_nonneg t.nodes
  have a3 := sumC_nonneg t.tail
  have b1 := wC_le t.tail
  have b2 := wNs_le t.nodes
  rw [List.all_eq_true] at h6
  exact ⟨⟨h2, fun p hp => (nodeB_is p).1 (h6 p hp), fun p hp => (ho.n p hp).1, fun p hp => (ho.n p hp).2, by omega⟩, ⟨by omega, by omega, by omega⟩, hw.symm⟩
theorem sumT_mem : ∀ (ps : List Pc) (p : Pc), p ∈ ps → (p.t.length : Int) ≤ sumT ps
  | [], p, h => by simp at h
  | q :: ps, p, h => by
    simp only [sumT]
    rcases List.mem_cons.1 h with rfl | h
    · have := sumT_nonneg ps; omega
    · have := sumT_mem ps p h; omega
theorem bdR_small (vv : Bool) (ind : Int) (t : Tre) : (bdR vv ind t).1.length ≤ 1048576 ∧ ∀ p ∈ (bdR vv ind t).1, p.t.length ≤ 1048576 := by
  unfold bdR
  by_cases h : vv = true ∧ 0 ≤ ind ∧ ind ≤ 16
  · rw [if_pos h]
    by_cases hl : largeP (docP ind t) = true
    · rw [if_pos hl]; exact ⟨by simp, fun p hp => by simp at hp⟩
    · rw [if_neg hl]
      simp only [largeP, Bool.or_eq_true, decide_eq_true_eq, not_or] at hl
      exact ⟨by simp only; omega, fun p hp => by have := sumT_mem (docP ind t) p hp; omega⟩
  · rw [if_neg h]; exact ⟨by simp, fun p hp => by simp at hp⟩
end Go.Proofs.YtalkhnhhaiigiaaGreatDoor

