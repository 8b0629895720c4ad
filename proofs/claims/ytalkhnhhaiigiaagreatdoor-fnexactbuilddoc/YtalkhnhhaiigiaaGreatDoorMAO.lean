import Derived.Test.YtalkhnhhaiigiaaGreatDoorMAH
namespace Go.Proofs.YtalkhnhhaiigiaaGreatDoor
open Go.RowKit

/-- What is left of 'left' behind n; below nought: -1. -/
def szB (n : Nat) (left : Int) : Int := if left - n < 0 then -1 else left - n

set_option maxHeartbeats 400000 in
theorem szByteS_any (a : Option Addr) (n cap : Nat) (left : Int) (w : World) (hn : n ≤ 9223372036854775807) (h0 : 0 ≤ left) (h1 : left ≤ 1048576) :
    Calls Tryz.prog 59 #[.slice a n cap, .int .i64 left] w fun e w' => e = .returned (.int .i64 (szB n left)) ∧ w = w' := by
  by_cases h : left - n < 0
  · have HF : Hid (szB n left = -1) := by unfold Hid szB; rw [if_pos h]
    go_enter Tryz.func59, Tryz.ntmps59
    go_wp2
    go_ret
    exact ⟨by rw [HF.out]; rfl, rfl⟩
  · have HF : Hid (szB n left = left - n) := by unfold Hid szB; rw [if_neg h]
    go_enter Tryz.func59, Tryz.ntmps59
    go_wp2
    go_ret
    exact ⟨by rw [HF.out]; rfl, rfl⟩

theorem szB_bd (n : Nat) (left : Int) (h1 : left ≤ 1048576) : -1 ≤ szB n left ∧ szB n left ≤ 1048576 := by
  unfold szB; split <;> omega

set_option maxHeartbeats 400000 in
theorem szComment_any (k : Value) (a : Option Addr) (ln cap : Nat) (left : Int) (w : World) (hn : ln ≤ 9223372036854775807) (h0 : 0 ≤ left) (h1 : left ≤ 1048576) :
    Calls Tryz.prog 32 #[.agg #[k, .slice a ln cap], .int .i64 left] w fun e w' => e = .returned (.int .i64 (szB ln left)) ∧ w.grownBy w' none := by
  have hb := szB_bd ln left h1
  have hs := szByteS_any a ln cap left (w.alloc (Obj.cells #[k, Value.slice a ln cap] 71)) hn h0 h1
  generalize szB ln left = r at hb hs
  by_cases hr : r < 0
  · have hr1 : r = -1 := by omega
    subst hr1
    go_enter Tryz.func32, Tryz.ntmps32
    go_wp2_with fail
    refine hs.mono ?_
    rintro e w1 ⟨rfl, rfl⟩
    go_wp2
    go_ret
    exact ⟨rfl, World.grownBy_alloc _ _ _⟩
  · go_enter Tryz.func32, Tryz.ntmps32
    go_wp2_with fail
    refine hs.mono ?_
    rintro e w1 ⟨rfl, rfl⟩
    go_wp2
    go_ret
    exact ⟨rfl, World.grownBy_alloc _ _ _⟩

def szCF : List Cm → Int → Int
  | [], l => l
  | p :: ps, l => if szB p.t.length l < 0 then -1 else szCF ps (szB p.t.length l)
def szCs (doc : List Cm) (left : Int) : Int := if left - doc.length < 0 then -1 else szCF doc (left - doc.length)

theorem szCF_go (doc : List Cm) (k : Nat) (hk : k < doc.length) (l : Int) (h : ¬ szB doc[k].t.length l < 0) : szCF (doc.drop k) l = szCF (doc.drop (k + 1)) (szB doc[k].t.length l) := by
  rw [List.drop_eq_getElem_cons hk]; simp only [szCF]; rw [if_neg h]
theorem szCF_bad (doc : List Cm) (k : Nat) (hk : k < doc.length) (l : Int) (h : szB doc[k].t.length l < 0) : szCF (doc.drop k) l = -1 := by
  rw [List.drop_eq_getElem_cons hk]; simp only [szCF]; rw [if_pos h]

set_option maxHeartbeats 1000000 in
set_option maxRecDepth 100000 in
theorem szCommentS_any (v : Value) (doc : List Cm) (left : Int) (w : World) (hv : RdC w.heap.size w v doc) (h0 : 0 ≤ left) (h1 : left ≤ 1048576) :
    Calls Tryz.prog 14 #[v, .int .i64 left] w fun e w' => e = .returned (.int .i64 (szCs doc left)) ∧ w.grownBy w' none := by
  obtain ⟨a, cap, hv0, hcap, hmax, _⟩ := id hv
  unfold maxLen at hmax
  by_cases h : left - doc.length < 0
  · have HF : Hid (szCs doc left = -1) := by unfold Hid szCs; rw [if_pos h]
    subst hv0
    clear hv
    go_enter Tryz.func14, Tryz.ntmps14
    go_wp2
    go_ret
    exact ⟨by rw [HF.out]; rfl, World.grownBy.refl _ _⟩
  · have HF : Hid (szCs doc left = szCF doc (left - doc.length)) := by unfold Hid szCs; rw [if_neg h]
    subst hv0
    go_enter Tryz.func14, Tryz.ntmps14
    go_wp2
    go_loopw [1, 5] (fun lf i wr => ∃ (k : Nat) (l : Int), k ≤ doc.length ∧ i = .int .i64 k ∧ lf = .int .i64 l ∧ 0 ≤ l ∧ l ≤ 1048576 ∧ Hid (szCF (doc.drop k) l = szCs doc left) ∧ w.grownBy wr none)
      (fun _ i _ => doc.length - (intOf i).toNat)
    case atStart => exact ⟨0, left - doc.length, Nat.zero_le _, rfl, by go_num, by omega, by omega, by unfold Hid; rw [HF.out]; rfl, World.grownBy.refl _ _⟩
    case round =>
      obtain ⟨k, l, hk, rfl, rfl, hl0, hl1, HT, hgr⟩ := hrel
      by_cases hlt : k < doc.length
      · obtain ⟨b, off, cap', tv, hva, hb, hp⟩ := (hv.keep hgr).at k hlt
        cases hva
        have hk0 := hp.k; have ht0 := hp.t
        obtain ⟨ta, tcap, htv, htl, htm⟩ := hp.sl
        unfold maxLen at htm
        subst htv
        have hbd := szB_bd doc[k].t.length l hl1
        have hsz := szComment_any (.bool doc[k].b) ta doc[k].t.length tcap l wr (by omega) hl0 hl1
        have hT1 := szCF_go doc k hlt l
        have hT2 := szCF_bad doc k hlt l
        generalize szB doc[k].t.length l = r at hbd hsz hT1 hT2
        by_cases hr : r < 0
        · have hr1 : r = -1 := by omega
          have HR : Hid (szCs doc left = -1) := by unfold Hid; rw [← HT.out]; exact hT2 hr
          subst hr1
          clear hv hp hT1 hT2 HF HT
          go_wp2_with fail
          refine hsz.mono ?_
          rintro e w1 ⟨rfl, g1⟩
          go_wp2
          go_ret
          exact ⟨by rw [HR.out]; rfl, grown_trans hgr g1⟩
        · have HR : Hid (szCF (doc.drop (k + 1)) r = szCs doc left) := by unfold Hid; rw [← HT.out]; exact (hT1 hr).symm
          clear hv hp hT1 hT2 HF HT
          go_wp2_with fail
          refine hsz.mono ?_
          rintro e w1 ⟨rfl, g1⟩
          go_wp2
          go_roundw
          case rel => exact ⟨k + 1, r, by omega, by go_num, rfl, by omega, by omega, HR, grown_trans hgr g1⟩
          case measure => simp [intOf]; omega
      · have hkn : k = doc.length := by omega
        have HR : Hid (szCs doc left = l) := by unfold Hid; rw [← HT.out, hkn]; simp [szCF]
        clear hv HF HT
        go_wp2
        go_ret
        exact ⟨by rw [HR.out]; rfl, hgr⟩

end Go.Proofs.YtalkhnhhaiigiaaGreatDoor

namespace Go.Proofs.YtalkhnhhaiigiaaGreatDoor
open Go.RowKit

set_option maxHeartbeats 400000 in
theorem szIntS_any (a : Option Addr) (n cap : Nat) (left : Int) (w : World) (hn : n ≤ 9223372036854775807) (h0 : 0 ≤ left) (h1 : left ≤ 1048576) :
    Calls Tryz.prog 58 #[.slice a n cap, .int .i64 left] w fun e w' => e = .returned (.int .i64 (szB n left)) ∧ w = w' := by
  by_cases h : left - n < 0
  · have HF : Hid (szB n left = -1) := by unfold Hid szB; rw [if_pos h]
    go_enter Tryz.func58, Tryz.ntmps58
    go_wp2
    go_ret
    exact ⟨by rw [HF.out]; rfl, rfl⟩
  · have HF : Hid (szB n left = left - n) := by unfold Hid szB; rw [if_neg h]
    go_enter Tryz.func58, Tryz.ntmps58
    go_wp2
    go_ret
    exact ⟨by rw [HF.out]; rfl, rfl⟩

theorem szCF_bd : ∀ (cs : List Cm) (l : Int), 0 ≤ l → l ≤ 1048576 → -1 ≤ szCF cs l ∧ szCF cs l ≤ 1048576
  | [], l, h0, h1 => by simp only [szCF]; omega
  | c :: cs, l, h0, h1 => by
    have hb := szB_bd c.t.length l h1
    simp only [szCF]
    split
    · omega
    · exact szCF_bd cs _ (by omega) hb.2
theorem szCs_bd (cs : List Cm) (l : Int) (h0 : 0 ≤ l) (h1 : l ≤ 1048576) : -1 ≤ szCs cs l ∧ szCs cs l ≤ 1048576 := by
  unfold szCs
  split
  · omega
  · exact szCF_bd cs _ (by omega) (by omega)

/-- One step of a size: nothing where nothing was left. -/
def andB (l : Int) (f : Int → Int) : Int := if l < 0 then -1 else f l
theorem andB_go {l : Int} {f : Int → Int} (h : ¬ l < 0) : andB l f = f l := if_neg h
def szNd (p : Nod) (left : Int) : Int := andB (andB (andB (andB (szCs p.lead left) (szB p.key.length)) (szB p.text.length)) (szB p.units.length)) (szCs p.tail)

/-- The cells of a node that was laid for a call. -/
theorem node_cells {w w1 : World} {a b c d e f g h : Value} {t : TypeId} (hg : (w.alloc (.cells #[a, b, c, d, e, f, g, h] t)).grownBy w1 none) :
    w1.cell? ⟨w.heap.size, 0, none⟩ = some a ∧ w1.cell? ⟨w.heap.size, 1, none⟩ = some b ∧ w1.cell? ⟨w.heap.size, 2, none⟩ = some c ∧ w1.cell? ⟨w.heap.size, 3, none⟩ = some d ∧
    w1.cell? ⟨w.heap.size, 4, none⟩ = some e ∧ w1.cell? ⟨w.heap.size, 5, none⟩ = some f ∧ w1.cell? ⟨w.heap.size, 6, none⟩ = some g ∧ w1.cell? ⟨w.heap.size, 7, none⟩ = some h :=
  ⟨hg.cell (by simp [go_sem]) (by simp), hg.cell (by simp [go_sem]) (by simp), hg.cell (by simp [go_sem]) (by simp), hg.cell (by simp [go_sem]) (by simp),
    hg.cell (by simp [go_sem]) (by simp), hg.cell (by simp [go_sem]) (by simp), hg.cell (by simp [go_sem]) (by simp), hg.cell (by simp [go_sem]) (by simp)⟩

set_option maxHeartbeats 2000000 in
set_option maxRecDepth 100000 in
theorem szNode_any (p : Nod) (lv kv xv uv tv : Value) (left : Int) (w : World) (rl : RdC w.heap.size w lv p.lead) (sk : Sl kv p.key.length) (sx : Sl xv p.text.length) (su : Sl uv p.units.length) (rt : RdC w.heap.size w tv p.tail) (h0 : 0 ≤ left) (h1 : left ≤ 1048576) :
    Calls Tryz.prog 31 #[.agg #[.int .i64 p.k, lv, .bool p.mem, kv, xv, uv, .int .i64 p.cnt, tv], .int .i64 left] w fun e w' => e = .returned (.int .i64 (szNd p left)) ∧ w.grownBy w' none := by
  obtain ⟨la, lcap, hlv, _, _, _⟩ := id rl
  obtain ⟨ta, tcap, htv, _, _, _⟩ := id rt
  obtain ⟨ka, kcap, hkv, hk1, hk2⟩ := sk
  obtain ⟨xa, xcap, hxv, hx1, hx2⟩ := sx
  obtain ⟨ua, ucap, huv, hu1, hu2⟩ := su
  unfold maxLen at hk2 hx2 hu2
  have gA := World.grownBy_alloc w (.cells #[.int .i64 p.k, lv, .bool p.mem, kv, xv, uv, .int .i64 p.cnt, tv] 68) none
  have HL := hide (szCommentS_any lv p.lead left _ ((rl.keep gA).wide gA.size) h0 h1)
  have HT := hide (fun W l (h : (w.alloc (.cells #[.int .i64 p.k, lv, .bool p.mem, kv, xv, uv, .int .i64 p.cnt, tv] 68)).grownBy W none) (a : 0 ≤ l) (b : l ≤ 1048576) => szCommentS_any tv p.tail l W ((rt.keep (grown_trans gA h)).wide (grown_trans gA h).size) a b)
  have HG := hide gA
  have HS : Hid (szNd p left = andB (andB (andB (andB (szCs p.lead left) (szB p.key.length)) (szB p.text.length)) (szB p.units.length)) (szCs p.tail)) := rfl
  have b1 := szCs_bd p.lead left h0 h1
  generalize szCs p.lead left = l1 at HL HS b1
  subst hlv htv hkv hxv huv
  clear rl rt gA
  by_cases c1 : l1 < 0
  · have HZ : Hid (szNd p left = -1) := by rw [Hid, HS.out]; simp [andB, c1]
    clear HS
    go_enter Tryz.func31, Tryz.ntmps31
    go_wp2_with fail
    refine HL.out.mono ?_
    rintro e w1 ⟨rfl, g1⟩
    go_wp2
    go_ret
    exact ⟨by rw [HZ.out]; rfl, grown_trans HG.out g1⟩
  have HS1 : Hid (szNd p left = andB (andB (andB (szB p.key.length l1) (szB p.text.length)) (szB p.units.length)) (szCs p.tail)) := by rw [Hid, HS.out, andB_go c1]
  have HK := hide (fun W => szIntS_any ka p.key.length kcap l1 W (by omega) (by omega) b1.2)
  have b2 := szB_bd p.key.length l1 b1.2
  clear HS
  generalize szB p.key.length l1 = l2 at HK HS1 b2
  by_cases c2 : l2 < 0
  · have HZ : Hid (szNd p left = -1) := by rw [Hid, HS1.out]; simp [andB, c2]
    clear HS1
    go_enter Tryz.func31, Tryz.ntmps31
    go_wp2_with fail
    refine HL.out.mono ?_
    rintro e w1 ⟨rfl, g1⟩
    obtain ⟨z0, z1, z2, z3, z4, z5, z6, z7⟩ := node_cells g1
    go_wp2_with fail
    refine (HK.out _).mono ?_
    rintro e w2 ⟨rfl, rfl⟩
    go_wp2
    go_ret
    exact ⟨by rw [HZ.out]; rfl, grown_trans HG.out g1⟩
  have HS2 : Hid (szNd p left = andB (andB (szB p.text.length l2) (szB p.units.length)) (szCs p.tail)) := by rw [Hid, HS1.out, andB_go c2]
  have HX := hide (fun W => szByteS_any xa p.text.length xcap l2 W (by omega) (by omega) b2.2)
  have b3 := szB_bd p.text.length l2 b2.2
  clear HS1
  generalize szB p.text.length l2 = l3 at HX HS2 b3
  by_cases c3 : l3 < 0
  · have HZ : Hid (szNd p left = -1) := by rw [Hid, HS2.out]; simp [andB, c3]
    clear HS2
    go_enter Tryz.func31, Tryz.ntmps31
    go_wp2_with fail
    refine HL.out.mono ?_
    rintro e w1 ⟨rfl, g1⟩
    obtain ⟨z0, z1, z2, z3, z4, z5, z6, z7⟩ := node_cells g1
    go_wp2_with fail
    refine (HK.out _).mono ?_
    rintro e w2 ⟨rfl, rfl⟩
    go_wp2_with fail
    refine (HX.out _).mono ?_
    rintro e w2 ⟨rfl, rfl⟩
    go_wp2
    go_ret
    exact ⟨by rw [HZ.out]; rfl, grown_trans HG.out g1⟩
  have HS3 : Hid (szNd p left = andB (szB p.units.length l3) (szCs p.tail)) := by rw [Hid, HS2.out, andB_go c3]
  have HU := hide (fun W => szIntS_any ua p.units.length ucap l3 W (by omega) (by omega) b3.2)
  have b4 := szB_bd p.units.length l3 b3.2
  clear HS2
  generalize szB p.units.length l3 = l4 at HU HS3 b4
  by_cases c4 : l4 < 0
  · have HZ : Hid (szNd p left = -1) := by rw [Hid, HS3.out]; simp [andB, c4]
    clear HS3
    go_enter Tryz.func31, Tryz.ntmps31
    go_wp2_with fail
    refine HL.out.mono ?_
    rintro e w1 ⟨rfl, g1⟩
    obtain ⟨z0, z1, z2, z3, z4, z5, z6, z7⟩ := node_cells g1
    go_wp2_with fail
    refine (HK.out _).mono ?_
    rintro e w2 ⟨rfl, rfl⟩
    go_wp2_with fail
    refine (HX.out _).mono ?_
    rintro e w2 ⟨rfl, rfl⟩
    go_wp2_with fail
    refine (HU.out _).mono ?_
    rintro e w2 ⟨rfl, rfl⟩
    go_wp2
    go_ret
    exact ⟨by rw [HZ.out]; rfl, grown_trans HG.out g1⟩
  have HS4 : Hid (szNd p left = szCs p.tail l4) := by rw [Hid, HS3.out, andB_go c4]
  have b5 := szCs_bd p.tail l4 (by omega) b4.2
  clear HS3
  have HTt := hide (fun W h => HT.out W l4 h (by omega) b4.2)
  clear HT
  generalize szCs p.tail l4 = l5 at HTt HS4 b5
  have HZ : Hid (szNd p left = l5) := HS4.out
  clear HS4
  by_cases c5 : l5 < 0
  · have e5 : l5 = -1 := by omega
    subst e5
    go_enter Tryz.func31, Tryz.ntmps31
    go_wp2_with fail
    refine HL.out.mono ?_
    rintro e w1 ⟨rfl, g1⟩
    obtain ⟨z0, z1, z2, z3, z4, z5, z6, z7⟩ := node_cells g1
    go_wp2_with fail
    refine (HK.out _).mono ?_
    rintro e w2 ⟨rfl, rfl⟩
    go_wp2_with fail
    refine (HX.out _).mono ?_
    rintro e w2 ⟨rfl, rfl⟩
    go_wp2_with fail
    refine (HU.out _).mono ?_
    rintro e w2 ⟨rfl, rfl⟩
    go_wp2_with fail
    refine (HTt.out _ g1).mono ?_
    rintro e w2 ⟨rfl, g2⟩
    go_wp2
    go_ret
    exact ⟨by rw [HZ.out]; rfl, grown_trans HG.out (grown_trans g1 g2)⟩
  · go_enter Tryz.func31, Tryz.ntmps31
    go_wp2_with fail
    refine HL.out.mono ?_
    rintro e w1 ⟨rfl, g1⟩
    obtain ⟨z0, z1, z2, z3, z4, z5, z6, z7⟩ := node_cells g1
    go_wp2_with fail
    refine (HK.out _).mono ?_
    rintro e w2 ⟨rfl, rfl⟩
    go_wp2_with fail
    refine (HX.out _).mono ?_
    rintro e w2 ⟨rfl, rfl⟩
    go_wp2_with fail
    refine (HU.out _).mono ?_
    rintro e w2 ⟨rfl, rfl⟩
    go_wp2_with fail
    refine (HTt.out _ g1).mono ?_
    rintro e w2 ⟨rfl, g2⟩
    go_wp2
    go_ret
    exact ⟨by rw [HZ.out]; rfl, grown_trans HG.out (grown_trans g1 g2)⟩

end Go.Proofs.YtalkhnhhaiigiaaGreatDoor

namespace Go.Proofs.YtalkhnhhaiigiaaGreatDoor
open Go.RowKit

theorem szNd_bd (p : Nod) (l : Int) (h0 : 0 ≤ l) (h1 : l ≤ 1048576) : -1 ≤ szNd p l ∧ szNd p l ≤ 1048576 := by
  have b1 := szCs_bd p.lead l h0 h1
  unfold szNd
  generalize szCs p.lead l = l1 at b1
  have b2 : -1 ≤ andB l1 (szB p.key.length) ∧ andB l1 (szB p.key.length) ≤ 1048576 := by
    unfold andB; split
    · omega
    · exact szB_bd _ _ b1.2
  generalize andB l1 (szB p.key.length) = l2 at b2
  have b3 : -1 ≤ andB l2 (szB p.text.length) ∧ andB l2 (szB p.text.length) ≤ 1048576 := by
    unfold andB; split
    · omega
    · exact szB_bd _ _ b2.2
  generalize andB l2 (szB p.text.length) = l3 at b3
  have b4 : -1 ≤ andB l3 (szB p.units.length) ∧ andB l3 (szB p.units.length) ≤ 1048576 := by
    unfold andB; split
    · omega
    · exact szB_bd _ _ b3.2
  generalize andB l3 (szB p.units.length) = l4 at b4
  unfold andB; split
  · omega
  · exact szCs_bd _ _ (by omega) b4.2

def szNF : List Nod → Int → Int
  | [], l => l
  | p :: ps, l => if szNd p l < 0 then -1 else szNF ps (szNd p l)
def szNs (doc : List Nod) (left : Int) : Int := if left - doc.length < 0 then -1 else szNF doc (left - doc.length)

theorem szNF_go (doc : List Nod) (k : Nat) (hk : k < doc.length) (l : Int) (h : ¬ szNd doc[k] l < 0) : szNF (doc.drop k) l = szNF (doc.drop (k + 1)) (szNd doc[k] l) := by
  rw [List.drop_eq_getElem_cons hk]; simp only [szNF]; rw [if_neg h]
theorem szNF_bad (doc : List Nod) (k : Nat) (hk : k < doc.length) (l : Int) (h : szNd doc[k] l < 0) : szNF (doc.drop k) l = -1 := by
  rw [List.drop_eq_getElem_cons hk]; simp only [szNF]; rw [if_pos h]

set_option maxHeartbeats 1000000 in
set_option maxRecDepth 100000 in
theorem szNodeS_any (v : Value) (doc : List Nod) (left : Int) (w : World) (hv : RdN w.heap.size w v doc) (h0 : 0 ≤ left) (h1 : left ≤ 1048576) :
    Calls Tryz.prog 13 #[v, .int .i64 left] w fun e w' => e = .returned (.int .i64 (szNs doc left)) ∧ w.grownBy w' none := by
  obtain ⟨a, cap, hv0, hcap, hmax, _⟩ := id hv
  unfold maxLen at hmax
  by_cases h : left - doc.length < 0
  · have HF : Hid (szNs doc left = -1) := by unfold Hid szNs; rw [if_pos h]
    subst hv0
    clear hv
    go_enter Tryz.func13, Tryz.ntmps13
    go_wp2
    go_ret
    exact ⟨by rw [HF.out]; rfl, World.grownBy.refl _ _⟩
  · have HF : Hid (szNs doc left = szNF doc (left - doc.length)) := by unfold Hid szNs; rw [if_neg h]
    subst hv0
    go_enter Tryz.func13, Tryz.ntmps13
    go_wp2
    go_loopw [1, 5] (fun lf i wr => ∃ (k : Nat) (l : Int), k ≤ doc.length ∧ i = .int .i64 k ∧ lf = .int .i64 l ∧ 0 ≤ l ∧ l ≤ 1048576 ∧ Hid (szNF (doc.drop k) l = szNs doc left) ∧ w.grownBy wr none)
      (fun _ i _ => doc.length - (intOf i).toNat)
    case atStart => exact ⟨0, left - doc.length, Nat.zero_le _, rfl, by go_num, by omega, by omega, by unfold Hid; rw [HF.out]; rfl, World.grownBy.refl _ _⟩
    case round =>
      obtain ⟨k, l, hk, rfl, rfl, hl0, hl1, HT, hgr⟩ := hrel
      by_cases hlt : k < doc.length
      · obtain ⟨b, off, cap', lv, kv, xv, uv, tv, hva, hb, hp⟩ := (hv.keep hgr).at k hlt
        cases hva
        have z0 := hp.k; have z1 := hp.lead; have z2 := hp.mem; have z3 := hp.key; have z4 := hp.text; have z5 := hp.units; have z6 := hp.cnt; have z7 := hp.tail
        have hbd := szNd_bd doc[k] l hl0 hl1
        have hsz := hide (szNode_any doc[k] lv kv xv uv tv l wr (hp.rl.wide hgr.size) hp.sk hp.sx hp.su (hp.rt.wide hgr.size) hl0 hl1)
        obtain ⟨la, lcap, hlv, _, _⟩ := hp.rl.sl
        obtain ⟨ta, tcap, htv, _, _⟩ := hp.rt.sl
        obtain ⟨ka, kcap, hkv, _, _⟩ := hp.sk
        obtain ⟨xa, xcap, hxv, _, _⟩ := hp.sx
        obtain ⟨ua, ucap, huv, _, _⟩ := hp.su
        subst hlv htv hkv hxv huv
        have hT1 := szNF_go doc k hlt l
        have hT2 := szNF_bad doc k hlt l
        generalize szNd doc[k] l = r at hbd hsz hT1 hT2
        by_cases hr : r < 0
        · have hr1 : r = -1 := by omega
          have HR : Hid (szNs doc left = -1) := by unfold Hid; rw [← HT.out]; exact hT2 hr
          subst hr1
          clear hv hp hT1 hT2 HF HT
          go_wp2_with fail
          refine hsz.out.mono ?_
          rintro e w1 ⟨rfl, g1⟩
          go_wp2
          go_ret
          exact ⟨by rw [HR.out]; rfl, grown_trans hgr g1⟩
        · have HR : Hid (szNF (doc.drop (k + 1)) r = szNs doc left) := by unfold Hid; rw [← HT.out]; exact (hT1 hr).symm
          clear hv hp hT1 hT2 HF HT
          go_wp2_with fail
          refine hsz.out.mono ?_
          rintro e w1 ⟨rfl, g1⟩
          go_wp2
          go_roundw
          case rel => exact ⟨k + 1, r, by omega, by go_num, rfl, by omega, by omega, HR, grown_trans hgr g1⟩
          case measure => simp [intOf]; omega
      · have hkn : k = doc.length := by omega
        have HR : Hid (szNs doc left = l) := by unfold Hid; rw [← HT.out, hkn]; simp [szNF]
        clear hv HF HT
        go_wp2
        go_ret
        exact ⟨by rw [HR.out]; rfl, hgr⟩

theorem szNF_bd : ∀ (ns : List Nod) (l : Int), 0 ≤ l → l ≤ 1048576 → -1 ≤ szNF ns l ∧ szNF ns l ≤ 1048576
  | [], l, h0, h1 => by simp only [szNF]; omega
  | p :: ns, l, h0, h1 => by
    have hb := szNd_bd p l h0 h1
    simp only [szNF]
    split
    · omega
    · exact szNF_bd ns _ (by omega) hb.2
theorem szNs_bd (ns : List Nod) (l : Int) (h0 : 0 ≤ l) (h1 : l ≤ 1048576) : -1 ≤ szNs ns l ∧ szNs ns l ≤ 1048576 := by
  unfold szNs
  split
  · omega
  · exact szNF_bd ns _ (by omega) (by omega)

/-- A tree. -/
structure Tre where
  nodes : List Nod
  tail : List Cm
/-- The value v is a tree; all lies below block B. -/
def RdT' (B : Nat) (w : World) (nv tv : Value) (t : Tre) : Prop := RdN B w nv t.nodes ∧ RdC B w tv t.tail
def szTr (t : Tre) (l : Int) : Int := andB (szNs t.nodes l) (szCs t.tail)

set_option maxHeartbeats 1000000 in
set_option maxRecDepth 100000 in
theorem szTree_any (nv tv : Value) (t : Tre) (left : Int) (w : World) (h : RdT' w.heap.size w nv tv t) (h0 : 0 ≤ left) (h1 : left ≤ 1048576) :
    Calls Tryz.prog 4 #[.agg #[nv, tv], .int .i64 left] w fun e w' => e = .returned (.int .i64 (szTr t left)) ∧ w.grownBy w' none := by
  obtain ⟨rn, rt⟩ := h
  obtain ⟨na, ncap, hnv, _, _, _⟩ := id rn
  obtain ⟨ta, tcap, htv, _, _, _⟩ := id rt
  have gA := World.grownBy_alloc w (.cells #[nv, tv] 25) none
  have HN := hide (szNodeS_any nv t.nodes left _ ((rn.keep gA).wide gA.size) h0 h1)
  have HT := hide (fun W l (h : (w.alloc (.cells #[nv, tv] 25)).grownBy W none) (a : 0 ≤ l) (b : l ≤ 1048576) => szCommentS_any tv t.tail l W ((rt.keep (grown_trans gA h)).wide (grown_trans gA h).size) a b)
  have HG := hide gA
  have HS : Hid (szTr t left = andB (szNs t.nodes left) (szCs t.tail)) := rfl
  have b1 := szNs_bd t.nodes left h0 h1
  generalize szNs t.nodes left = l1 at HN HS b1
  subst hnv htv
  clear rn rt gA
  by_cases c1 : l1 < 0
  · have HZ : Hid (szTr t left = -1) := by rw [Hid, HS.out]; simp [andB, c1]
    go_enter Tryz.func4, Tryz.ntmps4
    go_wp2_with fail
    refine HN.out.mono ?_
    rintro e w1 ⟨rfl, g1⟩
    go_wp2
    go_ret
    exact ⟨by rw [HZ.out]; rfl, grown_trans HG.out g1⟩
  have HS1 : Hid (szTr t left = szCs t.tail l1) := by rw [Hid, HS.out, andB_go c1]
  have b2 := szCs_bd t.tail l1 (by omega) b1.2
  have HTt := hide (fun W h => HT.out W l1 h (by omega) b1.2)
  clear HT HS
  generalize szCs t.tail l1 = l2 at HTt HS1 b2
  by_cases c2 : l2 < 0
  · have e2 : l2 = -1 := by omega
    subst e2
    go_enter Tryz.func4, Tryz.ntmps4
    go_wp2_with fail
    refine HN.out.mono ?_
    rintro e w1 ⟨rfl, g1⟩
    have z1 := g1.cell (a := ⟨w.heap.size, 1, none⟩) (v := .slice ta t.tail.length tcap) (by simp [go_sem]) (by simp)
    go_wp2_with fail
    refine (HTt.out _ g1).mono ?_
    rintro e w2 ⟨rfl, g2⟩
    go_wp2
    go_ret
    exact ⟨by rw [HS1.out]; rfl, grown_trans HG.out (grown_trans g1 g2)⟩
  · go_enter Tryz.func4, Tryz.ntmps4
    go_wp2_with fail
    refine HN.out.mono ?_
    rintro e w1 ⟨rfl, g1⟩
    have z1 := g1.cell (a := ⟨w.heap.size, 1, none⟩) (v := .slice ta t.tail.length tcap) (by simp [go_sem]) (by simp)
    go_wp2_with fail
    refine (HTt.out _ g1).mono ?_
    rintro e w2 ⟨rfl, g2⟩
    go_wp2
    go_ret
    exact ⟨by rw [HS1.out]; rfl, grown_trans HG.out (grown_trans g1 g2)⟩

end Go.Proofs.YtalkhnhhaiigiaaGreatDoor

