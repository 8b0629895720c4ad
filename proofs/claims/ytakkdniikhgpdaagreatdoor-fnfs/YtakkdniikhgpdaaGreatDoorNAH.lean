import Derived.Maps.AppendAt
import Derived.Test.YtakkdniikhgpdaaGreatDoorNAC
import Derived.Test.YtakkdniikhgpdaaGreatDoorNAG
namespace Go.Proofs.YtakkdniikhgpdaaGreatDoor
open Go.RowKit

theorem run_none_any {P : Program} {w : World} (base : Nat) (t ty e : TypeId) (i : TypeInfo) (size : Nat) (ht : P.underlying t = some (.slice e)) (hi : P.info? e = some i)
    (v : Value) (n : Nat) (xs : List Value) (hown : w.ownsRow base e size v n xs) (c : Nat) : (Builtin.append_ #[t, t] ty #[v, .slice none 0 c]).run P w = .ok v w := by
  rcases hown.2 with ⟨rfl, rfl⟩ | ⟨g, cap, cur, rfl, _, _, hnc, _⟩
  · simp [Builtin.append_, run_underlying ht, sizeOf, typeInfo, hi, Builtin.lenOf, Builtin.firstCells]
  · simp [Builtin.append_, run_underlying ht, sizeOf, typeInfo, hi, Builtin.lenOf, Builtin.firstCells, hnc, storeCells]

/-- 'append(v, t...)' of bytes that are read. -/
theorem append_text (B B' : Nat) (w : World) (v tv : Value) (ys t : List Int) (hown : OwB B w v ys) (hrd : RdB B' w tv t) (hB : B ≤ w.heap.size) (hn : ys.length + t.length ≤ 100000000000) :
    ∃ v' w', (Builtin.append_ #[22, 22] 22 #[v, tv]).run Tryz.prog w = .ok v' w' ∧ OwB B w' v' (ys ++ t) ∧ w.grownBy w' v.ownBlock ∧ (v'.ownBlock = v.ownBlock ∨ v'.ownBlock = some w.heap.size) := by
  obtain ⟨i0, hi, hz0, hz1, hz2⟩ := info_parts info5
  obtain ⟨a, cap, htv, hr⟩ := hrd
  subst htv
  cases a with
  | none =>
    have ht : t = [] := by
      rcases t with _ | ⟨z, zs⟩
      · rfl
      · obtain ⟨b, off, ha, _⟩ := hr (by simp); cases ha
    subst ht
    exact ⟨v, w, run_none_any B _ _ _ i0 1 Tryz.underlying22 hi v _ _ hown cap, by simpa using hown, World.grownBy.refl _ _, .inl rfl⟩
  | some ad =>
    have hnews : ∀ j u, (t.map (Value.int .u8))[j]? = some u → w.cell? (ad.add j) = some u := by
      intro j u hj
      have hjl : j < t.length := by have := (List.getElem?_eq_some_iff.1 hj).1; simpa using this
      obtain ⟨b2, off2, ha, _, hc⟩ := hr (fun e => by rw [e] at hjl; simp at hjl)
      cases ha
      rw [Addr.add_lit, hc j hjl]
      simpa [hjl] using hj
    obtain ⟨v', w', hrun, h1, h2, _, h4⟩ := run_append_own_at (P := Tryz.prog) w B 22 22 5 i0 (.int .u8 0) 1 1 Tryz.underlying22 hi hz0 hz1 hz2 rfl (by decide) v ys.length (ys.map (Value.int .u8)) hown ad t.length cap (t.map (Value.int .u8)) (by simp) hnews
      (by intro u hu; simp only [List.mem_map] at hu; obtain ⟨z, _, rfl⟩ := hu; rfl) (by unfold maxLen; omega) (by omega) hB
    exact ⟨v', w', hrun, by unfold OwB Ow; simpa using h1, h2, h4⟩

theorem wpList_append_known {P : Program} {w : World} {ops : Array Oper} {rest : List Oper} {o : Oper} {a : Act} {Q : Exit → Act → World → Prop} (hgd : o.guard = none) (s x : Operand) (t : TypeId)
    (ho : o.op = .call { callee := .builtin .append, args := #[s, x], argTypes := #[t, t] }) (v xv v' : Value) (w' : World) (hs : a.eval s = v) (hx : a.eval x = xv)
    (hrun : (Builtin.append_ #[t, t] o.type #[v, xv]).run P w = .ok v' w') (h : wpList P ops Q rest (a.put o.dst v') w') : wpList P ops Q (o :: rest) a w := by
  refine wpList_plain hgd fun K hK => ?_
  unfold Oper.wp
  simp only [execOp, ho, resolve, invoke, builtin, Sem.run_bind, Sem.run_pure, Result.andThen_ok, List.map_toArray, List.map_cons, List.map_nil, hs, hx, hrun]
  exact hK _ _ h

/-- What l2flat leaves. -/
def FlatEnds (B : Nat) (w : World) (r : Option (List Int)) (e : Ending) (w' : World) : Prop :=
  Below B w w' ∧ match r with
    | some o => ∃ v', e = .returned (.tuple #[v', .bool true]) ∧ OwB B w' v' o
    | none => e = .returned (.tuple #[.slice none 0 0, .bool false])

/-- The contract, for one tree. -/
def FlatSays (va sv : Value) (B : Nat) (doc : List Pc) (st : List Int) (T : Tr) (b : Nat) : Prop :=
  ∀ (w : World) (ov : Value) (out : List Int), B ≤ w.heap.size → RdP B w va doc → RdI B w sv st → OwB B w ov out → out.length + sz T ≤ 300000 →
    Calls Tryz.prog 86 #[va, sv, .int .i64 (b : Int), ov] w fun e w' => FlatEnds B w (flatT T out) e w'

theorem RdP.belowB {B : Nat} {w w' : World} {v : Value} {doc : List Pc} (h : RdP B w v doc) (hb : Below B w w') : RdP B w' v doc := by
  obtain ⟨a, cap, hv, h1, h2, hh⟩ := h
  refine ⟨a, cap, hv, h1, h2, fun h0 => ?_⟩
  obtain ⟨b, off, ha, hlt, hc⟩ := hh h0
  refine ⟨b, off, ha, hlt, fun j p hp => ?_⟩
  obtain ⟨tv, ht⟩ := hc j p hp
  refine ⟨tv, (hb.cell hlt).trans ht.k, (hb.cell hlt).trans ht.t, (hb.cell hlt).trans ht.n, ?_, ht.sl⟩
  obtain ⟨a2, cap2, hv2, hr2⟩ := ht.rd
  refine ⟨a2, cap2, hv2, fun h0 => ?_⟩
  obtain ⟨b2, off2, ha2, hb2, hc2⟩ := hr2 h0
  exact ⟨b2, off2, ha2, hb2, fun j hj => (hb.cell hb2).trans (hc2 j hj)⟩
theorem RdI.belowB {B : Nat} {w w' : World} {v : Value} {zs : List Int} (h : RdI B w v zs) (hb : Below B w w') : RdI B w' v zs := by
  obtain ⟨a2, cap2, hv2, hr2⟩ := h
  refine ⟨a2, cap2, hv2, fun h0 => ?_⟩
  obtain ⟨b2, off2, ha2, hb2, hc2⟩ := hr2 h0
  exact ⟨b2, off2, ha2, hb2, fun j hj => (hb.cell hb2).trans (hc2 j hj)⟩

set_option maxHeartbeats 2000000 in
set_option maxRecDepth 100000 in
theorem flat_leaf (va sv : Value) (B : Nat) (doc : List Pc) (st : List Int) (hd : Doc doc) (hall : ∀ p ∈ doc, pcOK p = true) (p : Pc) (a b : Nat) (hs : Seg doc st (.leaf p) a b) : FlatSays va sv B doc st (.leaf p) b := by
  intro w ov out hB hv hsv hov hsz
  have hdl := hd.len
  obtain ⟨rfl, hp, har, _⟩ := hs
  obtain ⟨hj, hpj⟩ := seg_at hp
  obtain ⟨sa, scap, hsva, _⟩ := id hsv
  obtain ⟨bl, off, cap, tv, hva, hb, hat⟩ := hv.at a hj
  rw [hpj] at hat
  have k0 := hat.k; have t0 := hat.t; have n0 := hat.n
  have hmem : p ∈ doc := by rw [← hpj]; exact List.getElem_mem hj
  have hpk := (pcOK_iff p).1 (hall p hmem)
  have hk5 : p.k = 0 ∨ p.k = 1 ∨ p.k = 2 ∨ p.k = 3 ∨ p.k = 4 ∨ p.k = 5 := by
    have h6 : ¬ (p.k = 6 ∨ p.k = 9) := by intro h; unfold ar at har; rw [if_pos h] at har; cases har
    have h7 : ¬ (p.k = 7 ∨ p.k = 8) := by intro h; unfold ar at har; rw [if_neg h6, if_pos h] at har; cases har
    have := hpk.1
    omega
  simp only [sz] at hsz
  have hg : w.grownBy (w.alloc (.cells #[.int .i64 p.k, tv, .int .i64 p.n] 156)) none := World.grownBy_alloc _ _ _
  have hovA : OwB B (w.alloc (.cells #[.int .i64 p.k, tv, .int .i64 p.n] 156)) ov out := hov.later hg
  have hBA : B ≤ (w.alloc (.cells #[.int .i64 p.k, tv, .int .i64 p.n] 156)).heap.size := Nat.le_trans hB hg.size
  have HBel : Hid (Below B w (w.alloc (.cells #[.int .i64 p.k, tv, .int .i64 p.n] 156))) := (Below.refl B w).grown hg hB (fun k e => by cases e)
  have happ := append_text B B _ ov tv out p.t hovA (hat.rd.keep hg) hBA (by omega)
  obtain ⟨ta, tcap, htv, _, _⟩ := hat.sl
  obtain ⟨oa, ocap, hova, _, _⟩ := row_form hov
  have HOv : Hid (OwB B (w.alloc (.cells #[.int .i64 p.k, tv, .int .i64 p.n] 156)) ov out) := hovA
  have hlt := World.ownsRow.lt hov
  clear hv hsv hat hpj hp har hmem hd hov hovA hall hpk
  subst htv hva hsva hova
  rw [show ((a + 1 : Nat) : Int) = (a : Int) + 1 by omega]
  by_cases hk : p.k = 0
  · have HF : Hid (flatT (.leaf p) out = some out) := by unfold Hid flatT; rw [if_pos (by omega)]
    have q0 : (p.k == 0) = true := by rw [hk]; rfl
    have q1 : (p.k == 1) = false := by rw [hk]; rfl
    have q2 : (p.k == 2) = false := by rw [hk]; rfl
    have q3 : (p.k == 3) = false := by rw [hk]; rfl
    have q4 : (p.k == 4) = false := by rw [hk]; rfl
    have q5 : (p.k == 5) = false := by rw [hk]; rfl
    have q6 : (p.k == 6) = false := by rw [hk]; rfl
    clear hk hk5 happ
    go_enter Tryz.func86, Tryz.ntmps86
    go_wp2
    go_ret2
    exact ⟨HBel.out, by rw [HF.out]; exact ⟨_, rfl, HOv.out⟩⟩
  by_cases hk : p.k = 3
  · have HF : Hid (flatT (.leaf p) out = some out) := by unfold Hid flatT; rw [if_pos (by omega)]
    have q0 : (p.k == 0) = false := by rw [hk]; rfl
    have q1 : (p.k == 1) = false := by rw [hk]; rfl
    have q2 : (p.k == 2) = false := by rw [hk]; rfl
    have q3 : (p.k == 3) = true := by rw [hk]; rfl
    have q4 : (p.k == 4) = false := by rw [hk]; rfl
    have q5 : (p.k == 5) = false := by rw [hk]; rfl
    have q6 : (p.k == 6) = false := by rw [hk]; rfl
    clear hk hk5 happ
    go_enter Tryz.func86, Tryz.ntmps86
    go_wp2
    go_ret2
    exact ⟨HBel.out, by rw [HF.out]; exact ⟨_, rfl, HOv.out⟩⟩
  by_cases hk : p.k = 4
  · have HF : Hid (flatT (.leaf p) out = none) := by unfold Hid flatT; rw [if_neg (by omega), if_neg (by omega), if_neg (by omega)]
    have q0 : (p.k == 0) = false := by rw [hk]; rfl
    have q1 : (p.k == 1) = false := by rw [hk]; rfl
    have q2 : (p.k == 2) = false := by rw [hk]; rfl
    have q3 : (p.k == 3) = false := by rw [hk]; rfl
    have q4 : (p.k == 4) = true := by rw [hk]; rfl
    have q5 : (p.k == 5) = false := by rw [hk]; rfl
    have q6 : (p.k == 6) = false := by rw [hk]; rfl
    clear hk hk5 happ
    go_enter Tryz.func86, Tryz.ntmps86
    go_wp2
    go_ret2
    exact ⟨HBel.out, by rw [HF.out]; rfl⟩
  by_cases hk : p.k = 5
  · have HF : Hid (flatT (.leaf p) out = none) := by unfold Hid flatT; rw [if_neg (by omega), if_neg (by omega), if_neg (by omega)]
    have q0 : (p.k == 0) = false := by rw [hk]; rfl
    have q1 : (p.k == 1) = false := by rw [hk]; rfl
    have q2 : (p.k == 2) = false := by rw [hk]; rfl
    have q3 : (p.k == 3) = false := by rw [hk]; rfl
    have q4 : (p.k == 4) = false := by rw [hk]; rfl
    have q5 : (p.k == 5) = true := by rw [hk]; rfl
    have q6 : (p.k == 6) = false := by rw [hk]; rfl
    clear hk hk5 happ
    go_enter Tryz.func86, Tryz.ntmps86
    go_wp2
    go_ret2
    exact ⟨HBel.out, by rw [HF.out]; rfl⟩
  by_cases hk : p.k = 1
  · have HF : Hid (flatT (.leaf p) out = some (out ++ p.t)) := by unfold Hid flatT; rw [if_neg (by omega), if_pos hk]
    have q0 : (p.k == 0) = false := by rw [hk]; rfl
    have q1 : (p.k == 1) = true := by rw [hk]; rfl
    have q2 : (p.k == 2) = false := by rw [hk]; rfl
    have q3 : (p.k == 3) = false := by rw [hk]; rfl
    have q4 : (p.k == 4) = false := by rw [hk]; rfl
    have q5 : (p.k == 5) = false := by rw [hk]; rfl
    have q6 : (p.k == 6) = false := by rw [hk]; rfl
    clear hk hk5
    obtain ⟨v', w', hrun, h1, h2, h3⟩ := happ
    have HO : Hid (OwB B w' v' (out ++ p.t)) := h1
    have HB2 : Hid (Below B w w') := HBel.out.grown h2 hBA (fun k e => (hlt k e).1)
    clear h1 h2 h3
    go_enter Tryz.func86, Tryz.ntmps86
    go_wp2_with (at_builtin; refine wpList_append_known rfl _ _ 22 rfl _ _ _ _ rfl rfl hrun ?_)
    go_ret2
    exact ⟨HB2.out, by rw [HF.out]; exact ⟨_, rfl, HO.out⟩⟩
  have hk : p.k = 2 := by omega
  have HF : Hid (flatT (.leaf p) out = some (out ++ [32])) := by unfold Hid flatT; rw [if_neg (by omega), if_neg (by omega), if_pos hk]
  have q0 : (p.k == 0) = false := by rw [hk]; rfl
  have q1 : (p.k == 1) = false := by rw [hk]; rfl
  have q2 : (p.k == 2) = true := by rw [hk]; rfl
  have q3 : (p.k == 3) = false := by rw [hk]; rfl
  have q4 : (p.k == 4) = false := by rw [hk]; rfl
  have q5 : (p.k == 5) = false := by rw [hk]; rfl
  have q6 : (p.k == 6) = false := by rw [hk]; rfl
  clear hk hk5 happ
  obtain ⟨i0, hi, hz0, hz1, hz2⟩ := info_parts info5
  have hrow := HOv.out
  go_enter Tryz.func86, Tryz.ntmps86
  go_wp2_with (at_builtin; refine wpList_append_own_at _ rfl _ _ 22 rfl B 5 i0 (.int .u8 0) 1 1 Tryz.underlying22 hi hz0 hz1 hz2 rfl (by decide) _ _ _ rfl (World.ownsRow.alloc hrow _) ⟨w.heap.size + 1, 0, none⟩ 1 1 [.int .u8 32] rfl rfl (by have := cell_one_new (w.alloc (.cells #[.int .i64 p.k, .slice ta p.t.length tcap, .int .i64 p.n] 156)) (.int .u8 32) 5; rw [World.size_alloc] at this; exact this) (by intro u hu; simp at hu; subst hu; rfl) (by unfold maxLen; omega) (by omega) (by simp; omega) ?_; intro v' w1 hown' hgrow _ hat)
  go_ret2
  obtain ⟨o2, b2⟩ := own_app (q := .u8) (xs := [32]) _ hBA hrow hown' (by simp) hgrow
  exact ⟨HBel.out.trans b2, by rw [HF.out]; exact ⟨_, rfl, o2⟩⟩

set_option maxHeartbeats 2000000 in
set_option maxRecDepth 100000 in
theorem flat_un (va sv : Value) (B : Nat) (doc : List Pc) (st : List Int) (hd : Doc doc) (p : Pc) (x : Tr) (a b : Nat) (hs : Seg doc st (.un p x) a b)
    (IHx : ∀ m, Seg doc st x a m → Hid (FlatSays va sv B doc st x m)) : FlatSays va sv B doc st (.un p x) b := by
  intro w ov out hB hv hsv hov hsz
  have hdl := hd.len
  obtain ⟨m, rfl, hp, har, _, hx⟩ := hs
  have IH := IHx m hx
  have hk' := ar1 har
  obtain ⟨hj, hpj⟩ := seg_at hp
  obtain ⟨sa, scap, hsva, _⟩ := id hsv
  obtain ⟨oa, ocap, hova, _, _⟩ := row_form hov
  obtain ⟨bl, off, cap, tv, hva, hb, hat⟩ := hv.at m hj
  rw [hpj] at hat
  have k0 := hat.k; have t0 := hat.t; have n0 := hat.n
  simp only [sz] at hsz
  have hg : w.grownBy (w.alloc (.cells #[.int .i64 p.k, tv, .int .i64 p.n] 156)) none := World.grownBy_alloc _ _ _
  have HBel : Hid (Below B w (w.alloc (.cells #[.int .i64 p.k, tv, .int .i64 p.n] 156))) := (Below.refl B w).grown hg hB (fun k e => by cases e)
  have IH2 := IH.out (w.alloc (.cells #[.int .i64 p.k, tv, .int .i64 p.n] 156)) ov out (Nat.le_trans hB hg.size) (hv.keep hg) (hsv.keep hg) (hov.later hg) (by omega)
  obtain ⟨ta, tcap, htv, _, _⟩ := hat.sl
  have HF : Hid (flatT (.un p x) out = flatT x out) := rfl
  have q0 : (p.k == 0) = false := by simp; omega
  have q1 : (p.k == 1) = false := by simp; omega
  have q2 : (p.k == 2) = false := by simp; omega
  have q3 : (p.k == 3) = false := by simp; omega
  have q4 : (p.k == 4) = false := by simp; omega
  have q5 : (p.k == 5) = false := by simp; omega
  have q6 : (p.k == 6) = false := by simp; omega
  clear hv hsv hat hpj hp har hx IHx IH hg hd hov hk'
  subst htv hva hsva hova
  rw [show ((m + 1 : Nat) : Int) = (m : Int) + 1 by omega]
  go_enter Tryz.func86, Tryz.ntmps86
  go_wp2_with fail
  refine IH2.mono ?_
  intro e w2 h2
  obtain ⟨b2, h3⟩ := h2
  cases hft : flatT x out with
  | none =>
    rw [hft] at h3
    simp only at h3
    subst h3
    have HB2 : Hid (Below B w w2) := HBel.out.trans b2
    have HN : Hid (flatT x out = none) := hft
    clear hft b2
    go_wp2
    go_ret2
    exact ⟨HB2.out, by rw [HF.out, HN.out]; rfl⟩
  | some o =>
    rw [hft] at h3
    obtain ⟨v', h4, h5⟩ := h3
    subst h4
    have HB2 : Hid (Below B w w2) := HBel.out.trans b2
    have HN : Hid (flatT x out = some o) := hft
    clear hft b2
    go_wp2
    go_ret2
    exact ⟨HB2.out, by rw [HF.out, HN.out]; exact ⟨_, rfl, h5⟩⟩

set_option maxHeartbeats 2000000 in
set_option maxRecDepth 100000 in
theorem flat_bin (va sv : Value) (B : Nat) (doc : List Pc) (st : List Int) (hd : Doc doc) (p : Pc) (x y : Tr) (a b : Nat) (hs : Seg doc st (.bin p x y) a b)
    (IH1' : ∀ m, Seg doc st x a m → Hid (FlatSays va sv B doc st x m)) (IH2' : ∀ c m, Seg doc st y c m → Hid (FlatSays va sv B doc st y m)) : FlatSays va sv B doc st (.bin p x y) b := by
  intro w ov out hB hv hsv hov hsz
  have hdl := hd.len
  obtain ⟨c, m0, rfl, hp, har, _, hx, hy⟩ := hs
  obtain ⟨m, rfl⟩ : ∃ m, m0 = m + 1 := ⟨m0 - 1, by have := hy.lt; omega⟩
  have hlast := hy.last
  simp only [Nat.add_sub_cancel] at hlast
  have IHy := IH2' c (m + 1) hy
  have IHx := IH1' c hx
  have hcm := hy.lt
  have hk' := ar2 har
  have hst := (List.getElem?_eq_some_iff.1 hlast).1
  obtain ⟨hj, hpj⟩ := seg_at hp
  obtain ⟨sb, soff, scap, hsva, hsc⟩ := rd_at hsv hlast
  obtain ⟨oa, ocap, hova, _, _⟩ := row_form hov
  simp only [sz] at hsz
  obtain ⟨bl, off, cap, tv, hva, hb, hat⟩ := hv.at (m + 1) hj
  rw [hpj] at hat
  have k0 := hat.k; have t0 := hat.t; have n0 := hat.n
  have hg : w.grownBy (w.alloc (.cells #[.int .i64 p.k, tv, .int .i64 p.n] 156)) none := World.grownBy_alloc _ _ _
  have HBel : Hid (Below B w (w.alloc (.cells #[.int .i64 p.k, tv, .int .i64 p.n] 156))) := (Below.refl B w).grown hg hB (fun k e => by cases e)
  have hBA : B ≤ (w.alloc (.cells #[.int .i64 p.k, tv, .int .i64 p.n] 156)).heap.size := Nat.le_trans hB hg.size
  have hscA : (w.alloc (.cells #[.int .i64 p.k, tv, .int .i64 p.n] 156)).cell? ⟨sb, soff + m, none⟩ = some (.int .i64 (c : Int)) := hg.cell hsc (by simp)
  have HV : Hid (RdP B (w.alloc (.cells #[.int .i64 p.k, tv, .int .i64 p.n] 156)) va doc) := hv.keep hg
  have HSV : Hid (RdI B (w.alloc (.cells #[.int .i64 p.k, tv, .int .i64 p.n] 156)) sv st) := hsv.keep hg
  have HOV : Hid (OwB B (w.alloc (.cells #[.int .i64 p.k, tv, .int .i64 p.n] 156)) ov out) := hov.later hg
  have hxl := fun o => flatT_len x out o
  obtain ⟨ta, tcap, htv, _, _⟩ := hat.sl
  have HF : Hid (flatT (.bin p x y) out = if p.k = 6 then (flatT x out).bind (flatT y) else flatT y out) := rfl
  have q0 : (p.k == 0) = false := by simp; omega
  have q1 : (p.k == 1) = false := by simp; omega
  have q2 : (p.k == 2) = false := by simp; omega
  have q3 : (p.k == 3) = false := by simp; omega
  have q4 : (p.k == 4) = false := by simp; omega
  have q5 : (p.k == 5) = false := by simp; omega
  have ht1 : (((m + 1 : Nat) : Int) + 1 - 2) = (m : Int) := by omega
  have ht2 : (((m + 1 : Nat) : Int) - 1) = (m : Int) := by omega
  have hcm2 : c ≤ m := by omega
  clear hv hsv hat hpj hp har hx hy IH1' IH2' hg hd hlast hsc hov hcm
  rw [show ((m + 1 + 1 : Nat) : Int) = ((m + 1 : Nat) : Int) + 1 by omega]
  generalize m + 1 = t at *
  rcases hk' with hk | hk
  · have q6 : (p.k == 6) = true := by rw [hk]; rfl
    have HF6 : Hid (flatT (.bin p x y) out = (flatT x out).bind (flatT y)) := by unfold Hid; rw [HF.out, if_pos hk]
    have IH2 := IHx.out (w.alloc (.cells #[.int .i64 p.k, tv, .int .i64 p.n] 156)) ov out hBA HV.out HSV.out HOV.out (by omega)
    clear hk HF
    subst htv hva hsva hova
    go_enter Tryz.func86, Tryz.ntmps86
    go_wp2_with fail
    refine IH2.mono ?_
    intro e w2 h2
    obtain ⟨b2, h3⟩ := h2
    have HB2 : Hid (Below B w w2) := HBel.out.trans b2
    cases hft : flatT x out with
    | none =>
      rw [hft] at h3
      simp only at h3
      subst h3
      have HN : Hid (flatT (.bin p x y) out = none) := by unfold Hid; rw [HF6.out, hft]; rfl
      clear hft b2 IH2 hxl
      go_wp2
      go_ret2
      exact ⟨HB2.out, by rw [HN.out]; rfl⟩
    | some o =>
      rw [hft] at h3
      obtain ⟨v', h4, h5⟩ := h3
      subst h4
      have hol := hxl o hft
      have HN : Hid (flatT (.bin p x y) out = flatT y o) := by unfold Hid; rw [HF6.out, hft]; rfl
      have IH3 := IHy.out w2 v' o (Nat.le_trans hBA b2.size) (HV.out.belowB b2) (RdI.belowB HSV.out b2) h5 (by omega)
      obtain ⟨va', vc', hv', _, _⟩ := row_form h5
      clear hft b2 IH2 hxl IHy IHx HV HSV HOV h5
      subst hv'
      go_wp2_with fail
      refine IH3.mono ?_
      intro e w3 h6
      obtain ⟨b3, h7⟩ := h6
      have HB3 : Hid (Below B w w3) := HB2.out.trans b3
      clear IH3
      cases hfy : flatT y o with
      | none =>
        rw [hfy] at h7
        simp only at h7
        subst h7
        have HM : Hid (flatT y o = none) := hfy
        clear hfy b3
        go_wp2
        go_ret2
        exact ⟨HB3.out, by rw [HN.out, HM.out]; rfl⟩
      | some o2 =>
        rw [hfy] at h7
        obtain ⟨v2, h8, h9⟩ := h7
        subst h8
        have HM : Hid (flatT y o = some o2) := hfy
        clear hfy b3
        go_wp2
        go_ret2
        exact ⟨HB3.out, by rw [HN.out, HM.out]; exact ⟨_, rfl, h9⟩⟩
  · have q6 : (p.k == 6) = false := by rw [hk]; rfl
    have HF9 : Hid (flatT (.bin p x y) out = flatT y out) := by unfold Hid; rw [HF.out, if_neg (by omega)]
    have IH3 := IHy.out (w.alloc (.cells #[.int .i64 p.k, tv, .int .i64 p.n] 156)) ov out hBA HV.out HSV.out HOV.out (by omega)
    clear hk HF IHx IHy HV HSV HOV hxl
    subst htv hva hsva hova
    go_enter Tryz.func86, Tryz.ntmps86
    go_wp2_with fail
    refine IH3.mono ?_
    intro e w3 h6
    obtain ⟨b3, h7⟩ := h6
    have HB3 : Hid (Below B w w3) := HBel.out.trans b3
    clear IH3
    cases hfy : flatT y out with
    | none =>
      rw [hfy] at h7
      simp only at h7
      subst h7
      have HM : Hid (flatT y out = none) := hfy
      clear hfy b3
      go_wp2
      go_ret2
      exact ⟨HB3.out, by rw [HF9.out, HM.out]; rfl⟩
    | some o2 =>
      rw [hfy] at h7
      obtain ⟨v2, h8, h9⟩ := h7
      subst h8
      have HM : Hid (flatT y out = some o2) := hfy
      clear hfy b3
      go_wp2
      go_ret2
      exact ⟨HB3.out, by rw [HF9.out, HM.out]; exact ⟨_, rfl, h9⟩⟩

theorem l2flat_any (va sv : Value) (B : Nat) (doc : List Pc) (st : List Int) (hd : Doc doc) (hall : ∀ p ∈ doc, pcOK p = true) :
    ∀ (T : Tr) (a b : Nat), Seg doc st T a b → FlatSays va sv B doc st T b
  | .leaf p, a, b, hs => flat_leaf va sv B doc st hd hall p a b hs
  | .un p x, a, b, hs => flat_un va sv B doc st hd p x a b hs (fun m hx => l2flat_any va sv B doc st hd hall x a m hx)
  | .bin p x y, a, b, hs => flat_bin va sv B doc st hd p x y a b hs (fun m hx => l2flat_any va sv B doc st hd hall x a m hx) (fun c m hy => l2flat_any va sv B doc st hd hall y c m hy)

end Go.Proofs.YtakkdniikhgpdaaGreatDoor

