import Derived.Test.YtgmjpdejfdldlaaDoorMBD
namespace Go.Proofs.YtgmjpdejfdldlaaDoor

/-! The drawn documents, as plain functions of the code. -/

def wordW : List (List Int) := [[97], [98, 98], [99, 99, 99], [], [119, 111, 114, 100], [195, 169], [230, 151, 165, 230, 156, 172], [120, 44], [40], [41]]
theorem word_bd : ∀ n : Nat, n < 10 → (wordW.getD n []).length ≤ 6 ∧ (wordW.getD n []).all (fun z => decide (0 ≤ z ∧ z ≤ 255)) = true := by decide
theorem word_bys (n : Nat) : Bys (wordW.getD n []) := by
  by_cases h : n < 10
  · intro z hz
    have := List.all_eq_true.1 (word_bd n h).2 z hz
    simpa using this
  · rw [List.getD_eq_getElem?_getD, List.getElem?_eq_none (by simp [wordW]; omega)]
    intro z hz
    simp at hz
theorem word_len (n : Nat) : (wordW.getD n []).length ≤ 6 := by
  by_cases h : n < 10
  · exact (word_bd n h).1
  · rw [List.getD_eq_getElem?_getD, List.getElem?_eq_none (by simp [wordW]; omega)]; simp

def dTxt (zs : List Int) (i : Nat) : List Pc × Nat := (textP (wordW.getD ((nx zs i).1 % 10).toNat []), (nx zs i).2)
def lf7 (c : Int) : Int := if c = 0 then 4 else if c = 1 then 5 else if c = 2 then 0 else 3
def dDoc (zs : List Int) : Nat → Nat → List Pc × Nat
  | 0, i => dTxt zs (nx zs i).2
  | d + 1, i =>
    if (nx zs i).1 % 20 < 3 ∨ (nx zs i).2 = zs.length then dTxt zs (nx zs i).2
    else if (nx zs i).1 % 20 < 6 then (leafP 2, (nx zs i).2)
    else if (nx zs i).1 % 20 = 6 then (leafP 3, (nx zs i).2)
    else if (nx zs i).1 % 20 = 7 then (leafP (lf7 ((nx zs (nx zs i).2).1 % 5)), (nx zs (nx zs i).2).2)
    else if (nx zs i).1 % 20 < 13 then ((dDoc zs d (nx zs i).2).1 ++ (dDoc zs d (dDoc zs d (nx zs i).2).2).1 ++ [⟨6, [], 0⟩], (dDoc zs d (dDoc zs d (nx zs i).2).2).2)
    else if (nx zs i).1 % 20 < 17 then ((dDoc zs d (nx zs i).2).1 ++ [⟨8, [], 0⟩], (dDoc zs d (nx zs i).2).2)
    else if (nx zs i).1 % 20 < 19 then ((dDoc zs d (nx zs (nx zs i).2).2).1 ++ [⟨7, [], (nx zs (nx zs i).2).1 % 5⟩], (dDoc zs d (nx zs (nx zs i).2).2).2)
    else ((dDoc zs d (nx zs i).2).1 ++ (dDoc zs d (dDoc zs d (nx zs i).2).2).1 ++ [⟨9, [], 0⟩], (dDoc zs d (dDoc zs d (nx zs i).2).2).2)

/-- What holds of a drawn document. -/
structure DOk (zs : List Int) (m : Nat) (x : List Pc × Nat) : Prop where
  pl : x.2 ≤ zs.length
  ms : mes x.1 ≤ m
  ne : x.1 ≠ []
  by' : ∀ p ∈ x.1, Bys p.t
  nb : ∀ p ∈ x.1, 0 ≤ p.n ∧ p.n ≤ 4
theorem bys_nil : Bys [] := fun z hz => by simp at hz
theorem DOk.leaf {zs : List Int} {i m : Nat} (k : Int) (hi : i ≤ zs.length) (hm : 1 ≤ m) : DOk zs m (leafP k, i) := ⟨hi, by simpa [leafP, mes] using hm, by simp [leafP], fun p hp => by simp [leafP] at hp; subst hp; exact bys_nil, fun p hp => by simp [leafP] at hp; subst hp; simp⟩
theorem dTxt_ok {zs : List Int} {i m : Nat} (hi : i ≤ zs.length) (hm : 7 ≤ m) : DOk zs m (dTxt zs i) := by
  refine ⟨nx_le hi, ?_, by simp [dTxt, textP], fun p hp => ?_, fun p hp => by simp [dTxt, textP] at hp; subst hp; simp⟩
  · have := word_len ((nx zs i).1 % 10).toNat
    simp only [dTxt, textP, mes]
    omega
  · simp only [dTxt, textP, List.mem_singleton] at hp
    subst hp
    exact word_bys _
theorem DOk.un {zs : List Int} {m m' : Nat} {x : List Pc × Nat} (h : DOk zs m x) (k n : Int) (hm : m + 1 ≤ m') (hn : 0 ≤ n ∧ n ≤ 4) : DOk zs m' (x.1 ++ [⟨k, [], n⟩], x.2) := by
  refine ⟨h.pl, ?_, by simp, fun p hp => ?_, fun p hp => ?_⟩
  · have := h.ms
    simp only [mes_app, mes, List.length_nil]
    omega
  · rcases List.mem_append.1 hp with hp | hp
    · exact h.by' p hp
    · simp only [List.mem_singleton] at hp; subst hp; exact bys_nil
  · rcases List.mem_append.1 hp with hp | hp
    · exact h.nb p hp
    · simp only [List.mem_singleton] at hp; subst hp; exact hn
theorem DOk.bin {zs : List Int} {m m1 m' : Nat} {x y : List Pc × Nat} (h : DOk zs m x) (h' : DOk zs m1 y) (k : Int) (hm : m + m1 + 1 ≤ m') : DOk zs m' (x.1 ++ y.1 ++ [⟨k, [], 0⟩], y.2) := by
  refine ⟨h'.pl, ?_, by simp, fun p hp => ?_, fun p hp => ?_⟩
  · have := h.ms; have := h'.ms
    simp only [mes_app, mes, List.length_nil]
    omega
  · rcases List.mem_append.1 hp with hp | hp
    · rcases List.mem_append.1 hp with hp | hp
      · exact h.by' p hp
      · exact h'.by' p hp
    · simp only [List.mem_singleton] at hp; subst hp; exact bys_nil
  · rcases List.mem_append.1 hp with hp | hp
    · rcases List.mem_append.1 hp with hp | hp
      · exact h.nb p hp
      · exact h'.nb p hp
    · simp only [List.mem_singleton] at hp; subst hp; simp
theorem dDoc_ok (zs : List Int) : ∀ (d i : Nat), i ≤ zs.length → DOk zs (8 * 2 ^ d - 1) (dDoc zs d i)
  | 0, i, hi => by
    simp only [dDoc]
    exact dTxt_ok (nx_le hi) (by decide)
  | d + 1, i, hi => by
    have hp : 2 ^ d ≥ 1 := Nat.one_le_two_pow
    have hs : 2 ^ (d + 1) = 2 * 2 ^ d := by rw [Nat.pow_succ]; omega
    have h1 := nx_le hi
    have h2 := nx_le h1
    have hx := dDoc_ok zs d (nx zs i).2 h1
    have hy := dDoc_ok zs d _ hx.pl
    have hz := dDoc_ok zs d _ h2
    unfold dDoc
    split
    · exact dTxt_ok h1 (by omega)
    · split
      · exact DOk.leaf _ h1 (by omega)
      · split
        · exact DOk.leaf _ h1 (by omega)
        · split
          · exact DOk.leaf _ h2 (by omega)
          · split
            · exact hx.bin hy _ (by omega)
            · split
              · exact hx.un _ _ (by omega) (by omega)
              · split
                · exact hz.un _ _ (by omega) (by omega)
                · exact hx.bin hy _ (by omega)

/-- A row of drawn documents, at most m more of them. -/
def gdPut (k : Int) (ds : List Pc) : List Pc := if k = 0 then ds ++ [⟨8, [], 0⟩] else if k = 1 then ds ++ [⟨7, [], 2⟩] else ds
def gdStep (zs : List Int) (s : List Pc × Nat) : List Pc × Nat :=
  (gdPut ((nx zs (dDoc zs 5 s.2).2).1 % 8) (s.1 ++ (dDoc zs 5 s.2).1 ++ [⟨6, [], 0⟩]), (nx zs (dDoc zs 5 s.2).2).2)
def gdMore (zs : List Int) : Nat → List Pc × Nat → List Pc × Nat
  | 0, s => s
  | m + 1, s => if s.2 + 2 < zs.length then gdMore zs m (gdStep zs s) else s
def gdGood (zs : List Int) (i : Nat) : List Pc × Nat := gdMore zs 12 (dDoc zs 6 i)
theorem gdStep_ok {zs : List Int} {m : Nat} {s : List Pc × Nat} (h : DOk zs m s) : DOk zs (m + 257) (gdStep zs s) := by
  have hy := dDoc_ok zs 5 s.2 h.pl
  have hb := h.bin hy 6 (m' := m + 256) (by omega)
  have hl := nx_le hy.pl
  have hb' : DOk zs (m + 256) (s.1 ++ (dDoc zs 5 s.2).1 ++ [⟨6, [], 0⟩], (nx zs (dDoc zs 5 s.2).2).2) := ⟨hl, hb.ms, hb.ne, hb.by', hb.nb⟩
  unfold gdStep gdPut
  split
  · exact hb'.un 8 0 (by omega) (by omega)
  · split
    · exact hb'.un 7 2 (by omega) (by omega)
    · exact ⟨hb'.pl, Nat.le_trans hb'.ms (by omega), hb'.ne, hb'.by', hb'.nb⟩
theorem gdMore_ok {zs : List Int} : ∀ (n : Nat) {m : Nat} {s : List Pc × Nat}, DOk zs m s → DOk zs (m + 257 * n) (gdMore zs n s)
  | 0, m, s, h => by simpa [gdMore] using h
  | n + 1, m, s, h => by
    unfold gdMore
    split
    · have := gdMore_ok n (gdStep_ok h)
      exact ⟨this.pl, Nat.le_trans this.ms (by omega), this.ne, this.by', this.nb⟩
    · exact ⟨h.pl, Nat.le_trans h.ms (by omega), h.ne, h.by', h.nb⟩
theorem gdGood_ok {zs : List Int} {i : Nat} (hi : i ≤ zs.length) : DOk zs 3600 (gdGood zs i) := by
  have := gdMore_ok 12 (dDoc_ok zs 6 i hi)
  exact ⟨this.pl, Nat.le_trans this.ms (by decide), this.ne, this.by', this.nb⟩

/-- One element turned. -/
def setP (ps : List Pc) (j : Nat) (f : Pc → Pc) : List Pc := match ps[j]? with | some p => ps.set j (f p) | none => ps
def spoilK (ps : List Pc) (k : Int) (j : Nat) (c : Int) : List Pc :=
  if k = 0 then setP ps j fun p => ⟨10, p.t, p.n⟩
  else if k = 1 then setP ps j fun p => ⟨-1, p.t, p.n⟩
  else if k = 2 then setP ps j fun p => ⟨c % 10, p.t, p.n⟩
  else if k = 3 then setP ps j fun p => ⟨p.k, p.t, p.n + 1⟩
  else if k = 4 then setP ps j fun p => ⟨7, p.t, 3999 + c % 3⟩
  else if k = 5 then setP ps j fun p => ⟨p.k, p.t ++ [10], p.n⟩
  else if k = 6 then setP ps j fun p => ⟨p.k, p.t ++ [195], p.n⟩
  else if k = 7 then ps.take (ps.length - 1)
  else if k = 8 then ps ++ [⟨6, [], 0⟩]
  else if k = 9 then ps ++ [⟨0, [], 0⟩]
  else if k = 10 then setP ps j fun p => ⟨p.k, p.t, -1⟩
  else []
def spoilD (zs : List Int) (ps : List Pc) (i : Nat) : List Pc := spoilK ps ((nx zs i).1 % 12) ((nx zs (nx zs i).2).1 % ps.length).toNat (nx zs (nx zs (nx zs i).2).2).1
def dAny (zs : List Int) (i : Nat) : List Pc := if (nx zs i).1 % 12 < 2 then spoilD zs (gdGood zs (nx zs i).2).1 (gdGood zs (nx zs i).2).2 else (gdGood zs (nx zs i).2).1
def dWid (k : Int) : Int := if k = 250 then -1 else if 250 < k then 65535 - 252 + k else k % 40
/-- What is drawn: the document and the width. -/
def dLay (code : List Int) : List Pc × Int := (dAny (code.take 500) (nx (code.take 500) 0).2, dWid (nx (code.take 500) 0).1)

/-- What the law may know of a drawn document. -/
def PsOk (ps : List Pc) : Prop := mes ps ≤ 3700 ∧ ∀ p ∈ ps, Bys p.t
theorem mes_set (f : Pc → Pc) (hf : ∀ p, (f p).t.length ≤ p.t.length + 1) : ∀ (ps : List Pc) (j : Nat), mes (setP ps j f) ≤ mes ps + 1
  | [], j => by simp [setP]
  | p :: ps, 0 => by have := hf p; simp only [setP, List.getElem?_cons_zero, List.set_cons_zero, mes]; omega
  | p :: ps, j + 1 => by
    have := mes_set f hf ps j
    unfold setP at this ⊢
    simp only [List.getElem?_cons_succ]
    split
    · rename_i q hq
      rw [hq] at this
      simp only [List.set_cons_succ, mes] at this ⊢
      omega
    · omega
theorem mem_setP {f : Pc → Pc} {ps : List Pc} {j : Nat} {q : Pc} (h : q ∈ setP ps j f) : q ∈ ps ∨ ∃ p ∈ ps, q = f p := by
  unfold setP at h
  split at h
  · rename_i p hp
    rcases List.mem_or_eq_of_mem_set h with h | h
    · exact .inl h
    · exact .inr ⟨p, List.mem_of_getElem? hp, h⟩
  · exact .inl h
theorem PsOk.set {ps : List Pc} (h : mes ps ≤ 3600 ∧ ∀ p ∈ ps, Bys p.t) (j : Nat) (f : Pc → Pc) (hf : ∀ p, (f p).t.length ≤ p.t.length + 1) (hb : ∀ p, Bys p.t → Bys (f p).t) : PsOk (setP ps j f) := by
  have := mes_set f hf ps j
  refine ⟨by omega, fun q hq => ?_⟩
  rcases mem_setP hq with hq | ⟨p, hp, rfl⟩
  · exact h.2 q hq
  · exact hb p (h.2 p hp)
theorem mes_take : ∀ (ps : List Pc) (k : Nat), mes (ps.take k) ≤ mes ps
  | [], k => by simp
  | p :: ps, 0 => by simp [mes]
  | p :: ps, k + 1 => by have := mes_take ps k; simp only [List.take_succ_cons, mes]; omega
theorem PsOk.snoc {ps : List Pc} (h : mes ps ≤ 3600 ∧ ∀ p ∈ ps, Bys p.t) (k n : Int) : PsOk (ps ++ [⟨k, [], n⟩]) := by
  refine ⟨by rw [mes_app]; simp only [mes, List.length_nil]; omega, fun p hp => ?_⟩
  rcases List.mem_append.1 hp with hp | hp
  · exact h.2 p hp
  · simp only [List.mem_singleton] at hp; subst hp; exact bys_nil
theorem bys_one {t : List Int} (h : Bys t) (z : Int) (h0 : 0 ≤ z) (h1 : z ≤ 255) : Bys (t ++ [z]) := fun y hy => by
  rcases List.mem_append.1 hy with hy | hy
  · exact h y hy
  · simp only [List.mem_singleton] at hy; subst hy; exact ⟨h0, h1⟩
theorem spoilD_ok {zs : List Int} {ps : List Pc} (i : Nat) (h : mes ps ≤ 3600 ∧ ∀ p ∈ ps, Bys p.t) : PsOk (spoilD zs ps i) := by
  unfold spoilD
  generalize (nx zs i).1 % 12 = k
  generalize ((nx zs (nx zs i).2).1 % (ps.length : Int)).toNat = j
  generalize (nx zs (nx zs (nx zs i).2).2).1 = c
  unfold spoilK
  split
  · exact PsOk.set h _ _ (fun p => by simp) (fun p hp => hp)
  split
  · exact PsOk.set h _ _ (fun p => by simp) (fun p hp => hp)
  split
  · exact PsOk.set h _ _ (fun p => by simp) (fun p hp => hp)
  split
  · exact PsOk.set h _ _ (fun p => by simp) (fun p hp => hp)
  split
  · exact PsOk.set h _ _ (fun p => by simp) (fun p hp => hp)
  split
  · exact PsOk.set h _ _ (fun p => by simp) (fun p hp => bys_one hp _ (by omega) (by omega))
  split
  · exact PsOk.set h _ _ (fun p => by simp) (fun p hp => bys_one hp _ (by omega) (by omega))
  split
  · have := mes_take ps (ps.length - 1)
    exact ⟨by omega, fun p hp => h.2 p (List.mem_of_mem_take hp)⟩
  split
  · exact PsOk.snoc h _ _
  split
  · exact PsOk.snoc h _ _
  split
  · exact PsOk.set h _ _ (fun p => by simp) (fun p hp => hp)
  · exact ⟨by simp [mes], fun p hp => by simp at hp⟩
theorem dAny_ok {zs : List Int} {i : Nat} (hi : i ≤ zs.length) : PsOk (dAny zs i) := by
  have := gdGood_ok (nx_le hi)
  unfold dAny
  split
  · exact spoilD_ok _ ⟨this.ms, this.by'⟩
  · exact ⟨Nat.le_trans this.ms (by omega), this.by'⟩

end Go.Proofs.YtgmjpdejfdldlaaDoor

namespace Go.Proofs.YtgmjpdejfdldlaaDoor
open Go.RowKit

set_option maxHeartbeats 1000000 in
set_option maxRecDepth 100000 in
theorem l2leaf_any (k : Int) (w : World) :
    Calls Tryd.prog 72 #[.int .i64 k] w fun e w' => ∃ v', e = .returned v' ∧ PoT w.heap.size w' v' (leafP k) ∧ w.grownBy w' none := by
  go_enter Tryd.func72, Tryd.ntmps72
  go_wp2
  go_ret
  exact ⟨_, rfl, one_pcT w k 0 _ [] _ (Nat.le_refl _) (TxG.nil _ _), World.grownBy_alloc _ _ _⟩

set_option maxHeartbeats 1000000 in
set_option maxRecDepth 100000 in
theorem l2text_any (wl : List Int) (hb : Bys wl) (hn : wl.length ≤ 1000000000) (w : World) :
    Calls Tryd.prog 77 #[.string (strOfNums wl)] w fun e w' => ∃ v', e = .returned v' ∧ PoT w.heap.size w' v' (textP wl) ∧ w.grownBy w' none := by
  obtain ⟨cap, w1, hrun, hT, g1, hs⟩ := conv_mk wl hb hn w
  go_enter Tryd.func77, Tryd.ntmps77
  go_wp2
  go_ret
  rw [← hs]
  have g2 := World.grownBy_alloc w1 (Obj.cells #[.int .i64 1, .slice (some ⟨w.heap.size, 0, none⟩) wl.length cap, .int .i64 0] 40) none
  exact ⟨_, rfl, one_pcT w1 1 0 _ wl _ g1.size hT, grown_trans g1 g2⟩

attribute [-go_sem] Builtin.append_
set_option maxHeartbeats 4000000 in
set_option maxRecDepth 100000 in
theorem l2copy_any (v : Value) (ps : List Pc) (B : Nat) (w : World) (hv : PiR B w none v ps) (hn : mes ps ≤ 4194304) :
    Calls Tryd.prog 73 #[v] w fun e w' => ∃ v', e = .returned v' ∧ PoT w.heap.size w' v' ps ∧ w.grownBy w' none := by
  have HV := hide hv
  obtain ⟨a, cap, hv0, _⟩ := id hv
  subst hv0
  have hl := mes_len ps
  clear hv
  go_enter Tryd.func73, Tryd.ntmps73
  go_wp2
  go_loopw [3, 4] (fun o i W => ∃ (k : Nat), k ≤ ps.length ∧ i = .int .i64 k ∧ PoT w.heap.size W o (ps.take k) ∧ w.grownBy W none)
    (fun _ i _ => ps.length - (intOf i).toNat)
  case atStart => exact ⟨0, Nat.zero_le _, rfl, PoT.nil _ _, World.grownBy.refl _ _⟩
  case round =>
    obtain ⟨k, hk, rfl, ho, hg⟩ := hrel
    by_cases hlt : k < ps.length
    · obtain ⟨b, off, cap', hva, hz, tv, c0, c1, c2, hT⟩ := (HV.out.keep hg).at k hlt
      cases hva
      have hzb : b < w.heap.size := by have := ((HV.out).at k hlt); obtain ⟨b', off', cap', e, hz', _⟩ := this; cases e; exact hz'.2.1
      have hm := mes_mem ps ps[k] (List.getElem_mem hlt)
      have gd : wr.grownBy wr.drew none := ⟨rfl, rfl, rfl, Nat.le_refl _, fun _ _ _ => rfl⟩
      have HC := hide (l1copy_any tv ps[k].t wr.drew (hT.keep gd).rd (by omega))
      have HP := hide (show ps.take (k + 1) = ps.take k ++ [ps[k]] by rw [List.take_add_one]; simp [hlt])
      obtain ⟨ta, tcap, htv, _, _⟩ := hT.sl
      subst htv
      obtain ⟨oa, oc, hov, _, _⟩ := ho.sl
      have HO := hide ho
      have hlk : (ps.take k).length = k := by simp; omega
      rw [hlk] at hov
      subst hov
      clear hT ho
      generalize ps[k] = p at *
      obtain ⟨I, hI⟩ : ∃ I : World → Prop, I = (fun W : World => W.cell? ⟨b, off + k * 3, none⟩ = some (.int .i64 p.k) ∧ W.cell? ⟨b, off + k * 3 + 1, none⟩ = some (.slice ta p.t.length tcap) ∧ W.cell? ⟨b, off + k * 3 + 2, none⟩ = some (.int .i64 p.n)) := ⟨_, rfl⟩
      have HI0 : I wr.drew := by rw [hI]; exact ⟨c0, c1, c2⟩
      go_wp2
      refine region_anyI I (fun _ => false) (by kernel_rfl) ?_
      show anyI _ _ _ _ _ _ 21 (Array.replicate 21 false) _ _
      refine anyI_take (i := 0) (.slice oa k oc) rfl (by kernel_rfl) (by kernel_rfl) (by kernel_rfl) (by kernel_rfl) (fun _ _ _ h => h) HI0 (yldI rfl (fun W hW => by go_simp)) ?_
      refine anyI_take (i := 1) (.slice (some ⟨b, off, none⟩) ps.length cap) rfl (by kernel_rfl) (by kernel_rfl) (by kernel_rfl) (by kernel_rfl) (fun _ _ _ h => h) HI0 (yldI rfl (fun W hW => by go_simp)) ?_
      refine anyI_take (i := 2) (.int .i64 k) rfl (by kernel_rfl) (by kernel_rfl) (by kernel_rfl) (by kernel_rfl) (fun _ _ _ h => h) HI0 (yldI rfl (fun W hW => by go_simp)) ?_
      refine anyI_take (i := 3) (.pointer (some ⟨b, off + k * 3, none⟩)) rfl (by kernel_rfl) (by kernel_rfl) (by kernel_rfl) (by kernel_rfl) (fun _ _ _ h => h) HI0 (yldI rfl (fun W hW => by go_simp)) ?_
      refine anyI_take (i := 4) (.pointer (some ⟨b, off + k * 3, none⟩)) rfl (by kernel_rfl) (by kernel_rfl) (by kernel_rfl) (by kernel_rfl) (fun _ _ _ h => h) HI0 (yldI rfl (fun W hW => by go_simp)) ?_
      refine anyI_take (i := 5) (.int .i64 p.k) rfl (by kernel_rfl) (by kernel_rfl) (by kernel_rfl) (by kernel_rfl) (fun _ _ _ h => h) HI0 (yldI rfl (fun W hW => by rw [hI] at hW; obtain ⟨h1, h2, h3⟩ := hW; go_simp)) ?_
      refine anyI_take (i := 6) (.slice (some ⟨b, off, none⟩) ps.length cap) rfl (by kernel_rfl) (by kernel_rfl) (by kernel_rfl) (by kernel_rfl) (fun _ _ _ h => h) HI0 (yldI rfl (fun W hW => by go_simp)) ?_
      refine anyI_take (i := 7) (.int .i64 k) rfl (by kernel_rfl) (by kernel_rfl) (by kernel_rfl) (by kernel_rfl) (fun _ _ _ h => h) HI0 (yldI rfl (fun W hW => by go_simp)) ?_
      refine anyI_take (i := 8) (.pointer (some ⟨b, off + k * 3, none⟩)) rfl (by kernel_rfl) (by kernel_rfl) (by kernel_rfl) (by kernel_rfl) (fun _ _ _ h => h) HI0 (yldI rfl (fun W hW => by go_simp)) ?_
      refine anyI_take (i := 9) (.pointer (some ⟨b, off + k * 3 + 1, none⟩)) rfl (by kernel_rfl) (by kernel_rfl) (by kernel_rfl) (by kernel_rfl) (fun _ _ _ h => h) HI0 (yldI rfl (fun W hW => by go_simp)) ?_
      refine anyI_take (i := 10) (.slice ta p.t.length tcap) rfl (by kernel_rfl) (by kernel_rfl) (by kernel_rfl) (by kernel_rfl) (fun _ _ _ h => h) HI0 (yldI rfl (fun W hW => by rw [hI] at hW; obtain ⟨h1, h2, h3⟩ := hW; go_simp)) ?_
      refine anyI_take (i := 12) (.slice (some ⟨b, off, none⟩) ps.length cap) rfl (by kernel_rfl) (by kernel_rfl) (by kernel_rfl) (by kernel_rfl) (fun _ _ _ h => h) HI0 (yldI rfl (fun W hW => by go_simp)) ?_
      refine anyI_take (i := 13) (.int .i64 k) rfl (by kernel_rfl) (by kernel_rfl) (by kernel_rfl) (by kernel_rfl) (fun _ _ _ h => h) HI0 (yldI rfl (fun W hW => by go_simp)) ?_
      refine anyI_take (i := 14) (.pointer (some ⟨b, off + k * 3, none⟩)) rfl (by kernel_rfl) (by kernel_rfl) (by kernel_rfl) (by kernel_rfl) (fun _ _ _ h => h) HI0 (yldI rfl (fun W hW => by go_simp)) ?_
      refine anyI_take (i := 15) (.pointer (some ⟨b, off + k * 3 + 2, none⟩)) rfl (by kernel_rfl) (by kernel_rfl) (by kernel_rfl) (by kernel_rfl) (fun _ _ _ h => h) HI0 (yldI rfl (fun W hW => by go_simp)) ?_
      refine anyI_take (i := 16) (.int .i64 p.n) rfl (by kernel_rfl) (by kernel_rfl) (by kernel_rfl) (by kernel_rfl) (fun _ _ _ h => h) HI0 (yldI rfl (fun W hW => by rw [hI] at hW; obtain ⟨h1, h2, h3⟩ := hW; go_simp)) ?_
      generalize hG : Act.put _ _ _ = A0
      simp [Act.put] at hG
      subst hG
      refine anyI_one (i := 11) (by kernel_rfl) (wpOp_call rfl rfl (by go_simp) HC.out ?_)
      rintro e w1 ⟨v1, rfl, o1, g1⟩
      have HI1 : I w1 := by rw [hI]; exact ⟨(grown_trans gd g1).cell c0 (by simp), (grown_trans gd g1).cell c1 (by simp), (grown_trans gd g1).cell c2 (by simp)⟩
      refine ⟨_, rfl, .inr HI1, ?_⟩
      replace g1 := grown_trans gd g1
      have hs := g1.size
      have hw := hg.size
      have hlt1 : ∀ b, v1.ownBlock = some b → wr.heap.size ≤ b := fun b e => (World.ownsRow.lt o1 b e).1
      have hT1 : TxG wr.heap.size w1 v1 p.t := TxG.of_ow o1
      obtain ⟨v2, w2, hrun, ho2, g2, ⟨a2, c2', hv2⟩⟩ := HO.out.push p.k p.n v1 p.t g1 hw hT1 (by omega)
      rw [hlk] at hv2
      obtain ⟨a1, c1', hv1, _, _⟩ := o1.sl
      have HP2 : Hid (PoT w.heap.size w2 v2 (ps.take (k + 1))) := by unfold Hid; rw [HP.out]; exact ho2
      have HG : Hid (w.grownBy w2 none) := grown_new (grown_trans hg g1) g2 (fun j e => (HO.out.lt j e).1)
      have hbs : ∀ x, (Value.slice oa k oc).ownBlock = some x → some b ≠ some x := fun x e h => by cases h; have := (HO.out.lt b e).1; have := hzb; omega
      have HI2 : I (w1.alloc (Obj.cells #[.int .i64 p.k, v1, .int .i64 p.n] 40)) := by
        have g := World.grownBy_alloc w1 (Obj.cells #[.int .i64 p.k, v1, .int .i64 p.n] 40) none
        rw [hI] at HI1 ⊢; exact ⟨g.cell HI1.1 (by simp), g.cell HI1.2.1 (by simp), g.cell HI1.2.2 (by simp)⟩
      have HI3 : I w2 := by
        have hne : some b ≠ (Value.slice oa k oc).ownBlock := fun e => hbs b e.symm rfl
        rw [hI] at HI1 ⊢; exact ⟨g2.cell HI1.1 hne, g2.cell HI1.2.1 hne, g2.cell HI1.2.2 hne⟩
      subst hv1 hv2
      clear HC hT1 ho2 g2 o1 hlt1 HP c0 c1 c2 hbs
      refine anyI_one (i := 17) (by kernel_rfl) (wpOp_val (w' := w1) (v := .agg #[.int .i64 p.k, .slice a1 p.t.length c1', .int .i64 p.n]) rfl rfl (by go_simp) ⟨.inr HI1, ?_⟩)
      refine anyI_one (i := 18) (by kernel_rfl) (wpOp_val (w' := w1.alloc (Obj.cells #[.int .i64 p.k, .slice a1 p.t.length c1', .int .i64 p.n] 40)) (v := .slice (some ⟨w1.heap.size, 0, none⟩) 1 1) rfl rfl (by go_simp) ⟨.inr HI2, ?_⟩)
      refine anyI_one (i := 19) (by kernel_rfl) (wpOp_val (w' := w2) (v := .slice a2 (k + 1) c2') rfl rfl (by go_simp) ⟨.inr HI3, ?_⟩)
      refine anyI_one (i := 20) (by kernel_rfl) (wpOp_val (w' := w2) (v := .slice a2 (k + 1) c2') rfl rfl (by go_simp) ⟨.inr HI3, ?_⟩)
      refine anyI_done (by kernel_rfl) ?_ _
      subst hI
      go_wp2
      go_roundw
      case rel => exact ⟨k + 1, by omega, by go_num, HP2.out, HG.out⟩
      case measure => simp [intOf]; omega
    · have hkn : k = ps.length := by omega
      subst hkn
      rw [List.take_length] at ho
      go_wp2
      go_ret
      exact ⟨_, rfl, ho, hg⟩

set_option maxHeartbeats 2000000 in
set_option maxRecDepth 100000 in
theorem l2un_any (kd n : Int) (v : Value) (ps : List Pc) (B : Nat) (w : World) (hv : PiR B w none v ps) (hn : mes ps ≤ 4194304) :
    Calls Tryd.prog 57 #[.int .i64 kd, v, .int .i64 n] w fun e w' => ∃ v', e = .returned v' ∧ PoT w.heap.size w' v' (ps ++ [⟨kd, [], n⟩]) ∧ w.grownBy w' none := by
  have HC := hide (l2copy_any v ps B w hv hn)
  have hl := mes_len ps
  obtain ⟨a, cap, hv0, _⟩ := id hv
  subst hv0
  clear hv
  go_enter Tryd.func57, Tryd.ntmps57
  go_wp2_with fail
  refine HC.out.mono ?_
  rintro e w1 ⟨v1, rfl, o1, g1⟩
  have hs := g1.size
  obtain ⟨v2, w2, hrun, ho2, g2, ⟨a2, c2, hv2⟩⟩ := o1.push kd n (.slice none 0 0) [] (World.grownBy.refl w1 none) hs (TxG.nil _ _) (by omega)
  obtain ⟨a1, c1, hv1, _, _⟩ := o1.sl
  have HG : Hid (w.grownBy w2 none) := grown_new g1 g2 (fun j e => (o1.lt j e).1)
  have HO := hide ho2
  subst hv1 hv2
  clear HC o1 ho2 g2
  go_wp2
  go_ret
  exact ⟨_, rfl, HO.out, HG.out⟩

set_option maxHeartbeats 2000000 in
set_option maxRecDepth 100000 in
theorem l2bin_any (kd : Int) (x y : Value) (ps qs : List Pc) (B : Nat) (w : World) (hx : PiR B w none x ps) (hy : PiR B w none y qs) (hn : mes ps ≤ 1000000) (hm : mes qs ≤ 1000000) (hq : qs ≠ []) :
    Calls Tryd.prog 56 #[.int .i64 kd, x, y] w fun e w' => ∃ v', e = .returned v' ∧ PoT w.heap.size w' v' (ps ++ qs ++ [⟨kd, [], 0⟩]) ∧ w.grownBy w' none := by
  have HX := hide (l2copy_any x ps B w hx (by omega))
  have HY : Hid (∀ W : World, w.grownBy W none → _) := fun W (g : w.grownBy W none) => l2copy_any y qs B W (hy.keep g) (by omega)
  have hl := mes_len ps
  have hl2 := mes_len qs
  obtain ⟨xa, xc, hxv, _, _⟩ := hx.sl
  obtain ⟨ya, yc, hyv, _, _⟩ := hy.sl
  subst hxv hyv
  clear hx hy
  go_enter Tryd.func56, Tryd.ntmps56
  go_wp2_with fail
  refine HX.out.mono ?_
  rintro e w1 ⟨v1, rfl, o1, g1⟩
  have hs := g1.size
  have HO1 := hide o1
  have HY2 := hide (HY.out _ g1)
  obtain ⟨a1, c1, hv1, _, _⟩ := o1.sl
  subst hv1
  clear HX o1 HY
  go_wp2_with fail
  refine HY2.out.mono ?_
  rintro e w2 ⟨v2, rfl, o2, g2⟩
  have hs2 := g2.size
  obtain ⟨v3, w3, run3, o3, g3, a3, c3, hv3, a2, c2, hv2⟩ : ∃ v3 w3, (Builtin.append_ #[23, 23] 23 #[.slice a1 ps.length c1, v2]).run Tryd.prog w2 = .ok v3 w3 ∧ PoT w.heap.size w3 v3 (ps ++ qs) ∧ w2.grownBy w3 (Value.slice a1 ps.length c1).ownBlock ∧ ∃ a3 c3, v3 = .slice a3 (ps.length + qs.length) c3 ∧ ∃ a2 c2, v2 = .slice a2 qs.length c2 := by
    obtain ⟨tvs, ho2, ht2⟩ := o2
    rcases id ho2.2 with ⟨hv, hn⟩ | ⟨g, cap, cur, hv, _⟩
    · exact absurd (List.eq_nil_of_length_eq_zero hn) hq
    · subst hv
      obtain ⟨v3, w3, e1, e2, e3, a3, c3, e4⟩ := appT (b := g) (off := 0) (w := w2) (qs := qs) cap tvs HO1.out g2 hs ht2.len (fun j x hx => World.ownsRow.cells ho2 (g := g) rfl j x hx) (fun j p tv hp htv => (ht2.own j p tv hp htv).1) ht2.apt (by omega)
      exact ⟨v3, w3, e1, e2, e3, a3, c3, e4, _, _, rfl⟩
  have hG3 := grown_new (grown_trans g1 g2) g3 (fun j e => (HO1.out.lt j e).1)
  have hs3 := hG3.size
  obtain ⟨v4, w4, run4, o4, g4, ⟨a4, c4, hv4⟩⟩ := o3.push kd 0 (.slice none 0 0) [] (World.grownBy.refl w3 none) (by omega) (TxG.nil _ _) (by simp; omega)
  have HG4 := hide (grown_new hG3 g4 (fun j e => (o3.lt j e).1))
  have HO4 := hide o4
  rw [List.length_append] at hv4
  generalize ps.length + qs.length = LL at *
  subst hv2 hv3 hv4
  clear HO1 HY2 o2 o3 o4 g3 g4 hG3
  go_wp2
  go_ret
  exact ⟨_, rfl, HO4.out, HG4.out⟩

end Go.Proofs.YtgmjpdejfdldlaaDoor

namespace Go.Proofs.YtgmjpdejfdldlaaDoor
open Go.RowKit

theorem lit_cellS (W : World) (L : List (List Int)) (t : TypeId) (j : Nat) (hj : j < L.length) (A : Array Value) (hA : A = (L.map fun s => Value.string (strOfNums s)).toArray) :
    (W.alloc (.cells A t)).cell? ⟨W.heap.size, j, none⟩ = some (.string (strOfNums (L.getD j []))) := by
  rw [cell_of_row (W.alloc (.cells A t)) W.heap.size j A t (0, 0) (heap_alloc_new W _), hA]
  simp [hj]

set_option maxHeartbeats 1000000 in
set_option maxRecDepth 100000 in
theorem l2drawText_any (F : Nat) (v : Value) (zs : List Int) (i : Nat) (w : World) (hF : Rdr F w v i) (hv : RdB F w v zs) (hby : Bys zs) (hm : zs.length ≤ 4194304) (hi : i ≤ zs.length) :
    Calls Tryd.prog 71 #[.pointer (some ⟨F, 0, none⟩)] w fun e w' => ∃ v', e = .returned v' ∧ PoT w.heap.size w' v' (dTxt zs i).1 ∧ Rdr F w' v ((dTxt zs i).2 : Int) ∧ w.grownBy w' (some F) := by
  have hkb := nx_bd hby i
  have hnx := hide (next_any F v zs i _ hF hv hby hm hi)
  have HP : Hid (dTxt zs i = (textP (wordW.getD ((nx zs i).1 % 10).toNat []), (nx zs i).2)) := rfl
  generalize (nx zs i).1 = k at hkb hnx HP
  generalize (nx zs i).2 = j at hnx HP
  obtain ⟨hk0, hk1⟩ := hkb
  have hcell := fun W => lit_cellS W wordW 9 (k % 10).toNat (by simp [wordW]; omega) #[.string { data := #[97] }, .string { data := #[98, 98] }, .string { data := #[99, 99, 99] }, .string { data := #[] }, .string { data := #[119, 111, 114, 100] }, .string { data := #[195, 169] }, .string { data := #[230, 151, 165, 230, 156, 172] }, .string { data := #[120, 44] }, .string { data := #[40] }, .string { data := #[41] }] rfl
  have hby2 := word_bys (k % 10).toNat
  have hlen := word_len (k % 10).toNat
  generalize wordW.getD (k % 10).toNat [] = t at hcell hby2 hlen HP
  have HT : Hid (∀ W : World, _) := fun W => l2text_any t hby2 (by omega) W
  go_enter Tryd.func71, Tryd.ntmps71
  go_wp2_with fail
  refine hnx.out.mono ?_
  rintro e w1 ⟨rfl, f1, g1⟩
  have hc := hcell w1
  go_wp2_with fail
  refine (HT.out _).mono ?_
  rintro e w2 ⟨v', rfl, o2, g2⟩
  have gA := World.grownBy_alloc w1 (Obj.cells #[Value.string { data := #[97] }, Value.string { data := #[98, 98] }, Value.string { data := #[99, 99, 99] },
          Value.string { data := #[] }, Value.string { data := #[119, 111, 114, 100] },
          Value.string { data := #[195, 169] }, Value.string { data := #[230, 151, 165, 230, 156, 172] },
          Value.string { data := #[120, 44] }, Value.string { data := #[40] }, Value.string { data := #[41] }]
        9) none
  have HF := hide (f1.kept (grown_trans gA g2) (by simp))
  have HG := hide (grown_trans g1 (grown_rowD (grown_trans gA g2) (some F)))
  have HO := hide (o2.base (Nat.le_trans g1.size gA.size))
  obtain ⟨oa, oc, hov, _⟩ := o2.sl
  subst hov
  clear o2 g2 gA f1 g1 hnx HT hcell
  go_wp2
  go_ret
  rw [HP.out]
  exact ⟨_, rfl, HO.out, HF.out, HG.out⟩

set_option maxHeartbeats 400000 in
theorem left_any (F : Nat) (v : Value) (zs : List Int) (i : Nat) (w : World) (hF : Rdr F w v i) (hv : RdB F w v zs) (hm : zs.length ≤ 4194304) (hi : i ≤ zs.length) :
    Calls Tryd.prog 55 #[.pointer (some ⟨F, 0, none⟩)] w fun e w' => ∃ n, e = .returned (.int .i64 ((zs.length - i : Nat) : Int)) ∧ w' = w.drewN n := by
  obtain ⟨a, cap, rfl, hr⟩ := hv
  have q0 := hF.c0
  have q1 := hF.c1
  clear hr hF
  go_enter Tryd.func55, Tryd.ntmps55
  go_wp2
  go_quiet (fail)
  go_wp2
  go_ret
  refine ⟨_, ?_, rfl⟩
  go_num

/-- What a draw leaves. -/
def Drawn (F : Nat) (v : Value) (w : World) (x : List Pc × Nat) (e : Ending) (w' : World) : Prop := ∃ v', e = .returned v' ∧ PoT w.heap.size w' v' x.1 ∧ Rdr F w' v (x.2 : Int) ∧ w.grownBy w' (some F)

set_option maxHeartbeats 1000000 in
set_option maxRecDepth 100000 in
theorem drawDoc0_any (F : Nat) (v : Value) (zs : List Int) (hby : Bys zs) (hm : zs.length ≤ 4194304) (i : Nat) (w : World) (hF : Rdr F w v i) (hv : RdB F w v zs) (hi : i ≤ zs.length) :
    Calls Tryd.prog 54 #[.pointer (some ⟨F, 0, none⟩), .int .i64 0] w fun e w' => Drawn F v w (dDoc zs 0 i) e w' := by
  have hkb := nx_bd hby i
  have hl := nx_le hi
  have hnx := hide (next_any F v zs i _ hF hv hby hm hi)
  have HV := hide hv
  have HT : Hid (∀ W : World, Rdr F W v ((nx zs i).2 : Int) → RdB F W v zs → _) := fun W a b => l2drawText_any F v zs (nx zs i).2 W a b hby hm hl
  have HP : Hid (dDoc zs 0 i = dTxt zs (nx zs i).2) := rfl
  clear hv hF
  generalize (nx zs i).1 = k at hkb hnx
  generalize (nx zs i).2 = j at hnx HP HT hl
  obtain ⟨hk0, hk1⟩ := hkb
  go_enter Tryd.func54, Tryd.ntmps54
  go_wp2_with fail
  refine hnx.out.mono ?_
  rintro e w1 ⟨rfl, f1, g1⟩
  have HTw := hide (HT.out w1 f1 (HV.out.beside g1 (fun k e => by cases e; omega)))
  clear HT hnx
  go_wp2_with fail
  refine HTw.out.mono ?_
  rintro e w2 ⟨v', rfl, o2, f2, g2⟩
  have HO := hide (o2.base g1.size)
  have HF := hide f2
  have HG := hide (grown_trans g1 g2)
  obtain ⟨oa, oc, hov, _⟩ := o2.sl
  subst hov
  clear o2 g2 f1 g1 f2 HTw
  go_wp2
  go_ret
  rw [HP.out]
  exact ⟨_, rfl, HO.out, HF.out, HG.out⟩
end Go.Proofs.YtgmjpdejfdldlaaDoor

