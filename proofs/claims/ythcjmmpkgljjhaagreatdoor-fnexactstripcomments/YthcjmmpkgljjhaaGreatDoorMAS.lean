import Derived.Handy
import Derived.Test.YthcjmmpkgljjhaaGreatDoorMAA
import Derived.Test.YthcjmmpkgljjhaaGreatDoorMAI
namespace Go.Proofs.YthcjmmpkgljjhaaGreatDoor
open Go.RowKit

def pairOf (u x : Int) : Int := 65536 + (u - 55296) * 1024 + (x - 56320)
/-- The points of units. -/
def fu : List Int → List Int
  | [] => []
  | [u] => [u]
  | u :: x :: r => if isHi u && isLo x then pairOf u x :: fu r else u :: fu (x :: r)
def fuR (zs : List Int) : List Int × Int := if zs.all isUn then (fu zs, 0) else ([], 1)

theorem drop_cons (zs : List Int) (k : Nat) (hk : k < zs.length) : zs.drop k = zs[k]?.getD 0 :: zs.drop (k + 1) := by
  rw [List.drop_eq_getElem_cons hk]; simp [hk]

theorem fu_one (zs : List Int) (k : Nat) (hk : k < zs.length) (h : ¬ (isHi (zs[k]?.getD 0) = true ∧ k + 1 < zs.length ∧ isLo (zs[k + 1]?.getD 0) = true)) :
    fu (zs.drop k) = zs[k]?.getD 0 :: fu (zs.drop (k + 1)) := by
  rw [drop_cons zs k hk]
  by_cases h1 : k + 1 < zs.length
  · rw [drop_cons zs (k + 1) h1, fu, if_neg]
    simp only [Bool.and_eq_true]
    exact fun hh => h ⟨hh.1, h1, hh.2⟩
  · rw [List.drop_eq_nil_of_le (by omega)]
    rfl
theorem fu_two (zs : List Int) (k : Nat) (h1 : k + 1 < zs.length) (h : isHi (zs[k]?.getD 0) = true) (h2 : isLo (zs[k + 1]?.getD 0) = true) :
    fu (zs.drop k) = pairOf (zs[k]?.getD 0) (zs[k + 1]?.getD 0) :: fu (zs.drop (k + 2)) := by
  rw [drop_cons zs k (by omega), drop_cons zs (k + 1) h1, fu, if_pos (by simp [h, h2])]
theorem fu_len : ∀ (n : Nat) (zs : List Int), zs.length ≤ n → (fu zs).length ≤ zs.length
  | 0, zs, h => by
    have : zs = [] := List.eq_nil_of_length_eq_zero (by omega)
    subst this; simp [fu]
  | n + 1, [], _ => by simp [fu]
  | n + 1, [u], _ => by simp [fu]
  | n + 1, u :: x :: r, h => by
    simp only [List.length_cons] at h
    rw [fu]
    split
    · have := fu_len n r (by omega)
      simp only [List.length_cons]; omega
    · have := fu_len n (x :: r) (by simp only [List.length_cons]; omega)
      simp only [List.length_cons] at this ⊢; omega
theorem fuR_len (zs : List Int) : (fuR zs).1.length ≤ zs.length := by
  unfold fuR; split
  · exact fu_len _ zs (Nat.le_refl _)
  · simp
theorem fuR_bad (zs : List Int) (h : zs.all isUn = false) : fuR zs = ([], 1) := by simp [fuR, h]
theorem fuR_ok (zs : List Int) (h : zs.all isUn = true) : fuR zs = (fu zs, 0) := by simp [fuR, h]
theorem lo_un {p : Int} (h : isLo p = true) : isUn p = true := by
  simp [isLo, isUn] at h ⊢; omega
theorem hi_un {p : Int} (h : isHi p = true) : isUn p = true := by
  simp [isHi, isUn] at h ⊢; omega

/-- What lies between the rounds: acc is told, the rest is to come. -/
theorem fu_step1 {zs acc : List Int} {k : Nat} {p : Int} (hx : acc ++ fu (zs.drop k) = fu zs) (h : fu (zs.drop k) = p :: fu (zs.drop (k + 1))) : acc ++ [p] ++ fu (zs.drop (k + 1)) = fu zs := by
  rw [← hx, h]; simp
theorem fu_step2 {zs acc : List Int} {k : Nat} {p : Int} (hx : acc ++ fu (zs.drop k) = fu zs) (h : fu (zs.drop k) = p :: fu (zs.drop (k + 2))) : acc ++ [p] ++ fu (zs.drop (k + 2)) = fu zs := by
  rw [← hx, h]; simp
theorem fu_end {zs acc : List Int} {k : Nat} (hk : zs.length ≤ k) (hx : acc ++ fu (zs.drop k) = fu zs) : acc = fu zs := by
  rw [List.drop_eq_nil_of_le hk] at hx; simpa [fu] using hx

end Go.Proofs.YthcjmmpkgljjhaaGreatDoor

namespace Go.Proofs.YthcjmmpkgljjhaaGreatDoor
open Go.RowKit

set_option maxHeartbeats 2000000 in
set_option maxRecDepth 100000 in
theorem specFromUnits_any (v : Value) (zs : List Int) (w : World) (hv : RdI w.heap.size w v zs) (hn : zs.length ≤ 2097152) :
    Calls Tryz.prog 62 #[v] w fun e w' => ∃ v', e = .returned (.tuple #[v', .int .i64 (fuR zs).2]) ∧ OwI w.heap.size w' v' (fuR zs).1 ∧ w.grownBy w' none := by
  obtain ⟨i0, hi, hz0, hz1, hz2⟩ := info_parts info3
  obtain ⟨a, cap, rfl, hr⟩ := hv
  go_enter Tryz.func62, Tryz.ntmps62
  go_wp2
  go_loop [4] (fun i => ∃ k : Nat, k ≤ zs.length ∧ i = .int .i64 k ∧ (zs.take k).all isUn = true) (fun i => zs.length - (intOf i).toNat)
  case atStart => exact ⟨0, Nat.zero_le _, rfl, rfl⟩
  case round =>
    obtain ⟨k, hk, rfl, hall⟩ := hrel
    by_cases hlt : k < zs.length
    · obtain ⟨b, off, rfl, hb, hc⟩ := hr (fun h => by simp [h] at hlt)
      have hcx := hc k hlt
      have hal := all_snoc zs isUn k hlt hall
      have han := all_not zs isUn k hlt
      generalize zs[k]?.getD 0 = p at hcx hal han
      by_cases hp0 : p < 0
      · have HF : Hid (zs.all isUn = false) := han (by simp [isUn]; omega)
        clear hal han hc hr
        go_wp2
        go_ret2
        exact ⟨_, by rw [fuR_bad _ HF.out]; rfl, by rw [fuR_bad _ HF.out]; exact World.ownsRow_nil _ _ _ _, World.grownBy.refl _ _⟩
      · by_cases hp1 : 65535 < p
        · have HF : Hid (zs.all isUn = false) := han (by simp [isUn]; omega)
          clear hal han hc hr
          go_wp2
          go_ret2
          exact ⟨_, by rw [fuR_bad _ HF.out]; rfl, by rw [fuR_bad _ HF.out]; exact World.ownsRow_nil _ _ _ _, World.grownBy.refl _ _⟩
        · have hal' := hal (by simp [isUn]; omega)
          clear hal han hc hr
          go_wp2
          go_round
          case rel => exact ⟨k + 1, by omega, by go_num, hal'⟩
          case measure => simp [intOf]; omega
    · have HF : Hid (zs.all isUn = true) := by
        unfold Hid
        rw [List.take_of_length_le (by omega)] at hall
        exact hall
      clear hall
      go_wp2
      go_loopw [5, 6] (fun v i wr => ∃ (k : Nat) (acc : List Int), k ≤ zs.length ∧ i = .int .i64 k ∧ OwI w.heap.size wr v acc ∧ acc.length ≤ k ∧ acc ++ fu (zs.drop k) = fu zs ∧ Below w.heap.size w wr)
        (fun _ i _ => zs.length - (intOf i).toNat)
      case atStart => exact ⟨0, [], Nat.zero_le _, rfl, World.ownsRow_nil _ _ _ _, Nat.le_refl _, by simp, Below.refl _ _⟩
      case round =>
        rename_i hk0 hlt0
        obtain ⟨k, acc, hk, rfl, hown, hacc, hx, hnx⟩ := hrel
        by_cases hlt : k < zs.length
        · obtain ⟨b, off, rfl, hb, hc⟩ := hr (fun h => by simp [h] at hlt)
          have hcx : wr.cell? ⟨b, off + k, none⟩ = some (.int .i64 (zs[k]?.getD 0)) := (hnx.cell (by exact hb)).trans (hc k hlt)
          have hcy : k + 1 < zs.length → wr.cell? ⟨b, off + (k + 1), none⟩ = some (.int .i64 (zs[k + 1]?.getD 0)) := fun h => (hnx.cell (by exact hb)).trans (hc (k + 1) h)
          have h1 := fu_one zs k hlt
          have h2 := fu_two zs k
          generalize zs[k]?.getD 0 = p at hcx h1 h2
          generalize zs[k + 1]?.getD 0 = x at hcy h1 h2
          clear hc hr
          by_cases hpair : isHi p = true ∧ k + 1 < zs.length ∧ isLo x = true
          · obtain ⟨hp, hlt1, hx2⟩ := hpair
            have HE := fu_step2 hx (h2 hlt1 hp hx2)
            have HE' : Hid (acc ++ [pairOf p x] ++ fu (zs.drop (k + 2)) = fu zs) := HE
            have hcy' := hcy hlt1
            simp [isHi] at hp
            simp [isLo] at hx2
            obtain ⟨hp1, hp2⟩ := hp
            obtain ⟨hx3, hx4⟩ := hx2
            clear h1 h2 HE hcy hx
            have hpv : pairOf p x = 65536 + (p - 55296) * 1024 + x - 56320 := by unfold pairOf; omega
            have HP : Hid (pairOf p x = 65536 + (p - 55296) * 1024 + x - 56320) := hpv
            clear hpv
            go_wp2_with (at_builtin; refine wpList_append_own _ rfl _ _ 39 rfl w.heap.size 3 i0 (.int .i64 0) 1 8 Tryz.underlying39 hi hz0 hz1 hz2 rfl (by decide) _ _ _ rfl (World.ownsRow.alloc hown _) ⟨wr.heap.size, 0, none⟩ 1 1 [.int .i64 (65536 + (p - 55296) * 1024 + x - 56320)] rfl rfl (cell_one_new _ _ _) (by intro u hu; simp at hu; subst hu; rfl) (by unfold maxLen; omega) (by omega) (by have := hnx.size; simp; omega) ?_; intro v' w1 hown' hgrow _)
            have R := own_app (xs := [65536 + (p - 55296) * 1024 + x - 56320]) _ hnx.size hown hown' (by simp) hgrow
            clear hown' hgrow hown
            go_wp2
            go_roundw
            case rel => exact ⟨k + 2, acc ++ [65536 + (p - 55296) * 1024 + x - 56320], by omega, by go_num, R.1, by simp; omega, by rw [← HP.out]; exact HE'.out, hnx.trans R.2⟩
            case measure => simp [intOf]; omega
          · have HE : Hid (acc ++ [p] ++ fu (zs.drop (k + 1)) = fu zs) := fu_step1 hx (h1 hpair)
            have hway : p < 55296 ∨ 56319 < p ∨ (55296 ≤ p ∧ p ≤ 56319 ∧ zs.length ≤ k + 1) ∨ (55296 ≤ p ∧ p ≤ 56319 ∧ k + 1 < zs.length ∧ x < 56320) ∨ (55296 ≤ p ∧ p ≤ 56319 ∧ k + 1 < zs.length ∧ 56320 ≤ x ∧ 57343 < x) := by
              simp only [isHi, isLo, decide_eq_true_eq] at hpair; omega
            clear h1 h2 hpair hx
            rcases hway with hw | hw | ⟨hw1, hw2, hw3⟩ | ⟨hw1, hw2, hw3, hw4⟩ | ⟨hw1, hw2, hw3, hw4, hw5⟩
            all_goals
              first
                | (have hcy' := hcy hw3; clear hcy)
                | clear hcy
              go_wp2_with (at_builtin; refine wpList_append_own _ rfl _ _ 39 rfl w.heap.size 3 i0 (.int .i64 0) 1 8 Tryz.underlying39 hi hz0 hz1 hz2 rfl (by decide) _ _ _ rfl (World.ownsRow.alloc hown _) ⟨wr.heap.size, 0, none⟩ 1 1 [.int .i64 p] rfl rfl (cell_one_new _ _ _) (by intro u hu; simp at hu; subst hu; rfl) (by unfold maxLen; omega) (by omega) (by have := hnx.size; simp; omega) ?_; intro v' w1 hown' hgrow _)
              have R := own_app (xs := [p]) _ hnx.size hown hown' (by simp) hgrow
              clear hown' hgrow hown
              go_wp2
              go_roundw
              case rel => exact ⟨k + 1, acc ++ [p], by omega, by go_num, R.1, by simp; omega, HE.out, hnx.trans R.2⟩
              case measure => simp [intOf]; omega
        · have hE := fu_end (by omega) hx
          rw [hE] at hown
          clear hx hr hE
          go_wp2
          go_ret2
          exact ⟨_, by rw [fuR_ok _ HF.out]; rfl, by rw [fuR_ok _ HF.out]; exact hown, grown_of_below hnx⟩

end Go.Proofs.YthcjmmpkgljjhaaGreatDoor

namespace Go.Proofs.YthcjmmpkgljjhaaGreatDoor
open Go.RowKit

theorem all_take {α : Type} (f : α → Bool) (cs : List α) (k : Nat) (hk : k < cs.length) (h : (cs.take k).all f = true) (h2 : f cs[k] = true) : (cs.take (k + 1)).all f = true := by
  rw [List.take_add_one, List.getElem?_eq_getElem hk, List.all_append, h]
  simp [h2]
theorem all_bad {α : Type} (f : α → Bool) (cs : List α) (k : Nat) (hk : k < cs.length) (h2 : f cs[k] = false) : cs.all f = false := by
  rw [List.all_eq_false]
  exact ⟨cs[k], List.getElem_mem hk, by rw [h2]; simp⟩

/-- What is known of comments: not too long, bytes. -/
def CsOk (cs : List Cm) : Prop := ∀ c ∈ cs, c.t.length ≤ 1048576 ∧ Bys c.t

set_option maxHeartbeats 4000000 in
set_option maxRecDepth 100000 in
theorem l5commentsOK_any (v : Value) (cs : List Cm) (w : World) (hv : RdC w.heap.size w v cs) (hn : cs.length ≤ 1048576) (ho : CsOk cs) :
    Calls Tryz.prog 30 #[v] w fun e w' => e = .returned (.bool (cs.all comS)) ∧ w.grownBy w' none := by
  obtain ⟨a, cap, hv0, _⟩ := id hv
  have HV := hide hv
  have HO := hide ho
  subst hv0
  clear hv ho
  go_enter Tryz.func30, Tryz.ntmps30
  go_wp2
  go_loopw [3] (fun i wr => ∃ k : Nat, k ≤ cs.length ∧ i = .int .i64 k ∧ Hid ((cs.take k).all comS = true) ∧ w.grownBy wr none) (fun i _ => cs.length - (intOf i).toNat)
  case atStart => exact ⟨0, Nat.zero_le _, rfl, by simp [Hid], World.grownBy.refl _ _⟩
  case round =>
    obtain ⟨k, hk, rfl, HA, hgr⟩ := hrel
    by_cases hlt : k < cs.length
    · obtain ⟨b, off, cap', tv, hva, hb, hp⟩ := (HV.out.keep hgr).at k hlt
      cases hva
      have z0 := hp.k; have z1 := hp.t
      obtain ⟨h1, h2⟩ := HO.out cs[k] (List.getElem_mem hlt)
      have HC := hide (l5commentOK_any tv cs[k] wr (hp.rd.wideC hgr.size) hp.sl h2 h1)
      obtain ⟨ta, tcap, htv, _, _⟩ := hp.sl
      have HG := hide hgr
      subst htv
      clear hp h2 hgr
      cases hc : comS cs[k] with
      | true =>
        have HN := hide (all_take comS cs k hlt HA.out hc)
        rw [hc] at HC
        clear hc
        generalize cs[k] = p at *
        go_wp2_with fail
        refine HC.out.mono ?_
        rintro e w1 ⟨rfl, g1⟩
        have HG1 := hide (grown_trans HG.out g1)
        clear g1
        go_wp2
        go_roundw
        case rel => exact ⟨k + 1, by omega, by go_num, HN, HG1.out⟩
        case measure => simp [intOf]; omega
      | false =>
        have HF := hide (all_bad comS cs k hlt hc)
        rw [hc] at HC
        clear hc
        generalize cs[k] = p at *
        go_wp2_with fail
        refine HC.out.mono ?_
        rintro e w1 ⟨rfl, g1⟩
        have HG1 := hide (grown_trans HG.out g1)
        clear g1
        go_wp2
        go_ret
        exact ⟨by rw [HF.out]; rfl, HG1.out⟩
    · have HF : Hid (cs.all comS = true) := by
        have := HA.out
        rw [show k = cs.length by omega, List.take_length] at this
        exact this
      have HG := hide hgr
      go_wp2
      go_ret
      exact ⟨by rw [HF.out]; rfl, HG.out⟩

set_option maxHeartbeats 1000000 in
theorem l5unitsOK_any (v : Value) (zs : List Int) (w : World) (hv : RdI w.heap.size w v zs) (hn : zs.length ≤ 2097152) :
    Calls Tryz.prog 50 #[v] w fun e w' => e = .returned (.bool (zs.all isUn)) ∧ w.grownBy w' none := by
  obtain ⟨a, cap, hv0, _⟩ := id hv
  have HC := hide (specFromUnits_any v zs w hv hn)
  subst hv0
  clear hv
  cases h : zs.all isUn with
  | true =>
    have e1 : (fuR zs).2 = 0 := by unfold fuR; rw [h]; rfl
    rw [e1] at HC
    go_enter Tryz.func50, Tryz.ntmps50
    go_wp2_with fail
    refine HC.out.mono ?_
    rintro e w1 ⟨v1, rfl, o1, g1⟩
    go_wp2
    go_ret
    exact ⟨rfl, g1⟩
  | false =>
    have e1 : (fuR zs).2 = 1 := by unfold fuR; rw [h]; rfl
    rw [e1] at HC
    go_enter Tryz.func50, Tryz.ntmps50
    go_wp2_with fail
    refine HC.out.mono ?_
    rintro e w1 ⟨v1, rfl, o1, g1⟩
    go_wp2
    go_ret
    exact ⟨rfl, g1⟩

end Go.Proofs.YthcjmmpkgljjhaaGreatDoor

