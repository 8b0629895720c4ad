import Derived.Test.YtalkhnhhaiigiaaGreatDoorMAA
import Derived.Test.YtalkhnhhaiigiaaGreatDoorMAB
import Derived.Test.YtalkhnhhaiigiaaGreatDoorMAH
import Derived.Test.YtalkhnhhaiigiaaGreatDoorMAL
import Derived.Test.YtalkhnhhaiigiaaGreatDoorMAZ
namespace Go.Proofs.YtalkhnhhaiigiaaGreatDoor
open Go.RowKit

theorem cells_two (w : World) (x y : Value) (t : TypeId) : ∀ j u, [x, y][j]? = some u → (w.alloc (.cells #[x, y] t)).cell? ((⟨w.heap.size, 0, none⟩ : Addr).add j) = some u := by
  intro j u hj
  match j, hj with
  | 0, hj => simp at hj; subst hj; simp [Addr.add]
  | 1, hj => simp at hj; subst hj; simp [Addr.add]
theorem cells_three (w : World) (x y z : Value) (t : TypeId) : ∀ j u, [x, y, z][j]? = some u → (w.alloc (.cells #[x, y, z] t)).cell? ((⟨w.heap.size, 0, none⟩ : Addr).add j) = some u := by
  intro j u hj
  match j, hj with
  | 0, hj => simp at hj; subst hj; simp [Addr.add]
  | 1, hj => simp at hj; subst hj; simp [Addr.add]
  | 2, hj => simp at hj; subst hj; simp [Addr.add]
theorem cells_four (w : World) (x y z s : Value) (t : TypeId) : ∀ j u, [x, y, z, s][j]? = some u → (w.alloc (.cells #[x, y, z, s] t)).cell? ((⟨w.heap.size, 0, none⟩ : Addr).add j) = some u := by
  intro j u hj
  match j, hj with
  | 0, hj => simp at hj; subst hj; simp [Addr.add]
  | 1, hj => simp at hj; subst hj; simp [Addr.add]
  | 2, hj => simp at hj; subst hj; simp [Addr.add]
  | 3, hj => simp at hj; subst hj; simp [Addr.add]

set_option maxHeartbeats 1000000 in
set_option maxRecDepth 100000 in
theorem appendForm_any (B : Nat) (v : Value) (ys : List Int) (p : Int) (w : World) (hB : B ≤ w.heap.size) (hT : Tab w) (hown : OwB B w v ys) (hn : ys.length ≤ 8388608) (hp0 : 0 ≤ p) (hp1 : p ≤ 1114111) :
    Calls Tryz.prog 145 #[v, .int .i32 p] w fun e w' => ∃ v', e = .returned v' ∧ OwB B w' v' (ys ++ enc p) ∧ Below B w w' := by
  obtain ⟨i0, hi, hz0, hz1, hz2⟩ := info_parts info5
  have t1 := hT.c1
  have t2 := hT.c2
  have t3 := hT.c3
  clear hT
  by_cases h1 : p < 128
  · have HE : Hid (enc p = [p]) := enc1 p h1
    have hm : p % 256 = p := by omega
    go_enter Tryz.func145, Tryz.ntmps145
    go_wp2_with (first
      | (at_builtin; refine wpList_append_own _ rfl _ _ 57 rfl B 5 i0 (.int .u8 0) 1 1 Tryz.underlying57 hi hz0 hz1 hz2 rfl (by decide) _ _ _ rfl (World.ownsRow.alloc hown _) ⟨w.heap.size, 0, none⟩ 1 1 [.int .u8 p] rfl rfl (cell_one_new _ _ _) (by intro u hu; simp at hu; subst hu; rfl) (by unfold maxLen; omega) (by omega) (by simp; omega) ?_; intro v' w1 hown' hgrow _))
    have R := own_app (xs := [p]) _ hB hown hown' (by simp) hgrow
    clear hown' hgrow hown
    go_wp2
    go_ret
    exact ⟨_, rfl, by rw [HE.out]; exact R.1, R.2⟩
  · by_cases h2 : p < 2048
    · have HE : Hid (enc p = [192 + p / 64, 128 + p % 64]) := enc2 p h1 h2
      have hb : bits .or .u8 192 (p / 64) = 192 + p / 64 := or192 _ (by omega) (by omega)
      have hm : p / 64 % 256 = p / 64 := by omega
      go_enter Tryz.func145, Tryz.ntmps145
      go_wp2_with (first
        | (go_at_call 157; refine (onByte_any _ _ (by omega) (by omega)).mono ?_; rintro e w' ⟨rfl, rfl⟩)
        | (at_builtin; refine wpList_append_own _ rfl _ _ 57 rfl B 5 i0 (.int .u8 0) 1 1 Tryz.underlying57 hi hz0 hz1 hz2 rfl (by decide) _ _ _ rfl (World.ownsRow.alloc hown _) ⟨w.heap.size, 0, none⟩ 2 2 [.int .u8 (192 + p / 64), .int .u8 (128 + p % 64)] rfl rfl (cells_two _ _ _ _) (by intro u hu; simp at hu; rcases hu with rfl | rfl <;> rfl) (by unfold maxLen; omega) (by omega) (by simp; omega) ?_; intro v' w1 hown' hgrow _))
      have R := own_app (xs := [192 + p / 64, 128 + p % 64]) _ hB hown hown' (by simp) hgrow
      clear hown' hgrow hown
      go_wp2
      go_ret
      exact ⟨_, rfl, by rw [HE.out]; exact R.1, R.2⟩
    · by_cases h3 : p < 65536
      · have HE : Hid (enc p = [224 + p / 4096, 128 + p / 64 % 64, 128 + p % 64]) := enc3 p h2 h3
        have hb : bits .or .u8 224 (p / 4096) = 224 + p / 4096 := or224 _ (by omega) (by omega)
        have hm : p / 4096 % 256 = p / 4096 := by omega
        go_enter Tryz.func145, Tryz.ntmps145
        go_wp2_with (first
          | (go_at_call 157; refine (onByte_any _ _ (by omega) (by omega)).mono ?_; rintro e w' ⟨rfl, rfl⟩)
          | (at_builtin; refine wpList_append_own _ rfl _ _ 57 rfl B 5 i0 (.int .u8 0) 1 1 Tryz.underlying57 hi hz0 hz1 hz2 rfl (by decide) _ _ _ rfl (World.ownsRow.alloc hown _) ⟨w.heap.size, 0, none⟩ 3 3 [.int .u8 (224 + p / 4096), .int .u8 (128 + p / 64 % 64), .int .u8 (128 + p % 64)] rfl rfl (cells_three _ _ _ _ _) (by intro u hu; simp at hu; rcases hu with rfl | rfl | rfl <;> rfl) (by unfold maxLen; omega) (by omega) (by simp; omega) ?_; intro v' w1 hown' hgrow _))
        have R := own_app (xs := [224 + p / 4096, 128 + p / 64 % 64, 128 + p % 64]) _ hB hown hown' (by simp) hgrow
        clear hown' hgrow hown
        go_wp2
        go_ret
        exact ⟨_, rfl, by rw [HE.out]; exact R.1, R.2⟩
      · have HE : Hid (enc p = [240 + p / 262144, 128 + p / 4096 % 64, 128 + p / 64 % 64, 128 + p % 64]) := enc4 p h3
        have hb : bits .or .u8 240 (p / 262144) = 240 + p / 262144 := or240 _ (by omega) (by omega)
        have hm : p / 262144 % 256 = p / 262144 := by omega
        go_enter Tryz.func145, Tryz.ntmps145
        go_wp2_with (first
          | (go_at_call 157; refine (onByte_any _ _ (by omega) (by omega)).mono ?_; rintro e w' ⟨rfl, rfl⟩)
          | (at_builtin; refine wpList_append_own _ rfl _ _ 57 rfl B 5 i0 (.int .u8 0) 1 1 Tryz.underlying57 hi hz0 hz1 hz2 rfl (by decide) _ _ _ rfl (World.ownsRow.alloc hown _) ⟨w.heap.size, 0, none⟩ 4 4 [.int .u8 (240 + p / 262144), .int .u8 (128 + p / 4096 % 64), .int .u8 (128 + p / 64 % 64), .int .u8 (128 + p % 64)] rfl rfl (cells_four _ _ _ _ _ _) (by intro u hu; simp at hu; rcases hu with rfl | rfl | rfl | rfl <;> rfl) (by unfold maxLen; omega) (by omega) (by simp; omega) ?_; intro v' w1 hown' hgrow _))
        have R := own_app (xs := [240 + p / 262144, 128 + p / 4096 % 64, 128 + p / 64 % 64, 128 + p % 64]) _ hB hown hown' (by simp) hgrow
        clear hown' hgrow hown
        go_wp2
        go_ret
        exact ⟨_, rfl, by rw [HE.out]; exact R.1, R.2⟩

end Go.Proofs.YtalkhnhhaiigiaaGreatDoor

namespace Go.Proofs.YtalkhnhhaiigiaaGreatDoor
open Go.RowKit

theorem qOne_hex {p : Int} (h1 : short p = []) (h2 : byHex p = true) : qOne p = hex4 p := by simp [qOne, h1, h2]
theorem qOne_enc {p : Int} (h1 : short p = []) (h2 : byHex p = false) : qOne p = enc p := by simp [qOne, h1, h2]
theorem short_no {p : Int} (a : p ≠ 8) (b : p ≠ 12) (c : p ≠ 10) (d : p ≠ 13) (e : p ≠ 9) (f : p ≠ 34) (g : p ≠ 92) : short p = [] := by simp [short, a, b, c, d, e, f, g]

set_option maxHeartbeats 2000000 in
set_option maxRecDepth 100000 in
theorem appendQuoted_any (B : Nat) (v : Value) (ys : List Int) (p : Int) (w : World) (hB : B ≤ w.heap.size) (hT : Tab w) (hown : OwB B w v ys) (hn : ys.length ≤ 8388000) (hp0 : 0 ≤ p) (hp1 : p ≤ 1114111) :
    Calls Tryz.prog 126 #[v, .int .i32 p] w fun e w' => ∃ v', e = .returned v' ∧ OwB B w' v' (ys ++ qOne p) ∧ Below B w w' := by
  have hnot : ∀ (x : Bool) (w : World), (Op.unary .not (.bool x)).run Tryz.prog w = .ok (.bool (!x)) w := fun _ _ => rfl
  obtain ⟨i0, hi, hz0, hz1, hz2⟩ := info_parts info5
  by_cases h34 : p = 34
  · subst h34
    go_enter Tryz.func126, Tryz.ntmps126
    go_wp2_with (at_builtin; refine wpList_append_own _ rfl _ _ 57 rfl B 5 i0 (.int .u8 0) 1 1 Tryz.underlying57 hi hz0 hz1 hz2 rfl (by decide) _ _ _ rfl (World.ownsRow.alloc hown _) ⟨w.heap.size, 0, none⟩ 2 2 [.int .u8 92, .int .u8 34] rfl rfl (cells_two _ _ _ _) (by intro u hu; simp at hu; rcases hu with rfl | rfl <;> rfl) (by unfold maxLen; omega) (by omega) (by simp; omega) ?_; intro v' w1 hown' hgrow _)
    have R := own_app (xs := [92, 34]) _ hB hown hown' (by simp) hgrow
    go_wp2
    go_ret
    exact ⟨_, rfl, R.1, R.2⟩
  by_cases h92 : p = 92
  · subst h92
    go_enter Tryz.func126, Tryz.ntmps126
    go_wp2_with (at_builtin; refine wpList_append_own _ rfl _ _ 57 rfl B 5 i0 (.int .u8 0) 1 1 Tryz.underlying57 hi hz0 hz1 hz2 rfl (by decide) _ _ _ rfl (World.ownsRow.alloc hown _) ⟨w.heap.size, 0, none⟩ 2 2 [.int .u8 92, .int .u8 92] rfl rfl (cells_two _ _ _ _) (by intro u hu; simp at hu; rcases hu with rfl | rfl <;> rfl) (by unfold maxLen; omega) (by omega) (by simp; omega) ?_; intro v' w1 hown' hgrow _)
    have R := own_app (xs := [92, 92]) _ hB hown hown' (by simp) hgrow
    go_wp2
    go_ret
    exact ⟨_, rfl, R.1, R.2⟩
  by_cases h8 : p = 8
  · subst h8
    go_enter Tryz.func126, Tryz.ntmps126
    go_wp2_with (at_builtin; refine Lib.wpList_append_own_string _ rfl _ _ 57 9 rfl B 5 i0 Tryz.underlying57 Tryz.underlying9 hi hz0 hz1 hz2 _ _ _ rfl hown { data := #[92, 98] } rfl (by unfold maxLen; simp [ByteArray.size]; omega) (by simp [ByteArray.size]; omega) hB ?_; intro v1 w1 hown1 hgrow1 _)
    have o1 : OwB B w1 v1 (ys ++ [92, 98]) := own_str _ rfl _ (by simp [ByteArray.size]) hown1
    have b1 := below_own8 hB hown hgrow1
    go_wp2
    go_ret
    exact ⟨_, rfl, o1, b1⟩
  by_cases h12 : p = 12
  · subst h12
    go_enter Tryz.func126, Tryz.ntmps126
    go_wp2_with (at_builtin; refine Lib.wpList_append_own_string _ rfl _ _ 57 9 rfl B 5 i0 Tryz.underlying57 Tryz.underlying9 hi hz0 hz1 hz2 _ _ _ rfl hown { data := #[92, 102] } rfl (by unfold maxLen; simp [ByteArray.size]; omega) (by simp [ByteArray.size]; omega) hB ?_; intro v1 w1 hown1 hgrow1 _)
    have o1 : OwB B w1 v1 (ys ++ [92, 102]) := own_str _ rfl _ (by simp [ByteArray.size]) hown1
    have b1 := below_own8 hB hown hgrow1
    go_wp2
    go_ret
    exact ⟨_, rfl, o1, b1⟩
  by_cases h10 : p = 10
  · subst h10
    go_enter Tryz.func126, Tryz.ntmps126
    go_wp2_with (at_builtin; refine Lib.wpList_append_own_string _ rfl _ _ 57 9 rfl B 5 i0 Tryz.underlying57 Tryz.underlying9 hi hz0 hz1 hz2 _ _ _ rfl hown { data := #[92, 110] } rfl (by unfold maxLen; simp [ByteArray.size]; omega) (by simp [ByteArray.size]; omega) hB ?_; intro v1 w1 hown1 hgrow1 _)
    have o1 : OwB B w1 v1 (ys ++ [92, 110]) := own_str _ rfl _ (by simp [ByteArray.size]) hown1
    have b1 := below_own8 hB hown hgrow1
    go_wp2
    go_ret
    exact ⟨_, rfl, o1, b1⟩
  by_cases h13 : p = 13
  · subst h13
    go_enter Tryz.func126, Tryz.ntmps126
    go_wp2_with (at_builtin; refine Lib.wpList_append_own_string _ rfl _ _ 57 9 rfl B 5 i0 Tryz.underlying57 Tryz.underlying9 hi hz0 hz1 hz2 _ _ _ rfl hown { data := #[92, 114] } rfl (by unfold maxLen; simp [ByteArray.size]; omega) (by simp [ByteArray.size]; omega) hB ?_; intro v1 w1 hown1 hgrow1 _)
    have o1 : OwB B w1 v1 (ys ++ [92, 114]) := own_str _ rfl _ (by simp [ByteArray.size]) hown1
    have b1 := below_own8 hB hown hgrow1
    go_wp2
    go_ret
    exact ⟨_, rfl, o1, b1⟩
  by_cases h9 : p = 9
  · subst h9
    go_enter Tryz.func126, Tryz.ntmps126
    go_wp2_with (at_builtin; refine Lib.wpList_append_own_string _ rfl _ _ 57 9 rfl B 5 i0 Tryz.underlying57 Tryz.underlying9 hi hz0 hz1 hz2 _ _ _ rfl hown { data := #[92, 116] } rfl (by unfold maxLen; simp [ByteArray.size]; omega) (by simp [ByteArray.size]; omega) hB ?_; intro v1 w1 hown1 hgrow1 _)
    have o1 : OwB B w1 v1 (ys ++ [92, 116]) := own_str _ rfl _ (by simp [ByteArray.size]) hown1
    have b1 := below_own8 hB hown hgrow1
    go_wp2
    go_ret
    exact ⟨_, rfl, o1, b1⟩
  by_cases h127 : p = 127
  · subst h127
    have HQ : Hid (qOne 127 = hex4 127) := qOne_hex rfl rfl
    have HX := hide (appendHex_any B v ys 127 w hB hown (by omega) (by omega) (by omega))
    go_enter Tryz.func126, Tryz.ntmps126
    go_wp2_with fail
    refine HX.out.mono ?_
    rintro e w1 ⟨v1, rfl, o1, b1⟩
    rw [← HQ.out] at o1
    go_wp2
    go_ret
    exact ⟨_, rfl, o1, b1⟩
  by_cases h8232 : p = 8232
  · subst h8232
    have HQ : Hid (qOne 8232 = hex4 8232) := qOne_hex rfl rfl
    have HX := hide (appendHex_any B v ys 8232 w hB hown (by omega) (by omega) (by omega))
    go_enter Tryz.func126, Tryz.ntmps126
    go_wp2_with fail
    refine HX.out.mono ?_
    rintro e w1 ⟨v1, rfl, o1, b1⟩
    rw [← HQ.out] at o1
    go_wp2
    go_ret
    exact ⟨_, rfl, o1, b1⟩
  by_cases h8233 : p = 8233
  · subst h8233
    have HQ : Hid (qOne 8233 = hex4 8233) := qOne_hex rfl rfl
    have HX := hide (appendHex_any B v ys 8233 w hB hown (by omega) (by omega) (by omega))
    go_enter Tryz.func126, Tryz.ntmps126
    go_wp2_with fail
    refine HX.out.mono ?_
    rintro e w1 ⟨v1, rfl, o1, b1⟩
    rw [← HQ.out] at o1
    go_wp2
    go_ret
    exact ⟨_, rfl, o1, b1⟩
  have g34 : (p == 34) = false := by simpa using h34
  have g92 : (p == 92) = false := by simpa using h92
  have g8 : (p == 8) = false := by simpa using h8
  have g12 : (p == 12) = false := by simpa using h12
  have g10 : (p == 10) = false := by simpa using h10
  have g13 : (p == 13) = false := by simpa using h13
  have g9 : (p == 9) = false := by simpa using h9
  have g127 : (p == 127) = false := by simpa using h127
  have g8232 : (p == 8232) = false := by simpa using h8232
  have g8233 : (p == 8233) = false := by simpa using h8233
  have hs := short_no h8 h12 h10 h13 h9 h34 h92
  by_cases h32 : p < 32
  · have HQ : Hid (qOne p = hex4 p) := qOne_hex hs (by simp [byHex, h32])
    have HX := hide (appendHex_any B v ys p w hB hown (by omega) hp0 (by omega))
    clear h34 h92 h8 h12 h10 h13 h9 h127 h8232 h8233 hs
    go_enter Tryz.func126, Tryz.ntmps126
    go_wp2_with fail
    refine HX.out.mono ?_
    rintro e w1 ⟨v1, rfl, o1, b1⟩
    rw [← HQ.out] at o1
    go_wp2
    go_ret
    exact ⟨_, rfl, o1, b1⟩
  · cases ho : okPt p
    · have HQ : Hid (qOne p = hex4 p) := qOne_hex hs (by simp [byHex, ho])
      have hlt : p < 65536 := by simp [okPt] at ho; omega
      have HX := hide (appendHex_any B v ys p w hB hown (by omega) hp0 hlt)
      have HF := hide (hasForm_any p)
      rw [ho] at HF
      clear h34 h92 h8 h12 h10 h13 h9 h127 h8232 h8233 hs
      go_enter Tryz.func126, Tryz.ntmps126
      go_wp2_with fail
      refine (HF.out _).mono ?_
      rintro e w1 ⟨rfl, rfl⟩
      go_wp2_with fail
      refine HX.out.mono ?_
      rintro e w1 ⟨v1, rfl, o1, b1⟩
      rw [← HQ.out] at o1
      go_wp2
      go_ret
      exact ⟨_, rfl, o1, b1⟩
    · have HQ : Hid (qOne p = enc p) := qOne_enc hs (by simp [byHex, ho, h32, h127, h8232, h8233])
      have HX := hide (appendForm_any B v ys p w hB hT hown (by omega) hp0 hp1)
      have HF := hide (hasForm_any p)
      rw [ho] at HF
      clear h34 h92 h8 h12 h10 h13 h9 h127 h8232 h8233 hs
      go_enter Tryz.func126, Tryz.ntmps126
      go_wp2_with fail
      refine (HF.out _).mono ?_
      rintro e w1 ⟨rfl, rfl⟩
      go_wp2_with fail
      refine HX.out.mono ?_
      rintro e w1 ⟨v1, rfl, o1, b1⟩
      rw [← HQ.out] at o1
      go_wp2
      go_ret
      exact ⟨_, rfl, o1, b1⟩

end Go.Proofs.YtalkhnhhaiigiaaGreatDoor

namespace Go.Proofs.YtalkhnhhaiigiaaGreatDoor
open Go.RowKit

set_option maxHeartbeats 2000000 in
set_option maxRecDepth 100000 in
theorem implFromUnits_any (v : Value) (zs : List Int) (w : World) (hv : RdI w.heap.size w v zs) (hn : zs.length ≤ 2097152) :
    Calls Tryz.prog 125 #[v] w fun e w' => ∃ v', e = .returned (.tuple #[v', .int .i64 (fuR zs).2]) ∧ OwI w.heap.size w' v' (fuR zs).1 ∧ w.grownBy w' none := by
  obtain ⟨i0, hi, hz0, hz1, hz2⟩ := info_parts info3
  obtain ⟨a, cap, rfl, hr⟩ := hv
  have hnot : ∀ (x : Bool) (w : World), (Op.unary .not (.bool x)).run Tryz.prog w = .ok (.bool (!x)) w := fun _ _ => rfl
  go_enter Tryz.func125, Tryz.ntmps125
  go_wp2_with (at_make; refine wpList_make_own _ rfl _ _ 66 rfl w.heap.size 3 i0 (.int .i64 0) 1 Tryz.underlying66 hi hz0 hz1 _ _ _ zs.length rfl rfl (by omega) ?b2 ?b3 (Nat.le_refl _) ?_)
  case b2 => rw [hz2]; omega
  case b3 => unfold maxLen; omega
  intro w0 hown0 hgrow0
  go_wp2
  go_loopw [4, 5] (fun v i wr => ∃ (k : Nat) (acc : List Int), k ≤ zs.length ∧ i = .int .i64 k ∧ OwI w.heap.size wr v acc ∧ acc.length ≤ k ∧ acc ++ fu (zs.drop k) = fu zs ∧ (zs.take k).all isUn = true ∧ Below w.heap.size w wr)
    (fun _ i _ => zs.length - (intOf i).toNat)
  case atStart => exact ⟨0, [], Nat.zero_le _, rfl, hown0, Nat.le_refl _, by simp, rfl, below_of_grown hgrow0⟩
  case round =>
    obtain ⟨k, acc, hk, rfl, hown, hacc, hx, hall, hnx⟩ := hrel
    clear hown0 hgrow0
    by_cases hlt : k < zs.length
    · obtain ⟨b, off, rfl, hb, hc⟩ := hr (fun h => by simp [h] at hlt)
      have hcx : wr.cell? ⟨b, off + k, none⟩ = some (.int .i64 (zs[k]?.getD 0)) := (hnx.cell (by exact hb)).trans (hc k hlt)
      have hcy : k + 1 < zs.length → wr.cell? ⟨b, off + (k + 1), none⟩ = some (.int .i64 (zs[k + 1]?.getD 0)) := fun h => (hnx.cell (by exact hb)).trans (hc (k + 1) h)
      have h1 := fu_one zs k hlt
      have h2 := fu_two zs k
      have hal := all_snoc zs isUn k hlt hall
      have hal2 : ∀ _ : k + 1 < zs.length, (zs.take (k + 1)).all isUn = true → isUn (zs[k + 1]?.getD 0) = true → (zs.take (k + 2)).all isUn = true := fun h => all_snoc zs isUn (k + 1) h
      have han := all_not zs isUn k hlt
      generalize zs[k]?.getD 0 = p at hcx h1 h2 hal han
      generalize zs[k + 1]?.getD 0 = x at hcy h1 h2 hal2
      clear hc hr hall
      by_cases hu : isUn p = true
      · have hal' := hal hu
        clear hal han
        by_cases hpair : isHi p = true ∧ k + 1 < zs.length ∧ isLo x = true
        · obtain ⟨hp, hlt1, hx2⟩ := hpair
          have HE : Hid (acc ++ [pairOf p x] ++ fu (zs.drop (k + 2)) = fu zs) := fu_step2 hx (h2 hlt1 hp hx2)
          have hal3 := hal2 hlt1 hal' (lo_un hx2)
          have hcy' := hcy hlt1
          have hb1 : 55296 ≤ p ∧ p < 56320 := by simpa [isHi] using hp
          have hb2 : 56320 ≤ x ∧ x ≤ 57343 := by simpa [isLo] using hx2
          obtain ⟨hp1, hp2⟩ := hb1
          obtain ⟨hx3, hx4⟩ := hb2
          clear h1 h2 hcy hx hal2 hal'
          have HP : Hid (pairOf p x = 65536 + (p - 55296) * 1024 + (x - 56320)) := rfl
          go_wp2_with (first
            | (go_at_call 119; refine (isUnit_any _ _).mono ?_; rintro e w' ⟨rfl, rfl⟩; rw [hu])
            | (go_at_call 142; refine (isHigh_any _ _).mono ?_; rintro e w' ⟨rfl, rfl⟩; rw [hp])
            | (go_at_call 143; refine (isLow_any _ _).mono ?_; rintro e w' ⟨rfl, rfl⟩; rw [hx2])
            | (at_builtin; refine wpList_append_own _ rfl _ _ 66 rfl w.heap.size 3 i0 (.int .i64 0) 1 8 Tryz.underlying66 hi hz0 hz1 hz2 rfl (by decide) _ _ _ rfl (World.ownsRow.alloc hown _) ⟨wr.heap.size, 0, none⟩ 1 1 [.int .i64 (65536 + (p - 55296) * 1024 + (x - 56320))] rfl rfl (cell_one_new _ _ _) (by intro u hu; simp at hu; subst hu; rfl) (by unfold maxLen; omega) (by omega) (by have := hnx.size; simp; omega) ?_; intro v' w1 hown' hgrow _))
          have R := own_app (xs := [65536 + (p - 55296) * 1024 + (x - 56320)]) _ hnx.size hown hown' (by simp) hgrow
          clear hown' hgrow hown
          go_wp2
          go_roundw
          case rel => exact ⟨k + 2, acc ++ [65536 + (p - 55296) * 1024 + (x - 56320)], by omega, by go_num, R.1, by simp; omega, by rw [← HP.out]; exact HE.out, hal3, hnx.trans R.2⟩
          case measure => simp [intOf]; omega
        · have HE : Hid (acc ++ [p] ++ fu (zs.drop (k + 1)) = fu zs) := fu_step1 hx (h1 hpair)
          have hway : isHi p = false ∨ (isHi p = true ∧ zs.length ≤ k + 1) ∨ (isHi p = true ∧ k + 1 < zs.length ∧ isLo x = false) := by
            cases h : isHi p
            · exact .inl rfl
            · by_cases h3 : k + 1 < zs.length
              · cases h4 : isLo x
                · exact .inr (.inr ⟨rfl, h3, rfl⟩)
                · exact absurd ⟨h, h3, h4⟩ hpair
              · exact .inr (.inl ⟨rfl, by omega⟩)
          clear h1 h2 hpair hx hal2
          rcases hway with hw | ⟨hw, hw3⟩ | ⟨hw, hw3, hw4⟩
          all_goals
            first
              | (have hcy' := hcy hw3; clear hcy)
              | clear hcy
            go_wp2_with (first
              | (go_at_call 119; refine (isUnit_any _ _).mono ?_; rintro e w' ⟨rfl, rfl⟩; rw [hu])
              | (go_at_call 142; refine (isHigh_any _ _).mono ?_; rintro e w' ⟨rfl, rfl⟩; rw [hw])
              | (go_at_call 143; refine (isLow_any _ _).mono ?_; rintro e w' ⟨rfl, rfl⟩; rw [hw4])
              | (at_builtin; refine wpList_append_own _ rfl _ _ 66 rfl w.heap.size 3 i0 (.int .i64 0) 1 8 Tryz.underlying66 hi hz0 hz1 hz2 rfl (by decide) _ _ _ rfl (World.ownsRow.alloc hown _) ⟨wr.heap.size, 0, none⟩ 1 1 [.int .i64 p] rfl rfl (cell_one_new _ _ _) (by intro u hu; simp at hu; subst hu; rfl) (by unfold maxLen; omega) (by omega) (by have := hnx.size; simp; omega) ?_; intro v' w1 hown' hgrow _))
            have R := own_app (xs := [p]) _ hnx.size hown hown' (by simp) hgrow
            clear hown' hgrow hown
            go_wp2
            go_roundw
            case rel => exact ⟨k + 1, acc ++ [p], by omega, by go_num, R.1, by simp; omega, HE.out, hal', hnx.trans R.2⟩
            case measure => simp [intOf]; omega
      · have hu' : isUn p = false := by simpa using hu
        have HF : Hid (zs.all isUn = false) := han hu'
        clear hal han h1 h2 hal2 hcy hu
        go_wp2_with (go_at_call 119; refine (isUnit_any _ _).mono ?_; rintro e w' ⟨rfl, rfl⟩; rw [hu'])
        go_ret2
        exact ⟨_, by rw [fuR_bad _ HF.out]; rfl, by rw [fuR_bad _ HF.out]; exact World.ownsRow_nil _ _ _ _, grown_of_below hnx⟩
    · have HF : Hid (zs.all isUn = true) := by
        unfold Hid
        rw [List.take_of_length_le (by omega)] at hall
        exact hall
      have hE := fu_end (by omega) hx
      rw [hE] at hown
      clear hx hr hE hall
      go_wp2
      go_ret2
      exact ⟨_, by rw [fuR_ok _ HF.out]; rfl, by rw [fuR_ok _ HF.out]; exact hown, grown_of_below hnx⟩

end Go.Proofs.YtalkhnhhaiigiaaGreatDoor

namespace Go.Proofs.YtalkhnhhaiigiaaGreatDoor
open Go.RowKit

theorem fu_bds : ∀ (n : Nat) (zs : List Int), zs.length ≤ n → zs.all isUn = true → ∀ p ∈ fu zs, 0 ≤ p ∧ p ≤ 1114111
  | _, [], _, _ => by simp [fu]
  | _, [u], _, h => by
    simp [isUn] at h
    simp [fu]
    omega
  | 0, _ :: _ :: _, hl, _ => by simp at hl
  | n + 1, u :: x :: r, hl, h => by
    simp only [List.all_cons, Bool.and_eq_true] at h
    obtain ⟨hu, hx, hr⟩ := h
    have hu' : 0 ≤ u ∧ u < 65536 := by simpa [isUn] using hu
    intro p hp
    simp only [fu] at hp
    split at hp
    · rename_i hh
      simp only [Bool.and_eq_true] at hh
      have h1 : 55296 ≤ u ∧ u < 56320 := by simpa [isHi] using hh.1
      have h2 : 56320 ≤ x ∧ x ≤ 57343 := by simpa [isLo] using hh.2
      rcases List.mem_cons.1 hp with rfl | hp
      · unfold pairOf; omega
      · exact fu_bds n r (by simp at hl; omega) hr p hp
    · rcases List.mem_cons.1 hp with rfl | hp
      · omega
      · exact fu_bds n (x :: r) (by simp at hl ⊢; omega) (by simp only [List.all_cons, hx, hr]; rfl) p hp
theorem fu_bd (us : List Int) (h : (fuR us).2 = 0) : ∀ p ∈ (fuR us).1, 0 ≤ p ∧ p ≤ 1114111 := by
  unfold fuR at h ⊢
  split at h
  · rename_i ha
    rw [if_pos ha]
    exact fu_bds _ us (Nat.le_refl _) ha
  · simp at h
theorem own_one (w : World) (z : Int) : OwB w.heap.size (w.alloc (.cells #[.int .u8 z] 5)) (.slice (some ⟨w.heap.size, 0, none⟩) 1 1) [z] :=
  ⟨rfl, .inr ⟨w.heap.size, 1, #[.int .u8 z], rfl, Nat.le_refl _, heap_alloc_new w _, Nat.le_refl _, by unfold maxLen; omega, rfl, rfl⟩⟩

set_option maxHeartbeats 2000000 in
set_option maxRecDepth 100000 in
theorem implQuote_any (v : Value) (zs : List Int) (w : World) (hT : Tab w) (hv : RdI w.heap.size w v zs) (hn : zs.length ≤ 1048576) :
    Calls Tryz.prog 107 #[v] w fun e w' => ∃ v', e = .returned (.tuple #[v', .int .i64 (quR zs).2]) ∧ OwB w.heap.size w' v' (quR zs).1 ∧ w.grownBy w' none := by
  obtain ⟨i0, hi, hz0, hz1, hz2⟩ := info_parts info5
  have HF := hide (implFromUnits_any v zs w hv (by omega))
  have hbd := fu_bd zs
  have hfl := fuR_len zs
  have HQ : Hid (quR zs = if (fuR zs).2 = 0 then (34 :: qAll (fuR zs).1 ++ [34], 0) else ([], (fuR zs).2)) := rfl
  obtain ⟨a, cap, rfl, _⟩ := hv
  generalize fuR zs = f at HF hbd hfl HQ
  obtain ⟨ps, c⟩ := f
  simp only at HF hbd hfl HQ
  by_cases hc : c = 0
  · subst hc
    have HB := hide (hbd rfl)
    have HR := hide (HQ.out.trans (if_pos rfl))
    clear hbd HQ
    go_enter Tryz.func107, Tryz.ntmps107
    go_wp2_with fail
    refine HF.out.mono ?_
    rintro e w1 ⟨pv, rfl, o1, g1⟩
    obtain ⟨a1, cap1, hpv, hr1⟩ := o1.rd
    subst hpv
    have HT1 := hide (hT.keep g1)
    have HG1 := hide g1
    have hB1 := g1.size
    clear hT HF o1
    go_wp2
    go_loopw [6, 20] (fun v i wr => ∃ k : Nat, k ≤ ps.length ∧ i = .int .i64 k ∧ OwB w1.heap.size wr v (34 :: qAll (ps.take k)) ∧ Below w1.heap.size w1 wr)
      (fun _ i _ => ps.length - (intOf i).toNat)
    case atStart => exact ⟨0, Nat.zero_le _, rfl, own_one w1 34, below_box w1 _⟩
    case round =>
      obtain ⟨k, hk, rfl, hown, hnx⟩ := hrel
      have hlen := qAll_len (ps.take k)
      rw [List.length_take_of_le hk] at hlen
      have hBr := hnx.size
      have hT1 := HT1.out.below hnx HT1.out.pos
      by_cases hlt : k < ps.length
      · obtain ⟨b, off, rfl, hb, hc⟩ := hr1 (fun h => by simp [h] at hlt)
        have hcx : wr.cell? ⟨b, off + k, none⟩ = some (.int .i64 (ps[k]?.getD 0)) := (hnx.cell (by exact hb)).trans (hc k hlt)
        have hst := qAll_step ps k hlt
        have hpb := HB.out (ps[k]?.getD 0) (by simp [hlt])
        generalize ps[k]?.getD 0 = p at hcx hst hpb
        have HE : Hid (34 :: qAll (ps.take (k + 1)) = (34 :: qAll (ps.take k)) ++ qOne p) := by rw [Hid, hst]; rfl
        have HX := hide (appendQuoted_any w1.heap.size _ _ p wr hBr hT1 hown (by simp; omega) hpb.1 hpb.2)
        obtain ⟨hp0, hp1⟩ := hpb
        have hwr : IntKind.i32.wrap p = p := wrap_i32_small p (by omega) (by omega)
        clear hst hc hr1 hown hT1
        go_wp2_with fail
        refine HX.out.mono ?_
        rintro e w2 ⟨v2, rfl, o2, b2⟩
        rw [← HE.out] at o2
        go_wp2
        go_roundw
        case rel => exact ⟨k + 1, by omega, by go_num, o2, hnx.trans b2⟩
        case measure => simp [intOf]; omega
      · have hkn : k = ps.length := by omega
        rw [hkn, List.take_length] at hown hlen
        clear hr1 hkn hT1
        have hl2 : (34 :: qAll ps).length = (qAll ps).length + 1 := by simp
        go_wp2_with (at_builtin; refine wpList_append_own _ rfl _ _ 57 rfl w1.heap.size 5 i0 (.int .u8 0) 1 1 Tryz.underlying57 hi hz0 hz1 hz2 rfl (by decide) _ _ _ rfl (World.ownsRow.alloc hown _) ⟨wr.heap.size, 0, none⟩ 1 1 [.int .u8 34] rfl rfl (cell_one_new _ _ _) (by intro u hu; simp at hu; subst hu; rfl) (by rw [hl2]; unfold maxLen; omega) (by rw [hl2]; omega) (by simp; omega) ?_; intro v' w2 hown' hgrow _)
        have R := own_app (xs := [34]) _ hBr hown hown' (by simp) hgrow
        clear hown' hgrow hown
        go_wp2
        go_ret2
        refine ⟨_, by rw [HR.out]; rfl, ?_, ?_⟩
        · rw [HR.out]
          exact row_base hB1 R.1
        · exact grown_trans HG1.out (grown_of_below (hnx.trans R.2))
  · have HR := hide (HQ.out.trans (if_neg hc))
    have hce : (c != 0) = true := by simpa using hc
    clear hbd HQ hc
    go_enter Tryz.func107, Tryz.ntmps107
    go_wp2_with fail
    refine HF.out.mono ?_
    rintro e w1 ⟨pv, rfl, o1, g1⟩
    go_wp2
    go_ret2
    exact ⟨_, by rw [HR.out]; rfl, by rw [HR.out]; exact World.ownsRow_nil _ _ _ _, g1⟩

end Go.Proofs.YtalkhnhhaiigiaaGreatDoor

