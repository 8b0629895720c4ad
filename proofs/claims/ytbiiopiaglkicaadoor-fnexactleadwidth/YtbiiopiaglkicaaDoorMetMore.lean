import Derived.Test.YtbiiopiaglkicaaDoorMetIter
import Derived.Test.YtbiiopiaglkicaaDoorAssert
namespace Go.Proofs.YtbiiopiaglkicaaDoor
open Go.RowKit Go.Shelf
attribute [local go_sem] Oper.semAt_some

theorem Rep.base {X : Nat → Prop} {B B' : Nat} {w : World} (hB : B ≤ B') : ∀ {T : Tr} {v : Value}, Rep X B w v T → Rep X B' w v T
  | .leaf p, v, h => by
    simp only [Rep] at h ⊢
    rcases h with h | h | h | h | h | ⟨h1, b, tv, h2, h3, h4, h5, h7, h8⟩
    · exact .inl h
    · exact .inr (.inl h)
    · exact .inr (.inr (.inl h))
    · exact .inr (.inr (.inr (.inl h)))
    · exact .inr (.inr (.inr (.inr (.inl h))))
    · exact .inr (.inr (.inr (.inr (.inr ⟨h1, b, tv, h2, h3, h4, h5, Rd.wide h7 hB, h8⟩))))
  | .un p x, v, h => by
    simp only [Rep] at h ⊢
    obtain ⟨b, u, h3, h4, h5, h6, h7⟩ := h
    exact ⟨b, u, h3, h4, h5, h6.base hB, h7⟩
  | .bin p x y, v, h => by
    simp only [Rep] at h ⊢
    obtain ⟨b, u, u', h3, h4, h5, h5', h6, h6', h7⟩ := h
    exact ⟨b, u, u', h3, h4, h5, h5', h6.base hB, h6'.base hB, h7⟩

theorem KpX.refl (n₀ tb : Nat) (W : World) : KpX n₀ tb W W := ⟨Below.refl _ _, fun _ _ h _ _ => h, fun _ h => .inl h⟩
set_option maxHeartbeats 400000 in
theorem metIn_in (n : Nat) (t : TypeId) (u : Value) (fl : Bool) (w : World) :
    CallsIn Fence.wide n Tryd.prog 54 #[.iface t u, .bool fl] w fun e w' => e = .returned (.func (.func 79) #[] #[.pointer (some ⟨w.heap.size, 0, none⟩), .pointer (some ⟨w.heap.size + 1, 0, none⟩)]) ∧ (w.alloc (.cells #[.iface t u] 84)).alloc (.cells #[.bool fl] 4) = w' := by
  refine callsIn_of_wp Tryd.func54 rfl trivial ?_ rfl
  simp only [Tryd.ntmps54, List.size_toArray, List.length_cons, List.length_nil, Nat.reduceAdd, Nat.reduceSub, Array.replicate_succ, Array.replicate_zero, List.push_toArray, List.append_toArray, List.nil_append, List.cons_append]
  gi_wp2
  go_ret
  exact ⟨rfl, rfl⟩

end Go.Proofs.YtbiiopiaglkicaaDoor
