import Derived.Test.YtbiiopiaglkicaaDoorWidthImpl
namespace Go.Proofs.YtbiiopiaglkicaaDoor
open Go.RowKit Go.Shelf

section
variable {F : Fence} {n m : Nat} {P : Program}

/-- The loop's record at l, and the block d of the rounds' deferred calls. -/
def Books (l d : Nat) (r : Loop) (W : World) : Prop := W.heap[l]? = some (.loop r) ∧ W.heap[d]? = some (.deferred (some []))
theorem Books.keep {l d : Nat} {r : Loop} {W W' : World} (h : Books l d r W) (k : KeepsOthers W W') : Books l d r W' := ⟨k.same _ _ h.1 rfl, k.same _ _ h.2 rfl⟩
theorem Books.put {l d : Nat} {r : Loop} {W : World} (h : Books l d r W) (hne : d ≠ l) (r' : Loop) : Books l d r' (W.putObj l (.loop r')) :=
  ⟨World.putObj_heap_same (Array.getElem?_eq_some_iff.1 h.1).1, (World.putObj_heap_other hne).trans h.2⟩

/-- A body that goes on, or returns. -/
def bodyEnds (W : World) (G H : World → Prop) : Exit → Act → World → Prop
  | .normal, _, W' => KeepsOthers W W' ∧ G W'
  | .ret, _, W' => KeepsOthers W W' ∧ H W'
  | _, _, _ => False

theorem yield_round {l d : Nat} {r : Loop} {W : World} (hfn : F.fn r.fn) (hst : r.state = .ready) (hne : d ≠ l) (hb : Books l d r W) (args : Array Value) (hsz : args.size = r.params.size) (a₁ : Act) (G H : World → Prop)
    (hassign : ∀ K : Act → World → Prop, K a₁ W → r.assign.wpIn (F.inRound l) m P (Exit.then K (fun _ _ _ => False)) { tmps := (r.params.zip args).foldl (fun t (p, v) => t.setIfInBounds p v) r.tmps, defers := [] } W)
    (hbody : r.body.wpIn (F.inRound l) m P (bodyEnds (W.putObj l (.loop { r with state := .busy })) G H) a₁ (W.putObj l (.loop { r with state := .busy }))) :
    YieldAt F m P l args W fun e W' =>
      (e = .returned (.bool true) ∧ ∃ W3, G W3 ∧ Books l d { r with state := .busy } W3 ∧ W' = W3.putObj l (.loop { r with state := .ready, pending := none })) ∨
      (e = .returned (.bool false) ∧ ∃ W3, H W3 ∧ Books l d { r with state := .busy } W3 ∧ W' = W3.putObj l (.loop { r with state := .done, pending := some .ret })) := by
  refine ⟨r.fn, _, r.assign, r.body, run_yield hb.1 hsz, roundIn_of_wpIn hfn (hassign _ ⟨_, run_beginRound hb.1 hst, wpIn_mono hbody ?_⟩)⟩
  intro e a3 W3 hp
  match e, hp with
  | .normal, hp => exact ⟨_, _, run_endRound none ((hb.put hne _).keep hp.1).1, .inl ⟨rfl, W3, hp.2, (hb.put hne _).keep hp.1, rfl⟩⟩
  | .ret, hp => exact ⟨_, _, run_endRound (some .ret) ((hb.put hne _).keep hp.1).1, .inr ⟨rfl, W3, hp.2, (hb.put hne _).keep hp.1, rfl⟩⟩

/-- A range over a function whose invariant 'I' is known to the iterator too: it may write cells of its own between two rounds, if it shows that 'I' stands. -/
theorem range_known {α : Type} {g : Operand} {ps : Array Tmp} {assign body : Code} {Q : Exit → Act → World → Prop} {a : Act} {w : World}
    (hro : F.round = none) (h1 : 1 ≤ n) {gf : Nat} {lb : Array Value} (hg : a.eval g = .func (.func gf) #[] lb) (hFg : F.fn gf) (eg : ∀ args w, (callFunc gf args).run P w = .ok (.enter gf args) w)
    (encs : α → Array Value) (hps : ∀ x, (encs x).size = ps.size) (I Ix : List α → World → Prop) (Kp : World → World → Prop) (S Sp : List α → Prop) (N : Nat)
    (hIk : ∀ s W l o o', w.heap.size ≤ l → W.heap[l]? = some o → o.isCells = false → I s W → I s (W.putObj l o'))
    (hIxk : ∀ s W l o o', w.heap.size ≤ l → W.heap[l]? = some o → o.isCells = false → Ix s W → Ix s (W.putObj l o'))
    (hKk : ∀ W l o o', w.heap.size ≤ l → W.heap[l]? = some o → o.isCells = false → Kp W (W.putObj l o')) (hKt : ∀ A B C, Kp A B → Kp B C → Kp A C)
    (h0 : ∀ o1 o2, I [] ((w.alloc o1).alloc o2)) (a₁ : α → Act)
    (hassign : ∀ (l : Nat) (x : α) (W : World) (K : Act → World → Prop), K (a₁ x) W → assign.wpIn (F.inRound l) (n - 1 - 1) P (Exit.then K (fun _ _ _ => False)) { tmps := (ps.zip (encs x)).foldl (fun t (p, v) => t.setIfInBounds p v) a.tmps, defers := [] } W)
    (hbody : ∀ (l : Nat) (pre : List α) (x : α) (W : World), I pre W → pre.length < N → body.wpIn (F.inRound l) (n - 1 - 1) P (bodyEnds W (fun W' => Kp W W' ∧ I (pre ++ [x]) W') (Ix (pre ++ [x]))) (a₁ x) W)
    (hseq : ∀ (l : Nat) (R Rx : World → Prop) (W : World), Below w.heap.size w W → (∀ A B, R A → KeepsOthers A B → R B) → (∀ A B, Rx A → KeepsOthers A B → Rx B) → R W → I [] W →
      (∀ pre x A, I pre A → R A → pre.length < N → YieldAt F (n - 1 - 1) P l (encs x) A fun e B => (e = .returned (.bool true) ∧ I (pre ++ [x]) B ∧ Kp A B ∧ R B) ∨ (e = .returned (.bool false) ∧ Ix (pre ++ [x]) B ∧ Rx B)) →
      CallsIn F (n - 1) P gf (#[.func (.yield l) #[] #[]] ++ lb) W fun e B => (∃ v, e = .returned v) ∧ ((∃ xs, S xs ∧ I xs B ∧ R B) ∨ (∃ pre, Sp pre ∧ Ix pre B ∧ Rx B)))
    (hdone : ∀ (D : Nat) (xs : List α) (W : World), w.heap.size ≤ D → S xs → I xs W → W.heap[D]? = some (.deferred (some [])) → Q .normal { a with defers := { target := .collected D, args := #[] } :: a.defers } W)
    (hstop : ∀ (D : Nat) (pre : List α) (W : World), w.heap.size ≤ D → Sp pre → Ix pre W → W.heap[D]? = some (.deferred (some [])) → Code.ret.wpIn F n P Q { a with defers := { target := .collected D, args := #[] } :: a.defers } W) :
    (Code.rangeFunc g ps assign body).wpIn F n P Q a w := by
  refine wpIn_rangeFunc fun fn hfn => ?_
  obtain ⟨r, hr⟩ : ∃ r : Loop, r = { state := .ready, pending := none, fn := fn, tmps := a.tmps, params := ps, assign := assign, body := body, defers := w.heap.size } := ⟨_, rfl⟩
  have hst : r.state = .ready := by rw [hr]
  have hne : w.heap.size ≠ w.heap.size + 1 := by omega
  have hb : Books (w.heap.size + 1) w.heap.size r ((w.alloc (.deferred (some []))).alloc (.loop r)) := by
    constructor
    · have := World.alloc_heap_new (w.alloc (.deferred (some []))) (.loop r)
      rwa [World.size_alloc] at this
    · exact (Below.heap_alloc _ _ _ (by simp)).trans (World.alloc_heap_new w _)
  have hbel : Below w.heap.size w ((w.alloc (.deferred (some []))).alloc (.loop r)) := ((Below.refl _ w).alloc (Nat.le_refl _) _).alloc (by simp) _
  refine ⟨w.heap.size + 1, [{ target := .collected w.heap.size, args := #[] }], (w.alloc (.deferred (some []))).alloc (.loop r), { target := .fn (.func gf) lb, args := #[.func (.yield (w.heap.size + 1)) #[] #[]] }, (w.alloc (.deferred (some []))).alloc (.loop r), gf,
    #[.func (.yield (w.heap.size + 1)) #[] #[]] ++ lb, (w.alloc (.deferred (some []))).alloc (.loop r), ?_, ?_, ?_, ?_, fun _ => h1, ?_⟩
  · rw [hro, hr]; exact run_enterLoop_outer _ _ _ _ _
  · simp only [resolve, hg]; simp [go_sem]
  · intro f' hf'; simp [Target.leads] at hf'; subst hf'; exact hFg
  · simp [invoke, go_sem, eg]
  · have iter := hseq (w.heap.size + 1) (Books (w.heap.size + 1) w.heap.size r) (Books (w.heap.size + 1) w.heap.size { r with state := .done, pending := some .ret }) _ hbel (fun _ _ h k => h.keep k) (fun _ _ h k => h.keep k) hb (h0 _ _) ?_
    · refine iter.mono ?_
      rintro e B ⟨⟨v, rfl⟩, ⟨xs, hS, hI, hR⟩ | ⟨pre, hS, hI, hR⟩⟩
      · refine ⟨r.pending, _, run_endLoop hR.1 (by rw [hst]; simp), ?_⟩
        rw [hr]
        exact hdone _ xs _ (Nat.le_refl _) hS (hIk _ _ _ _ _ (by omega) hR.1 rfl hI) ((World.putObj_heap_other hne).trans hR.2)
      · refine ⟨some .ret, _, run_endLoop hR.1 (by simp), ?_⟩
        exact hstop _ pre _ (Nat.le_refl _) hS (hIxk _ _ _ _ _ (by omega) hR.1 rfl hI) ((World.putObj_heap_other hne).trans hR.2)
    · intro pre x A hI hR hlen
      have hround := yield_round (F := F) (m := n - 1 - 1) (P := P) (by rw [hr]; exact hfn) hst hne hR (encs x) (by rw [hr]; exact hps x) (a₁ x) (fun W' => Kp (A.putObj (w.heap.size + 1) (.loop { r with state := .busy })) W' ∧ I (pre ++ [x]) W') (Ix (pre ++ [x]))
        (fun K hK => by rw [hr]; exact hassign _ x A K hK) (by
          have := hbody (w.heap.size + 1) pre x (A.putObj (w.heap.size + 1) (.loop { r with state := .busy })) (hIk _ _ _ _ _ (by omega) hR.1 rfl hI) hlen
          subst hr
          exact this)
      obtain ⟨f', tm, as', bd', hy, hR'⟩ := hround
      refine ⟨f', tm, as', bd', hy, hR'.mono ?_⟩
      rintro e B (⟨rfl, W3, ⟨hk3, hI3⟩, hb3, rfl⟩ | ⟨rfl, W3, hI3, hb3, rfl⟩)
      · refine .inl ⟨rfl, hIk _ _ _ _ _ (by omega) hb3.1 rfl hI3, hKt _ _ _ (hKt _ _ _ (hKk _ _ _ _ (by omega) hR.1 rfl) hk3) (hKk _ _ _ _ (by omega) hb3.1 rfl), ?_⟩
        have := hb3.put hne { r with state := .ready, pending := none }
        rw [hr] at this ⊢
        exact this
      · exact .inr ⟨rfl, hIxk _ _ _ _ _ (by omega) hb3.1 rfl hI3, hb3.put hne _⟩

end

end Go.Proofs.YtbiiopiaglkicaaDoor
