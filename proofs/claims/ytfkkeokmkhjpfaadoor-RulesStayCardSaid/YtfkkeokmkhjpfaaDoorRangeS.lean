/- A range over a function whose iterator keeps no cells of its own behind a round: the rounds may turn whatever it does not lean on, what they have made themselves too. -/
import Derived.Test.YtfkkeokmkhjpfaaDoorRange
namespace Go.Proofs.YtfkkeokmkhjpfaaDoor
open Go.RowKit

/-- The iterator gf, called with yield and lb: it hands over N times, the i-th time arguments that R holds of, until a round says no more. It turns nothing that was there; it leans on blocks of cap, which lie as in w0, and on no other. -/
def IterS (n : Nat) (P : Program) (gf : Nat) (lb : Array Value) (cap : Nat → Prop) (w0 : World) (N : Nat) (R : Nat → Nat → Array Value → World → Prop) : Prop :=
  ∀ (l : Nat) (J Jx : Nat → World → Prop) (C : Nat → Prop) (W : World), (∀ k, cap k → k < W.heap.size ∧ W.heap[k]? = w0.heap[k]?) →
    (∀ k, C k → ¬ cap k) →
    (∀ i A A', J i A → Below A.heap.size A A' → J i A') →
    (∀ i A A', Jx i A → Below A.heap.size A A' → Jx i A') →
    (∀ i args A, i < N → J i A → R W.heap.size i args A → YieldAt Fence.wide (n - 1) P l args A fun e A' =>
      (e = .returned (.bool true) ∧ J (i + 1) A' ∧ Only C A A') ∨ (e = .returned (.bool false) ∧ Jx i A')) →
    J 0 W →
    CallsIn Fence.wide n P gf (#[.func (.yield l) #[] #[]] ++ lb) W fun e A' => (∃ v, e = .returned v) ∧ (J N A' ∨ ∃ i, i < N ∧ Jx i A')

theorem wpIn_rangeS {n : Nat} {P : Program} {g : Operand} {ps : Array Tmp} {assign body : Code} {Q : Exit → Act → World → Prop} {a : Act} {w : World} {gf : Nat} {lb : Array Value}
    (hg : a.eval g = .func (.func gf) #[] lb) (eg : ∀ args w, (callFunc gf args).run P w = .ok (.enter gf args) w)
    {cap : Nat → Prop} {w0 : World} {N : Nat} {R : Nat → Nat → Array Value → World → Prop} (hit : IterS (n - 1) P gf lb cap w0 N R) (hcap : ∀ k, cap k → k < w.heap.size ∧ w.heap[k]? = w0.heap[k]?)
    (hps : ∀ B i args A, R B i args A → args.size = ps.size)
    (C : Nat → Prop) (hC : ∀ k, C k → ¬ cap k ∧ k ≠ w.heap.size ∧ k ≠ w.heap.size + 1)
    (I : Nat → World → Prop) (Ix : Code → Nat → World → Prop)
    (hI : ∀ i A A', I i A → Only (fun k => w.heap.size ≤ k ∧ k < w.heap.size + 2) A A' → I i A')
    (hIx : ∀ c i A A', Ix c i A → Only (fun k => w.heap.size ≤ k ∧ k < w.heap.size + 2) A A' → Ix c i A') (h0 : I 0 w)
    (hround : ∀ l i args (W : World), i < N → I i W → R (w.heap.size + 2) i args W → w.heap.size + 1 < W.heap.size → assign.wpIn (Fence.wide.inRound l) (n - 1 - 1) P
      (Exit.then (fun a₁ W₁ => Only C W W₁ ∧ ∀ W₂, Only (fun k => k = w.heap.size + 1) W₁ W₂ → body.wpIn (Fence.wide.inRound l) (n - 1 - 1) P (roundEnd C I Ix i W₂) a₁ W₂) (fun _ _ _ => False))
      { tmps := (ps.zip args).foldl (fun t (p, v) => t.setIfInBounds p v) a.tmps, defers := [] } W)
    (hdone : ∀ W, I N W → W.heap[w.heap.size]? = some (.deferred (some [])) → Q .normal { a with defers := { target := .collected w.heap.size, args := #[] } :: a.defers } W)
    (hstop : ∀ c i W, i < N → Ix c i W → W.heap[w.heap.size]? = some (.deferred (some [])) → c.wpIn Fence.wide n P Q { a with defers := { target := .collected w.heap.size, args := #[] } :: a.defers } W) :
    (Code.rangeFunc g ps assign body).wpIn Fence.wide n P Q a w := by
  have hdep : ∀ k : Nat, Fence.wide.depth.isSome = true → 1 ≤ k := fun k h => by simp [Fence.wide] at h
  refine wpIn_rangeFunc fun fn hfn => ?_
  obtain ⟨rec, hrec⟩ : ∃ rec : LoopState → Option Code → Loop, rec = fun st pe => { state := st, pending := pe, fn, tmps := a.tmps, params := ps, assign, body, defers := w.heap.size } := ⟨_, rfl⟩
  obtain ⟨W1, hW1⟩ : ∃ W1, (w.alloc (.deferred (some []))).alloc (.loop (rec .ready none)) = W1 := ⟨_, rfl⟩
  have hz1 : W1.heap.size = w.heap.size + 2 := by rw [← hW1]; simp
  have hL1 : W1.heap[w.heap.size + 1]? = some (.loop (rec .ready none)) := by
    rw [← hW1]; have := World.alloc_heap_new (w.alloc (.deferred (some []))) (.loop (rec .ready none)); rwa [World.size_alloc] at this
  have hK1 : W1.heap[w.heap.size]? = some (.deferred (some [])) := by
    rw [← hW1]; exact (Below.heap_alloc _ _ _ (by simp)).trans (World.alloc_heap_new w _)
  have hO1 : Only (fun k => w.heap.size ≤ k ∧ k < w.heap.size + 2) w W1 := by rw [← hW1]; exact ((Only.refl _ w).alloc _).alloc _
  refine ⟨w.heap.size + 1, [{ target := .collected w.heap.size, args := #[] }], W1, { target := .fn (.func gf) lb, args := #[.func (.yield (w.heap.size + 1)) #[] #[]] }, W1, gf,
    #[.func (.yield (w.heap.size + 1)) #[] #[]] ++ lb, W1, ?_, ?_, fun _ _ => trivial, ?_, hdep _, ?_⟩
  · rw [← hW1, hrec]; exact run_enterLoop_outer _ _ _ _ _
  · simp only [resolve, hg]; simp [go_sem]
  · simp [invoke, go_sem, eg]
  have hR : ∀ {A A' : World}, Below A.heap.size A A' → Only (fun k => w.heap.size ≤ k ∧ k < w.heap.size + 2) A A' ∧
      (∀ k, k < A.heap.size → A'.heap[k]? = A.heap[k]?) := fun h => ⟨Only.of_below _ h, h.block⟩
  refine (hit (w.heap.size + 1)
    (fun i W => I i W ∧ W.heap[w.heap.size + 1]? = some (.loop (rec .ready none)) ∧ W.heap[w.heap.size]? = some (.deferred (some [])))
    (fun i W => ∃ c, Ix c i W ∧ W.heap[w.heap.size + 1]? = some (.loop (rec .done (some c))) ∧ W.heap[w.heap.size]? = some (.deferred (some [])))
    (fun k => C k ∨ k = w.heap.size + 1) W1 (fun k hk => ⟨by have := (hcap k hk).1; omega, (hO1.block k (hcap k hk).1 (by have := (hcap k hk).1; omega)).trans (hcap k hk).2⟩)
    ?_ ?_ ?_ ?_ ⟨hI _ _ _ h0 hO1, hL1, hK1⟩).mono ?_
  · rintro k (hk | rfl)
    · exact (hC k hk).1
    · exact fun h => by have := (hcap _ h).1; omega
  · rintro i A A' ⟨hi, hl, hk⟩ ho
    have h2 := hR ho
    have s1 := (Array.getElem?_eq_some_iff.1 hl).1
    exact ⟨hI _ _ _ hi h2.1, (h2.2 _ s1).trans hl, (h2.2 _ (by omega)).trans hk⟩
  · rintro i A A' ⟨c, hi, hl, hk⟩ ho
    have h2 := hR ho
    have s1 := (Array.getElem?_eq_some_iff.1 hl).1
    exact ⟨c, hIx _ _ _ _ hi h2.1, (h2.2 _ s1).trans hl, (h2.2 _ (by omega)).trans hk⟩
  · rintro i args W hlen ⟨hi, hl, hk⟩ hRi
    have hlt : w.heap.size + 1 < W.heap.size := (Array.getElem?_eq_some_iff.1 hl).1
    have hy := run_yield (P := P) (args := args) hl (by rw [hrec]; exact hps _ _ _ _ hRi)
    rw [hrec] at hy
    refine ⟨fn, _, assign, body, hy, roundIn_of_wpIn trivial ?_⟩
    refine wpIn_mono (hround (w.heap.size + 1) i args W hlen hi (hz1 ▸ hRi) hlt) ?_
    rintro e a₁ W₁ hq
    cases e with
    | normal =>
      obtain ⟨hc1, hbody⟩ := hq
      have hl1 : W₁.heap[w.heap.size + 1]? = some (.loop (rec .ready none)) := (hc1.block _ hlt (fun h => by have := hC _ h; omega)).trans hl
      have hk1 : W₁.heap[w.heap.size]? = some (.deferred (some [])) := (hc1.block _ (by omega) (fun h => by have := hC _ h; omega)).trans hk
      have s1 : w.heap.size + 1 < W₁.heap.size := (Array.getElem?_eq_some_iff.1 hl1).1
      refine ⟨_, run_beginRound hl1 (by rw [hrec]), ?_⟩
      have hb2 := hbody (W₁.putObj (w.heap.size + 1) (.loop { rec .ready none with state := .busy })) (Only.putObj _ (by rfl) _)
      have hl2 : (W₁.putObj (w.heap.size + 1) (.loop { rec .ready none with state := .busy })).heap[w.heap.size + 1]? = some (.loop { rec .ready none with state := .busy }) := World.putObj_heap_same s1
      have hk2 : (W₁.putObj (w.heap.size + 1) (.loop { rec .ready none with state := .busy })).heap[w.heap.size]? = some (.deferred (some [])) := (World.putObj_heap_other (by omega)).trans hk1
      have ho2 : Only (fun k => C k ∨ k = w.heap.size + 1) W (W₁.putObj (w.heap.size + 1) (.loop { rec .ready none with state := .busy })) :=
        (hc1.mono fun _ _ h => .inl h).trans (Only.putObj _ (.inr rfl) _)
      refine wpIn_mono hb2 ?_
      generalize W₁.putObj (w.heap.size + 1) (.loop { rec .ready none with state := .busy }) = W₂ at *
      have fin : ∀ (jump : Option Code) (W3 : World), Only C W₂ W3 →
          (Instr.endRound (w.heap.size + 1) jump).run P W3 = .ok (.bool jump.isNone) (W3.putObj (w.heap.size + 1) (.loop (rec (if jump.isNone then .ready else .done) jump))) ∧
          (W3.putObj (w.heap.size + 1) (.loop (rec (if jump.isNone then .ready else .done) jump))).heap[w.heap.size + 1]? = some (.loop (rec (if jump.isNone then .ready else .done) jump)) ∧
          (W3.putObj (w.heap.size + 1) (.loop (rec (if jump.isNone then .ready else .done) jump))).heap[w.heap.size]? = some (.deferred (some [])) ∧
          Only (fun k => w.heap.size ≤ k ∧ k < w.heap.size + 2) W3 (W3.putObj (w.heap.size + 1) (.loop (rec (if jump.isNone then .ready else .done) jump))) ∧
          Only (fun k => C k ∨ k = w.heap.size + 1) W (W3.putObj (w.heap.size + 1) (.loop (rec (if jump.isNone then .ready else .done) jump))) := fun jump W3 hc3 => by
        have hl3 : W3.heap[w.heap.size + 1]? = _ := (hc3.block _ (Array.getElem?_eq_some_iff.1 hl2).1 (fun h => by have := hC _ h; omega)).trans hl2
        have hk3 : W3.heap[w.heap.size]? = some (.deferred (some [])) := (hc3.block _ (Array.getElem?_eq_some_iff.1 hk2).1 (fun h => by have := hC _ h; omega)).trans hk2
        have := run_endRound (P := P) jump hl3
        rw [hrec] at this ⊢
        exact ⟨this, World.putObj_heap_same (Array.getElem?_eq_some_iff.1 hl3).1, (World.putObj_heap_other (by omega)).trans hk3, Only.putObj _ (by omega) _,
          (ho2.trans (hc3.mono fun _ _ h => .inl h)).trans (Only.putObj _ (.inr rfl) _)⟩
      rintro e a3 W3 hp
      cases e with
      | normal =>
        obtain ⟨hc3, hi3⟩ := hp
        obtain ⟨hr, hl4, hk4, hd4, ho4⟩ := fin none W3 hc3
        exact ⟨_, _, hr, .inl ⟨rfl, ⟨hI _ _ _ hi3 hd4, hl4, hk4⟩, ho4⟩⟩
      | ret =>
        obtain ⟨hc3, hi3⟩ := hp
        obtain ⟨hr, hl4, hk4, hd4, _⟩ := fin (some .ret) W3 hc3
        exact ⟨_, _, hr, .inr ⟨rfl, .ret, hIx _ _ _ _ hi3 hd4, hl4, hk4⟩⟩
      | exit id =>
        obtain ⟨hc3, hi3⟩ := hp
        obtain ⟨hr, hl4, hk4, hd4, _⟩ := fin (some (.exit id)) W3 hc3
        exact ⟨_, _, hr, .inr ⟨rfl, .exit id, hIx _ _ _ _ hi3 hd4, hl4, hk4⟩⟩
      | goto t =>
        obtain ⟨hc3, hi3⟩ := hp
        obtain ⟨hr, hl4, hk4, hd4, _⟩ := fin (some (.goto t)) W3 hc3
        exact ⟨_, _, hr, .inr ⟨rfl, .goto t, hIx _ _ _ _ hi3 hd4, hl4, hk4⟩⟩
      | panic ch => exact hp.elim
      | outgrown => exact hp.elim
    | ret => exact hq.elim
    | exit id => exact hq.elim
    | goto t => exact hq.elim
    | panic ch => exact hq.elim
    | outgrown => exact hq.elim
  · rintro e W2 ⟨⟨v, rfl⟩, (⟨hi, hl, hk⟩ | ⟨i, hlen, c, hi, hl, hk⟩)⟩
    · exact ⟨none, _, by have := run_endLoop (P := P) hl (by rw [hrec]; simp); rw [hrec] at this; exact this, hdone _ (hI _ _ _ hi (Only.putObj _ (by omega) _)) ((World.putObj_heap_other (by omega)).trans hk)⟩
    · exact ⟨some c, _, by have := run_endLoop (P := P) hl (by rw [hrec]; simp); rw [hrec] at this; exact this, hstop c i _ hlen (hIx _ _ _ _ hi (Only.putObj _ (by omega) _)) ((World.putObj_heap_other (by omega)).trans hk)⟩
end Go.Proofs.YtfkkeokmkhjpfaaDoor
