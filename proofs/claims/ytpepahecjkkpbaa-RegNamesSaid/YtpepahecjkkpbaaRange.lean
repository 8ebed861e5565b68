/- A range over a function whose iterator keeps cells of its own: who may turn what. -/
import Derived.RangeFuncRecord
import Derived.RangeFuncSeq
import Derived.RangeFuncLeaves
import Derived.Below
import Derived.Test.YtpepahecjkkpbaaBase
namespace Go.Proofs.Ytpepahecjkkpbaa
open Go.RowKit

/-- Of what was there, only blocks of C have turned. -/
structure Only (C : Nat → Prop) (W W' : World) : Prop where
  os : W'.os = W.os
  tape : W'.tape = W.tape
  output : W'.output = W.output
  size : W.heap.size ≤ W'.heap.size
  block : ∀ k, k < W.heap.size → ¬ C k → W'.heap[k]? = W.heap[k]?

namespace Only
variable {C D : Nat → Prop} {A B W W' : World}
theorem refl (C : Nat → Prop) (W : World) : Only C W W := ⟨rfl, rfl, rfl, Nat.le_refl _, fun _ _ _ => rfl⟩
theorem trans {X : World} (h : Only C A B) (k : Only C B X) : Only C A X :=
  ⟨k.os.trans h.os, k.tape.trans h.tape, k.output.trans h.output, Nat.le_trans h.size k.size, fun i hi hc => (k.block i (Nat.lt_of_lt_of_le hi h.size) hc).trans (h.block i hi hc)⟩
theorem mono (h : Only C A B) (hC : ∀ k, k < A.heap.size → C k → D k) : Only D A B := ⟨h.os, h.tape, h.output, h.size, fun k hk hd => h.block k hk fun hc => hd (hC k hk hc)⟩
theorem of_below (C : Nat → Prop) (h : Below W.heap.size W W') : Only C W W' := ⟨h.os, h.tape, h.output, h.size, fun k hk _ => h.block k hk⟩
theorem drew (h : Only C A B) : Only C A B.drew := ⟨h.os, h.tape, h.output, h.size, h.block⟩
theorem alloc (h : Only C A B) (o : Obj) : Only C A (B.alloc o) := h.trans (of_below C (below_one B o))
theorem setCell (h : Only C A B) {p : Addr} (hp : C p.block ∨ A.heap.size ≤ p.block) (u : Value) : Only C A (B.setCell p u) :=
  ⟨h.os, h.tape, h.output, by simpa [World.setCell] using h.size, fun k hk hc => (Below.heap_setCell B p u k (by rintro rfl; rcases hp with hp | hp; exact hc hp; omega)).trans (h.block k hk hc)⟩
theorem below (h : Only C A B) {n : Nat} (hn : n ≤ A.heap.size) (hC : ∀ k, C k → n ≤ k) : Below n A B :=
  ⟨h.os, h.tape, h.output, h.size, fun k hk => h.block k (by omega) fun hc => by have := hC k hc; omega⟩
theorem then_below {n : Nat} {w : World} (hn : n ≤ w.heap.size) (hb : Below n w A) (h : Only C A B) (hC : ∀ k, C k → n ≤ k) : Below n w B :=
  hb.trans (h.below (Nat.le_trans hn hb.size) hC)
theorem putObj (W : World) {r : Nat} (hr : C r) (o : Obj) : Only C W (W.putObj r o) :=
  ⟨rfl, rfl, rfl, by simp, fun k _ hc => World.putObj_heap_other (by rintro rfl; exact hc hr)⟩
theorem cell (h : Only C A B) {p : Addr} {v : Value} (hc : A.cell? p = some v) (hp : ¬ C p.block) : B.cell? p = some v :=
  (World.cell?_of_block (w := A) (h.block p.block (World.block_lt_of_cell? _ _ hc) hp)).trans hc
theorem frozen (h : Only C A B) {p : Addr} (hl : p.block < A.heap.size) (hp : ¬ C p.block) : B.frozen? p = A.frozen? p :=
  World.frozen?_of_block (w := A) (h.block p.block hl hp)
end Only

/-- The iterator gf, called with yield and lb: it hands xs over, one by one, until a round says no more. It turns m blocks of its own alone, which it lays first; it leans on blocks of cap, which lie as in w0. -/
def Iter (n : Nat) (P : Program) (gf : Nat) (lb : Array Value) (m : Nat) (cap : Nat → Prop) (w0 : World) (xs : List (Array Value)) : Prop :=
  ∀ (l : Nat) (J Jx : Nat → World → Prop) (C : Nat → Prop) (W : World), (∀ k, cap k → k < W.heap.size ∧ W.heap[k]? = w0.heap[k]?) →
    (∀ k, C k → ¬ cap k ∧ ¬ (W.heap.size ≤ k ∧ k < W.heap.size + m)) →
    (∀ i A A', J i A → Only (fun k => W.heap.size ≤ k ∧ k < W.heap.size + m) A A' → J i A') →
    (∀ i A A', Jx i A → Only (fun k => W.heap.size ≤ k ∧ k < W.heap.size + m) A A' → Jx i A') →
    (∀ i (h : i < xs.length) A, J i A → YieldAt Fence.wide (n - 1) P l xs[i] A fun e A' =>
      (e = .returned (.bool true) ∧ J (i + 1) A' ∧ Only C A A') ∨ (e = .returned (.bool false) ∧ Jx i A')) →
    J 0 W →
    CallsIn Fence.wide n P gf (#[.func (.yield l) #[] #[]] ++ lb) W fun e A' => (∃ v, e = .returned v) ∧ (J xs.length A' ∨ ∃ i, i < xs.length ∧ Jx i A')

/-- How the body of a round may be left. -/
def roundEnd (C : Nat → Prop) (I : Nat → World → Prop) (Ix : Code → Nat → World → Prop) (i : Nat) (W : World) : Exit → Act → World → Prop
  | .normal, _, W' => Only C W W' ∧ I (i + 1) W'
  | .ret, _, W' => Only C W W' ∧ Ix .ret i W'
  | .exit id, _, W' => Only C W W' ∧ Ix (.exit id) i W'
  | .goto t, _, W' => Only C W W' ∧ Ix (.goto t) i W'
  | .panic _, _, _ => False
  | .outgrown, _, _ => False

theorem wpIn_range {n : Nat} {P : Program} {g : Operand} {ps : Array Tmp} {assign body : Code} {Q : Exit → Act → World → Prop} {a : Act} {w : World} {gf : Nat} {lb : Array Value}
    (hg : a.eval g = .func (.func gf) #[] lb) (eg : ∀ args w, (callFunc gf args).run P w = .ok (.enter gf args) w)
    {m : Nat} {cap : Nat → Prop} {w0 : World} {xs : List (Array Value)} (hit : Iter (n - 1) P gf lb m cap w0 xs) (hcap : ∀ k, cap k → k < w.heap.size ∧ w.heap[k]? = w0.heap[k]?)
    (hps : ∀ i (h : i < xs.length), xs[i].size = ps.size)
    (C : Nat → Prop) (hC : ∀ k, C k → ¬ cap k ∧ ¬ (w.heap.size ≤ k ∧ k < w.heap.size + 2 + m))
    (I : Nat → World → Prop) (Ix : Code → Nat → World → Prop)
    (hI : ∀ i A A', I i A → Only (fun k => w.heap.size ≤ k ∧ k < w.heap.size + 2 + m) A A' → I i A')
    (hIx : ∀ c i A A', Ix c i A → Only (fun k => w.heap.size ≤ k ∧ k < w.heap.size + 2 + m) A A' → Ix c i A') (h0 : I 0 w)
    (hround : ∀ l i (h : i < xs.length) (W : World), I i W → w.heap.size + 1 < W.heap.size → assign.wpIn (Fence.wide.inRound l) (n - 1 - 1) P
      (Exit.then (fun a₁ W₁ => Only C W W₁ ∧ ∀ W₂, Only (fun k => k = w.heap.size + 1) W₁ W₂ → body.wpIn (Fence.wide.inRound l) (n - 1 - 1) P (roundEnd C I Ix i W₂) a₁ W₂) (fun _ _ _ => False))
      { tmps := (ps.zip xs[i]).foldl (fun t (p, v) => t.setIfInBounds p v) a.tmps, defers := [] } W)
    (hdone : ∀ W, I xs.length W → W.heap[w.heap.size]? = some (.deferred (some [])) → Q .normal { a with defers := { target := .collected w.heap.size, args := #[] } :: a.defers } W)
    (hstop : ∀ c i W, i < xs.length → Ix c i W → W.heap[w.heap.size]? = some (.deferred (some [])) → c.wpIn Fence.wide n P Q { a with defers := { target := .collected w.heap.size, args := #[] } :: a.defers } W) :
    (Code.rangeFunc g ps assign body).wpIn Fence.wide n P Q a w := by
  have hdep : ∀ k : Nat, Fence.wide.depth.isSome = true → 1 ≤ k := fun k h => by simp [Fence.wide] at h
  refine wpIn_rangeFunc fun fn hfn => ?_
  obtain ⟨rec, hrec⟩ : ∃ rec : LoopState → Option Code → Loop, rec = fun st pe => { state := st, pending := pe, fn, tmps := a.tmps, params := ps, assign, body, defers := w.heap.size } := ⟨_, rfl⟩
  obtain ⟨W1, hW1⟩ : ∃ W1, (w.alloc (.deferred (some []))).alloc (.loop (rec .ready none)) = W1 := ⟨_, rfl⟩
  have hz1 : W1.heap.size = w.heap.size + 2 := by rw [← hW1]; simp
  have hL1 : W1.heap[w.heap.size + 1]? = some (.loop (rec .ready none)) := by
    rw [← hW1]; have := World.alloc_heap_new (w.alloc (.deferred (some []))) (.loop (rec .ready none)); rwa [World.size_alloc] at this
  have hK1 : W1.heap[w.heap.size]? = some (.deferred (some [])) := by
    rw [← hW1]; exact (Below.heap_alloc _ _ _ (by simp)).trans (World.alloc_heap_new w _)
  have hO1 : Only (fun k => w.heap.size ≤ k ∧ k < w.heap.size + 2 + m) w W1 := by rw [← hW1]; exact ((Only.refl _ w).alloc _).alloc _
  refine ⟨w.heap.size + 1, [{ target := .collected w.heap.size, args := #[] }], W1, { target := .fn (.func gf) lb, args := #[.func (.yield (w.heap.size + 1)) #[] #[]] }, W1, gf,
    #[.func (.yield (w.heap.size + 1)) #[] #[]] ++ lb, W1, ?_, ?_, fun _ _ => trivial, ?_, hdep _, ?_⟩
  · rw [← hW1, hrec]; exact run_enterLoop_outer _ _ _ _ _
  · simp only [resolve, hg]; simp [go_sem]
  · simp [invoke, go_sem, eg]
  have hR : ∀ {A A' : World}, Only (fun k => W1.heap.size ≤ k ∧ k < W1.heap.size + m) A A' → Only (fun k => w.heap.size ≤ k ∧ k < w.heap.size + 2 + m) A A' ∧
      (∀ k, k < A.heap.size → k ≤ w.heap.size + 1 → A'.heap[k]? = A.heap[k]?) := fun h =>
    ⟨h.mono fun k _ hk => by omega, fun k hk hle => h.block k hk (by omega)⟩
  refine (hit (w.heap.size + 1)
    (fun i W => I i W ∧ W.heap[w.heap.size + 1]? = some (.loop (rec .ready none)) ∧ W.heap[w.heap.size]? = some (.deferred (some [])))
    (fun i W => ∃ c, Ix c i W ∧ W.heap[w.heap.size + 1]? = some (.loop (rec .done (some c))) ∧ W.heap[w.heap.size]? = some (.deferred (some [])))
    (fun k => C k ∨ k = w.heap.size + 1) W1 (fun k hk => ⟨by have := (hcap k hk).1; omega, (hO1.block k (hcap k hk).1 (by have := (hcap k hk).1; omega)).trans (hcap k hk).2⟩)
    ?_ ?_ ?_ ?_ ⟨hI _ _ _ h0 hO1, hL1, hK1⟩).mono ?_
  · rintro k (hk | rfl)
    · have := hC k hk
      exact ⟨this.1, by omega⟩
    · exact ⟨fun h => by have := (hcap _ h).1; omega, by omega⟩
  · rintro i A A' ⟨hi, hl, hk⟩ ho
    have h2 := hR ho
    have s1 := (Array.getElem?_eq_some_iff.1 hl).1
    exact ⟨hI _ _ _ hi h2.1, (h2.2 _ s1 (Nat.le_refl _)).trans hl, (h2.2 _ (by omega) (by omega)).trans hk⟩
  · rintro i A A' ⟨c, hi, hl, hk⟩ ho
    have h2 := hR ho
    have s1 := (Array.getElem?_eq_some_iff.1 hl).1
    exact ⟨c, hIx _ _ _ _ hi h2.1, (h2.2 _ s1 (Nat.le_refl _)).trans hl, (h2.2 _ (by omega) (by omega)).trans hk⟩
  · rintro i hlen W ⟨hi, hl, hk⟩
    have hlt : w.heap.size + 1 < W.heap.size := (Array.getElem?_eq_some_iff.1 hl).1
    have hy := run_yield (P := P) (args := xs[i]) hl (by rw [hrec]; exact hps i hlen)
    rw [hrec] at hy
    refine ⟨fn, _, assign, body, hy, roundIn_of_wpIn trivial ?_⟩
    refine wpIn_mono (hround (w.heap.size + 1) i hlen W hi hlt) ?_
    rintro e a₁ W₁ hq
    cases e with
    | normal =>
      obtain ⟨hc1, hbody⟩ := hq
      have hl1 : W₁.heap[w.heap.size + 1]? = some (.loop (rec .ready none)) := (hc1.block _ hlt (fun h => by have := hC _ h; omega)).trans hl
      have hk1 : W₁.heap[w.heap.size]? = some (.deferred (some [])) := (hc1.block _ (by omega) (fun h => by have := hC _ h; omega)).trans hk
      have s1 : w.heap.size + 1 < W₁.heap.size := (Array.getElem?_eq_some_iff.1 hl1).1
      refine ⟨_, run_beginRound hl1 (by rw [hrec]), ?_⟩
      have hb2 := hbody (W₁.putObj (w.heap.size + 1) (.loop { rec .ready none with state := .busy })) (Only.putObj _ (by rfl) _)
      have hl2 : (W₁.putObj (w.heap.size + 1) (.loop { rec .ready none with state := .busy })).heap[w.heap.size + 1]? = some (.loop { rec .ready none with state := .busy }) := World.putObj_heap_same s1
      have hk2 : (W₁.putObj (w.heap.size + 1) (.loop { rec .ready none with state := .busy })).heap[w.heap.size]? = some (.deferred (some [])) := (World.putObj_heap_other (by omega)).trans hk1
      have ho2 : Only (fun k => C k ∨ k = w.heap.size + 1) W (W₁.putObj (w.heap.size + 1) (.loop { rec .ready none with state := .busy })) :=
        (hc1.mono fun _ _ h => .inl h).trans (Only.putObj _ (.inr rfl) _)
      refine wpIn_mono hb2 ?_
      generalize W₁.putObj (w.heap.size + 1) (.loop { rec .ready none with state := .busy }) = W₂ at *
      have fin : ∀ (jump : Option Code) (W3 : World), Only C W₂ W3 →
          (Instr.endRound (w.heap.size + 1) jump).run P W3 = .ok (.bool jump.isNone) (W3.putObj (w.heap.size + 1) (.loop (rec (if jump.isNone then .ready else .done) jump))) ∧
          (W3.putObj (w.heap.size + 1) (.loop (rec (if jump.isNone then .ready else .done) jump))).heap[w.heap.size + 1]? = some (.loop (rec (if jump.isNone then .ready else .done) jump)) ∧
          (W3.putObj (w.heap.size + 1) (.loop (rec (if jump.isNone then .ready else .done) jump))).heap[w.heap.size]? = some (.deferred (some [])) ∧
          Only (fun k => w.heap.size ≤ k ∧ k < w.heap.size + 2 + m) W3 (W3.putObj (w.heap.size + 1) (.loop (rec (if jump.isNone then .ready else .done) jump))) ∧
          Only (fun k => C k ∨ k = w.heap.size + 1) W (W3.putObj (w.heap.size + 1) (.loop (rec (if jump.isNone then .ready else .done) jump))) := fun jump W3 hc3 => by
        have hl3 : W3.heap[w.heap.size + 1]? = _ := (hc3.block _ (Array.getElem?_eq_some_iff.1 hl2).1 (fun h => by have := hC _ h; omega)).trans hl2
        have hk3 : W3.heap[w.heap.size]? = some (.deferred (some [])) := (hc3.block _ (Array.getElem?_eq_some_iff.1 hk2).1 (fun h => by have := hC _ h; omega)).trans hk2
        have := run_endRound (P := P) jump hl3
        rw [hrec] at this ⊢
        exact ⟨this, World.putObj_heap_same (Array.getElem?_eq_some_iff.1 hl3).1, (World.putObj_heap_other (by omega)).trans hk3, Only.putObj _ (by omega) _,
          (ho2.trans (hc3.mono fun _ _ h => .inl h)).trans (Only.putObj _ (.inr rfl) _)⟩
      rintro e a3 W3 hp
      cases e with
      | normal =>
        obtain ⟨hc3, hi3⟩ := hp
        obtain ⟨hr, hl4, hk4, hd4, ho4⟩ := fin none W3 hc3
        exact ⟨_, _, hr, .inl ⟨rfl, ⟨hI _ _ _ hi3 hd4, hl4, hk4⟩, ho4⟩⟩
      | ret =>
        obtain ⟨hc3, hi3⟩ := hp
        obtain ⟨hr, hl4, hk4, hd4, _⟩ := fin (some .ret) W3 hc3
        exact ⟨_, _, hr, .inr ⟨rfl, .ret, hIx _ _ _ _ hi3 hd4, hl4, hk4⟩⟩
      | exit id =>
        obtain ⟨hc3, hi3⟩ := hp
        obtain ⟨hr, hl4, hk4, hd4, _⟩ := fin (some (.exit id)) W3 hc3
        exact ⟨_, _, hr, .inr ⟨rfl, .exit id, hIx _ _ _ _ hi3 hd4, hl4, hk4⟩⟩
      | goto t =>
        obtain ⟨hc3, hi3⟩ := hp
        obtain ⟨hr, hl4, hk4, hd4, _⟩ := fin (some (.goto t)) W3 hc3
        exact ⟨_, _, hr, .inr ⟨rfl, .goto t, hIx _ _ _ _ hi3 hd4, hl4, hk4⟩⟩
      | panic ch => exact hp.elim
      | outgrown => exact hp.elim
    | ret => exact hq.elim
    | exit id => exact hq.elim
    | goto t => exact hq.elim
    | panic ch => exact hq.elim
    | outgrown => exact hq.elim
  · rintro e W2 ⟨⟨v, rfl⟩, (⟨hi, hl, hk⟩ | ⟨i, hlen, c, hi, hl, hk⟩)⟩
    · exact ⟨none, _, by have := run_endLoop (P := P) hl (by rw [hrec]; simp); rw [hrec] at this; exact this, hdone _ (hI _ _ _ hi (Only.putObj _ (by omega) _)) ((World.putObj_heap_other (by omega)).trans hk)⟩
    · exact ⟨some c, _, by have := run_endLoop (P := P) hl (by rw [hrec]; simp); rw [hrec] at this; exact this, hstop c i _ hlen (hIx _ _ _ _ hi (Only.putObj _ (by omega) _)) ((World.putObj_heap_other (by omega)).trans hk)⟩

/-- A return behind such a loop: the block for the rounds' deferred calls is shut. -/
theorem marks_ret {n : Nat} {P : Program} {fn : Func} {R : Ending → World → Prop} {tmps : Array Value} {W : World} {D : Nat} {v : Value}
    (hK : W.heap[D]? = some (.deferred (some []))) (hr : (results fn tmps).run P (W.putObj D (.deferred none)) = .ok v (W.putObj D (.deferred none))) (hR : R (.returned v) (W.putObj D (.deferred none))) :
    bodyPostM Fence.wide n P fn R .ret { tmps := tmps, defers := [{ target := .collected D, args := #[] }] } W :=
  ⟨by simp, .inl ⟨_, _, rfl, run_takeDeferred hK, ⟨v, hr, hR⟩⟩⟩

/-- A return ahead of such a loop. -/
theorem plain_ret {n : Nat} {P : Program} {fn : Func} {R : Ending → World → Prop} {tmps : Array Value} {W : World} {v : Value}
    (hr : (results fn tmps).run P W = .ok v W) (hR : R (.returned v) W) : bodyPostM Fence.wide n P fn R .ret { tmps := tmps, defers := [] } W := ⟨v, hr, hR⟩

theorem cell_putObj {W : World} {D : Nat} {o' : Obj} {p : Addr} {v : Value} (hne : p.block ≠ D) (h : W.cell? p = some v) : (W.putObj D o').cell? p = some v :=
  (World.cell?_of_block (w := W) (World.putObj_heap_other hne)).trans h
theorem below_putObj {n : Nat} {w W : World} {D : Nat} (h : Below n w W) (hD : n ≤ D) (o : Obj) : Below n w (W.putObj D o) :=
  h.trans ⟨rfl, rfl, rfl, by simp, fun k hk => World.putObj_heap_other (by omega)⟩
end Go.Proofs.Ytpepahecjkkpbaa
