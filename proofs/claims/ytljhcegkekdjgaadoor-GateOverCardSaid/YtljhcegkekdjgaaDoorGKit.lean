/- A region that draws its order, in a function or in a round of a range over a function: its operations read, or call what only makes memory of its own; a few at its end, in one order, may write. One walk in the order of the text serves every order. A list that a call makes by append, an element at a time: one cell an element. Lists of plain structs: those that lie somewhere, and those that are made by append, by their contents. A range over a function whose iterator keeps cells of its own: who may turn what. A range over a function whose iterator keeps no cells of its own behind a round: the rounds may turn whatever it does not lean on, what they have made themselves too. -/
import Derived.StillTail
import Derived.Deep.Quiet
import Derived.OrdersIn
import Derived.TacticsIn
import Derived.Test.YtljhcegkekdjgaaDoorGMath
import Derived.Maps.AppendAt
import Derived.Deep.AppendLies
import Derived.OwnWalk
import Derived.Laws.AppendOwnNone
import Derived.RangeFuncRecord
import Derived.RangeFuncSeq
import Derived.RangeFuncLeaves
import Derived.Below
namespace Go.Proofs.YtljhcegkekdjgaaDoor
open Go.RowKit

section
variable {P : Program} {ops : Array Oper} {md : Region.Mode} {C : World → Prop}

/-- The head of the region, in whatever order; then T. -/
def wpHead (P : Program) (md : Region.Mode) (ops : Array Oper) (C : World → Prop) (n : Nat) (T : Array Bool → Act → Prop) : Nat → Array Bool → Act → Prop
  | 0, listed, a => T listed a
  | f + 1, listed, a => Region.ready md ops listed ≠ [] ∧ ∀ i ∈ Region.ready md ops listed, i < n ∧ qOp P ops C i (wpHead P md ops C n T f (listed.setIfInBounds i true)) a

/-- What is kept while the head is gone through: as long as one of it is left, none of the tail comes up. -/
structure Keeps (md : Region.Mode) (ops : Array Oper) (n : Nat) (I : Array Bool → Prop) : Prop where
  set : ∀ listed i, I listed → i ∈ Region.ready md ops listed → i < n → I (listed.setIfInBounds i true)
  waits : ∀ listed i, I listed → i < n → listed.getD i true = false → ∀ t, n ≤ t → t ∉ Region.ready md ops listed
theorem keeps_head {n : Nat} (hs : Region.sinkB md ops n = true) (hc : Region.chainB md ops n = true) (hn : n < ops.size) : Keeps md ops n (HeadInv md ops n) :=
  ⟨fun _ _ inv hr hin => inv.set hr hin, fun _ i inv hi hun t ht => tail_waits hs hc hn inv _ i rfl hi hun t ht⟩

theorem wpHead_first {n i : Nat} {I : Array Bool → Prop} {oi : Oper} {v : Value} {T : Array Bool → Act → Prop} (hi : ops[i]? = some oi) (hsel : ∀ (j : Nat) (o : Oper) cs b, ops[j]? = some o → o.op ≠ .select cs b)
    (hk : Keeps md ops n I) (hin : i < n) (hdone : ∀ listed a, T listed a → ∀ j ∈ Region.ready md ops listed, n ≤ j) :
    ∀ (f : Nat) (listed : Array Bool) (a : Act), I listed →
      (∀ j oj, ops[j]? = some oj → j ≠ i → listed.getD j true = false → (∀ e ∈ oj.after, Region.binds md e = true → e.on ≠ i) → oi.apart ops oj = true) →
      i ∈ Region.ready md ops listed → YieldsIn P ops C oi v a →
      wpHead P md ops C n T f (listed.setIfInBounds i true) (a.put oi.dst v) → wpHead P md ops C n T (f + 1) listed a := by
  intro f
  induction f with
  | zero =>
    intro listed a inv _ hr hy H
    refine ⟨List.ne_nil_of_mem hr, fun j hj => ?_⟩
    have hjn : j < n := Nat.lt_of_not_le fun h => hk.waits _ i inv hin (mem_ready.1 hr).1 j h hj
    refine ⟨hjn, ?_⟩
    by_cases hji : j = i
    · subst hji; exact hy.qOp hi H
    · exact absurd (hdone _ _ H j (ready_mono hj hji)) (by omega)
  | succ f ih =>
    intro listed a inv hfree hr hy H
    have hun := (mem_ready.1 hr).1
    refine ⟨List.ne_nil_of_mem hr, fun j hj => ?_⟩
    have hjn : j < n := Nat.lt_of_not_le fun h => hk.waits _ i inv hin hun j h hj
    refine ⟨hjn, ?_⟩
    by_cases hji : j = i
    · subst hji; exact hy.qOp hi H
    · obtain ⟨hjun, oj, hoj, hall⟩ := mem_ready.1 hj
      have hnot : ∀ e ∈ oj.after, Region.binds md e = true → e.on ≠ i := fun e he hb heq => by
        have h1 := hall e he hb
        rw [heq, getD_both hun] at h1
        cases h1
      have h2 := qOp_put hoj (hfree j oj hoj hji hjun hnot) (fun cs b => hsel i oi cs b hi) (fun cs b => hsel j oj cs b hoj) hy (H.2 j (ready_mono hj hji)).2
      refine qOp_mono (fun a' h3 => ih (listed.setIfInBounds j true) a' (hk.set _ _ inv hj hjn) (fun k ok hk hki hu hno => ?_) (ready_mono hr (Ne.symm hji)) h3.1 ?_) h2
      · refine hfree k ok hk hki ?_ hno
        by_cases hjk : j = k
        · subst hjk; exact hjun
        · rw [getD_set_ne true hjk] at hu; exact hu
      · rw [Array.setIfInBounds_comm _ _ hji]; exact h3.2

theorem wpHead_lex {n g : Nat} {I : Array Bool → Prop} {T : Act → Prop} (hsel : Region.noSelect ops = true) (hkeep : Keeps md ops n I) :
    ∀ (l : List Oper) (k : Nat) (listed : Array Bool) (a : Act), (∀ j, j < l.length → l[j]? = ops[k + j]?) → k + l.length = n → I listed →
      Region.lexHead md ops g l.length k listed = true → wpQuiet P ops C T l a →
      wpHead P md ops C n (fun listed' a' => Region.seqB md ops g n listed' = true ∧ T a') l.length listed a
  | [], k, listed, a, _, hk, _, hB, h => by
    obtain rfl : k = n := by simpa using hk
    exact ⟨by simpa [Region.lexHead] using hB, h⟩
  | o :: l, k, listed, a, hl, hk, inv, hB, h => by
    have h0 : ops[k]? = some o := by simpa using (hl 0 (by simp)).symm
    simp only [List.length_cons, Region.lexHead, Bool.and_eq_true] at hB
    simp only [List.length_cons] at hk
    have hr : k ∈ Region.ready md ops listed := by simpa using hB.1.1
    have hq : qOp P ops C k (wpQuiet P ops C T l) a := by unfold qOp; simp only [h0]; exact h
    obtain ⟨v, hy, hK⟩ := yieldsIn_of_qOp h0 hq
    exact wpHead_first h0 (Region.noSelect_spec hsel) hkeep (by omega) (fun _ _ hT => seqB_ready hT.1) l.length listed a inv (Region.free_spec h0 hB.1.2) hr hy
      (wpHead_lex hsel hkeep l (k + 1) _ _ (fun j hj => by have := hl (j + 1) (by simp; omega); simpa [Nat.add_assoc, Nat.add_comm 1 j] using this) (by omega) (hkeep.set _ _ inv hr (by omega)) hB.2 hK)

theorem wpAny_of_wpHead {n g : Nat} {T : Array Bool → Act → Prop} {Q : Exit → Act → World → Prop} (hT : ∀ listed a w, C w → T listed a → wpAny P md ops Q g listed a w) :
    ∀ (f : Nat) (listed : Array Bool) (a : Act) (w : World), C w → wpHead P md ops C n T f listed a → wpAny P md ops Q (f + g) listed a w
  | 0, listed, a, w, hw, h => by rw [Nat.zero_add]; exact hT _ _ _ hw h
  | f + 1, listed, a, w, hw, h => by
    rw [show f + 1 + g = (f + g) + 1 by omega]
    exact ⟨fun h0 => absurd h0 h.1, fun i hi => wpOp_of_qOp hw (fun a' w' hw' h' => wpAny_of_wpHead hT f _ a' w' hw' h') (h.2 i hi).2⟩

/-- The whole, in a function. -/
theorem wp_region_tail {id : Nat} {Q : Exit → Act → World → Prop} {a : Act} {w : World} {l : List Oper} (n : Nat) (hm : P.follows .mixedOrders = true) (hB : Region.lexTailB .any l.toArray n = true) (hC : C { w with drawn := w.drawn + 1 })
    (h : wpQuiet P l.toArray C (fun a' => ∀ w', C w' → wpList P l.toArray Q (l.drop n) a' w') (l.take n) a) : (Code.region id l.toArray true).wp P Q a w := by
  simp only [Region.lexTailB, Bool.and_eq_true, decide_eq_true_eq] at hB
  obtain ⟨⟨⟨⟨hsel, hn⟩, hs⟩, hc⟩, hlex⟩ := hB
  have hn' : n < l.length := by simpa using hn
  have htl : (l.take n).length = n := by simp; omega
  have hdl : (l.drop n).length = l.toArray.size - n := by simp
  have inv0 : HeadInv .any l.toArray n (Array.replicate l.toArray.size false) :=
    ⟨by simp, fun j oj _ hl => (by rw [getD_replicate_false] at hl; cases hl), fun t _ ht => getD_in (by simpa using ht) (getD_replicate_false _ _)⟩
  have H := wpHead_lex (md := .any) (g := l.toArray.size - n) hsel (keeps_head hs hc hn) (l.take n) 0 _ a (fun j hj => by
    have hj' : j < n := by rw [htl] at hj; exact hj
    simp [hj']) (by simpa using htl) inv0 (by rw [htl]; exact hlex) h
  refine wp_region_any hm ?_
  have := wpAny_of_wpHead (Q := Q) (g := l.toArray.size - n) (fun listed a' w' hw' hT => by
    have := wpAny_of_seq (md := .any) (Q' := Q) (l.drop n) n listed a' w' (fun j => by simp [List.getElem?_drop]) (by rw [hdl]; exact hT.1) (hT.2 w' hw')
    rwa [hdl] at this) _ _ _ _ hC H
  rw [htl, show n + (l.toArray.size - n) = l.toArray.size by omega] at this
  exact this

/-- All of the head but its first operation is waited for. -/
def sink1B (md : Region.Mode) (ops : Array Oper) (n : Nat) : Bool :=
  (List.range n).all fun i => decide (i = 0) || (List.range (n + 1)).any fun j => decide (i < j) && Region.waitsFor md ops j i
theorem waits1 {n : Nat} {listed : Array Bool} (hs : sink1B md ops n = true) (hc : Region.chainB md ops n = true) (hn : n < ops.size) (inv : HeadInv md ops n listed) (h0 : listed.getD 0 true = true) :
    ∀ (d i : Nat), n - i = d → i < n → listed.getD i true = false → ∀ t, n ≤ t → t ∉ Region.ready md ops listed := by
  intro d
  induction d using Nat.strongRecOn with
  | _ d ih =>
    intro i hd hi hun t ht hr
    obtain ⟨_, ot, hot, hall⟩ := mem_ready.1 hr
    have late : ∀ {j k : Nat} {oj : Oper} {e}, ops[j]? = some oj → e ∈ oj.after → Region.binds md e = true → e.on = k → listed.getD k true = false → j ∉ Region.ready md ops listed := fun hj he hb hon hk hrd => by
      obtain ⟨_, o', ho', hall'⟩ := mem_ready.1 hrd
      obtain rfl := Option.some.inj (hj.symm.trans ho')
      have := hall' _ he hb
      rw [hon, getD_both hk] at this
      cases this
    by_cases htn : t = n
    · have h1 := List.all_eq_true.1 hs i (List.mem_range.2 hi)
      rw [Bool.or_eq_true] at h1
      rcases h1 with h1 | h1
      · rw [of_decide_eq_true h1, h0] at hun; cases hun
      · obtain ⟨j, hj, hj2⟩ := List.any_eq_true.1 h1
        simp only [Bool.and_eq_true, decide_eq_true_eq] at hj2
        obtain ⟨oj, hoj, e, he, hb, hon⟩ := Region.waitsFor_spec hj2.2
        have hjn := List.mem_range.1 hj
        by_cases hjt : j = n
        · exact late hoj he hb hon hun (by rw [hjt, ← htn]; exact hr)
        · cases hl : listed.getD j false with
          | true =>
            have h2 := inv.closed j oj hoj hl e he hb
            rw [hon, getD_both hun] at h2
            cases h2
          | false => exact ih (n - j) (by omega) j rfl (by omega) (getD_in (by rw [inv.size]; omega) hl) t ht hr
    · have htlt : t < ops.size := (Array.getElem?_eq_some_iff.1 hot).1
      have h1 := List.all_eq_true.1 hc t (List.mem_range.2 htlt)
      simp only [Bool.or_eq_true, decide_eq_true_eq] at h1
      rcases h1 with h1 | h1
      · omega
      · obtain ⟨o', ho', e, he, hb, hon⟩ := Region.waitsFor_spec h1
        exact late ho' he hb hon (inv.tail (t - 1) (by omega) (by omega)) hr
theorem getD_set_here (listed : Array Bool) (i : Nat) : (listed.setIfInBounds i true).getD i true = true := by
  by_cases h : i < listed.size <;> simp [h]
theorem keeps1 {n : Nat} (hs : sink1B md ops n = true) (hc : Region.chainB md ops n = true) (hn : n < ops.size) : Keeps md ops n (fun listed => HeadInv md ops n listed ∧ listed.getD 0 true = true) :=
  ⟨fun listed i inv hr hin => ⟨inv.1.set hr hin, by
      by_cases h : i = 0
      · subst h; exact getD_set_here _ _
      · rw [getD_set_ne true h]; exact inv.2⟩, fun _ i inv hi hun t ht => waits1 hs hc hn inv.1 inv.2 _ i rfl hi hun t ht⟩

def lexTail1B (md : Region.Mode) (ops : Array Oper) (n : Nat) : Bool :=
  Region.noSelect ops && decide (n < ops.size) && decide (0 < n) && sink1B md ops n && Region.chainB md ops n && Region.free md ops (Array.replicate ops.size false) 0 && (Region.ready md ops (Array.replicate ops.size false)).contains 0 &&
    Region.lexHead md ops (ops.size - n) (n - 1) 1 ((Array.replicate ops.size false).setIfInBounds 0 true)

/-- The whole, in a function, where the first operation is a move that may come up at any time ('x = append(x, ..)'). -/
theorem wp_region_tail1 {id : Nat} {Q : Exit → Act → World → Prop} {a : Act} {w : World} {o0 : Oper} {l : List Oper} (s : Operand) (ho : o0.op = .move s) (hgd : o0.guard = none) (n : Nat) (hm : P.follows .mixedOrders = true) (hB : lexTail1B .any (o0 :: l).toArray (n + 1) = true) (hC : C { w with drawn := w.drawn + 1 })
    (hQ : ∀ v c a w, Q (.panic c) (a.put o0.dst v) w → Q (.panic c) a w)
    (h : wpQuiet P (o0 :: l).toArray C (fun a' => ∀ w', C w' → wpList P (o0 :: l).toArray Q (l.drop n) a' w') (o0 :: l.take n) a) : (Code.region id (o0 :: l).toArray true).wp P Q a w := by
  have hwant : Region.wanted o0 (yielded (o0 :: l).toArray a.tmps) = true := by simp [Region.wanted, hgd]
  have h : wpQuiet P (o0 :: l).toArray C (fun a' => ∀ w', C w' → wpList P (o0 :: l).toArray Q (l.drop n) a' w') (l.take n) (a.put o0.dst (a.eval s)) := by
    unfold wpQuiet at h
    rw [if_pos hwant] at h
    obtain ⟨v, h1, h2⟩ := h
    have h3 := h1 _ hC
    have hrun : ∀ w, (execOp a.eval o0).run P w = .ok (.value (a.eval s)) w := fun w => by simp [execOp, ho, go_sem]
    unfold Oper.quietAt at h3
    rw [hrun] at h3
    rw [h3.2]; exact h2
  simp only [lexTail1B, Bool.and_eq_true, decide_eq_true_eq] at hB
  obtain ⟨⟨⟨⟨⟨⟨⟨hsel, hn⟩, _⟩, hs⟩, hc⟩, hfree⟩, hready⟩, hlex⟩ := hB
  have hn' : n < l.length := by simpa using hn
  have htl : (l.take n).length = n := by simp; omega
  have hdl : (l.drop n).length = (o0 :: l).toArray.size - (n + 1) := by simp
  have inv0 : HeadInv .any (o0 :: l).toArray (n + 1) (Array.replicate (o0 :: l).toArray.size false) :=
    ⟨by simp, fun j oj _ hl => (by rw [getD_replicate_false] at hl; cases hl), fun t _ ht => getD_in (by simpa using ht) (getD_replicate_false _ _)⟩
  have hr0 : 0 ∈ Region.ready .any (o0 :: l).toArray (Array.replicate (o0 :: l).toArray.size false) := by simpa using hready
  have inv1 := inv0.set hr0 (by omega)
  have H := wpHead_lex (md := .any) (g := (o0 :: l).toArray.size - (n + 1)) hsel (keeps1 hs hc hn) (l.take n) 1 _ _ (fun j hj => by
    have hj' : j < n := by rw [htl] at hj; exact hj
    simp [hj', Nat.add_comm 1 j]) (by rw [htl]; omega) ⟨inv1, getD_set_here _ _⟩ (by rw [htl]; exact hlex) h
  refine wp_region_any hm ?_
  have hsz : (o0 :: l).toArray.size = (n + ((o0 :: l).toArray.size - (n + 1))) + 1 := by omega
  have := wpAny_of_wpHead (Q := Q) (g := (o0 :: l).toArray.size - (n + 1)) (fun listed a' w' hw' hT => by
    have := wpAny_of_seq (md := .any) (Q' := Q) (l.drop n) (n + 1) listed a' w' (fun j => by simp [List.getElem?_drop, show n + 1 + j = (n + j) + 1 by omega]) (by rw [hdl]; exact hT.1) (hT.2 w' hw')
    rwa [hdl] at this) _ _ _ _ hC H
  rw [htl] at this
  have hfin := wpAny_take (P := P) (Q := Q) (md := .any) (ops := (o0 :: l).toArray) (i := 0) (oi := o0) (v := a.eval s) (fuel := n + ((o0 :: l).toArray.size - (n + 1))) (listed := Array.replicate (o0 :: l).toArray.size false) (a := a) (w := { w with drawn := w.drawn + 1 }) rfl hsel hfree hready (hQ _) (.inl ⟨?_, fun w => ?_⟩) this
  · rwa [← hsz] at hfin
  · simp [Region.wanted, hgd]
  · simp [execOp, ho, go_sem]

/-! Inside the wide fence, in a round or not. -/

/-- The wide fence, of a round. -/
abbrev wideR (ro : Option Nat) : Fence := { Fence.wide with round := ro }
theorem callsIn_wideR {ro : Option Nat} {n : Nat} {f : FuncId} {args : Array Value} {w : World} {R : Ending → World → Prop} (h : Calls P f args w R) : CallsIn (wideR ro) n P f args w R := (callsIn_wide (n := n)).2 h

/-- No operation defers. -/
def noDeferB (l : List Oper) : Bool := l.all fun o => match o.op with | .defer _ => false | _ => true
theorem noDefer_spec {l : List Oper} (h : noDeferB l = true) {i : Nat} {o : Oper} (ho : l.toArray[i]? = some o) (c : Call) : o.op ≠ .defer c := by
  intro e
  have := List.all_eq_true.1 h o (by have := Array.mem_of_getElem? ho; simpa using this)
  rw [e] at this
  cases this

theorem wpOpIn_of_q {ro : Option Nat} {n : Nat} {l : List Oper} (hnd : noDeferB l = true) {i : Nat} {a : Act} {K : Act → Prop} {K' : Act → World → Prop} {Q : Exit → Act → World → Prop} {w : World} (hw : C w) (h : ∀ a w', C w' → K a → K' a w')
    (hh : qOp P l.toArray C i K a) : wpOpIn (wideR ro) n P l.toArray Q i K' a w := by
  unfold qOp at hh
  unfold wpOpIn
  split
  · rename_i ho; simp only [ho] at hh; exact h _ _ hw hh
  · rename_i o ho
    simp only [ho] at hh
    split
    · rename_i hwa
      simp only [hwa, if_true] at hh
      obtain ⟨v, h1, h2⟩ := hh
      have h3 := h1 w hw
      unfold Oper.quietAt at h3
      refine ⟨fun _ _ => trivial, ?_⟩
      rw [Oper.semAt_eq _ _ _ (noDefer_spec hnd ho)]
      generalize (execOp a.eval o).run P w = r at *
      cases r with
      | ok x w' =>
        cases x <;> simp only [Oper.quietUpon] at h3 <;> simp only [Oper.uponIn]
        case value u => obtain ⟨e1, e2⟩ := h3; rw [e1, e2]; exact h _ _ hw h2
        case skip => obtain ⟨e1, e2⟩ := h3; rw [e1, ← e2]; exact h _ _ hw h2
        case enter f args =>
          obtain ⟨e1, hcall⟩ := h3
          rw [e1]
          refine ⟨fun hd => by simp [Fence.wide] at hd, (callsIn_wideR hcall).mono ?_⟩
          rintro e w'' ⟨rfl, hw''⟩
          exact h _ _ hw'' h2
      | halt x w' => simp only [Oper.quietUpon] at h3
    · rename_i hwa
      simp only [hwa] at hh
      exact ⟨fun _ _ => trivial, h _ _ hw hh⟩

theorem wpAnyIn_of_q {ro : Option Nat} {n : Nat} {l : List Oper} (hnd : noDeferB l = true) {T : Act → Prop} {Q : Exit → Act → World → Prop} (hT : ∀ a w, C w → T a → Q .normal a w) : ∀ (fuel : Nat) (listed : Array Bool) (a : Act) (w : World), C w →
    wpAnyQ P md l.toArray C T fuel listed a → wpAnyIn (wideR ro) n P md l.toArray Q fuel listed a w
  | 0, _, _, _, hw, h => ⟨h.1, hT _ _ hw h.2⟩
  | fuel + 1, _, _, _, hw, h => ⟨fun h0 => hT _ _ hw (h.1 h0), fun i hi => wpOpIn_of_q hnd hw (fun a' w' hw' => wpAnyIn_of_q hnd hT fuel _ a' w' hw') (h.2 i hi)⟩

theorem wpAnyIn_of_wpHead {ro : Option Nat} {k : Nat} {l : List Oper} (hnd : noDeferB l = true) {n g : Nat} {T : Array Bool → Act → Prop} {Q : Exit → Act → World → Prop} (hT : ∀ listed a w, C w → T listed a → wpAnyIn (wideR ro) k P md l.toArray Q g listed a w) :
    ∀ (f : Nat) (listed : Array Bool) (a : Act) (w : World), C w → wpHead P md l.toArray C n T f listed a → wpAnyIn (wideR ro) k P md l.toArray Q (f + g) listed a w
  | 0, listed, a, w, hw, h => by rw [Nat.zero_add]; exact hT _ _ _ hw h
  | f + 1, listed, a, w, hw, h => by
    rw [show f + 1 + g = (f + g) + 1 by omega]
    exact ⟨fun h0 => absurd h0 h.1, fun i hi => wpOpIn_of_q hnd hw (fun a' w' hw' h' => wpAnyIn_of_wpHead hnd hT f _ a' w' hw' h') (h.2 i hi).2⟩

theorem wpAnyIn_of_seq {F : Fence} {n : Nat} {Q : Exit → Act → World → Prop} : ∀ (l : List Oper) (k : Nat) (listed : Array Bool) (a : Act) (w : World), (∀ j, l[j]? = ops[k + j]?) →
    Region.seqB md ops l.length k listed = true → wpListIn F n P ops Q l a w → wpAnyIn F n P md ops Q l.length listed a w
  | [], _, _, _, _, _, hB, h => ⟨by simpa [Region.seqB] using hB, h⟩
  | o :: l, k, listed, a, w, hl, hB, h => by
    have h0 : ops[k]? = some o := by simpa using (hl 0).symm
    simp only [List.length_cons, Region.seqB, Bool.and_eq_true, decide_eq_true_eq] at hB
    refine ⟨fun h1 => (by rw [hB.1] at h1; cases h1), fun i hi => ?_⟩
    rw [hB.1] at hi
    obtain rfl : i = k := by simpa using hi
    have hw : wpOpIn F n P ops Q i (wpListIn F n P ops Q l) a w := by unfold wpOpIn; simp only [h0]; exact h
    exact wpOpIn_mono (fun a' w' h' => wpAnyIn_of_seq l (i + 1) _ a' w' (fun j => by have := hl (j + 1); simpa [Nat.add_assoc, Nat.add_comm 1 j] using this) hB.2 h') hw

/-- The whole, inside the wide fence: nothing writes. -/
theorem wpIn_region_still {ro : Option Nat} {m id : Nat} {Q : Exit → Act → World → Prop} {a : Act} {w : World} {l : List Oper} (hm : P.follows .mixedOrders = true) (hB : Region.lexB .any l.toArray = true) (hnd : noDeferB l = true) (hC : C { w with drawn := w.drawn + 1 })
    (h : wpQuiet P l.toArray C (fun a' => ∀ w', C w' → Q .normal a' w') l a) : (Code.region id l.toArray true).wpIn (wideR ro) m P Q a w := by
  simp only [Region.lexB, Bool.and_eq_true] at hB
  refine wpIn_region_any hm (wpAnyIn_of_q hnd (T := fun a' => ∀ w', C w' → Q .normal a' w') (fun _ w' hw' h => h w' hw') _ _ _ _ hC ?_)
  have := wpAnyQ_lex (C := C) (md := .any) hB.1 l 0 (Array.replicate l.toArray.size false) a (by simp) (by simpa using hB.2) h
  simpa using this

/-- The whole, inside the wide fence: the last operations may write. -/
theorem wpIn_region_tail {ro : Option Nat} {m id : Nat} {Q : Exit → Act → World → Prop} {a : Act} {w : World} {l : List Oper} (n : Nat) (hm : P.follows .mixedOrders = true) (hB : Region.lexTailB .any l.toArray n = true) (hnd : noDeferB l = true) (hC : C { w with drawn := w.drawn + 1 })
    (h : wpQuiet P l.toArray C (fun a' => ∀ w', C w' → wpListIn (wideR ro) m P l.toArray Q (l.drop n) a' w') (l.take n) a) : (Code.region id l.toArray true).wpIn (wideR ro) m P Q a w := by
  simp only [Region.lexTailB, Bool.and_eq_true, decide_eq_true_eq] at hB
  obtain ⟨⟨⟨⟨hsel, hn⟩, hs⟩, hc⟩, hlex⟩ := hB
  have hn' : n < l.length := by simpa using hn
  have htl : (l.take n).length = n := by simp; omega
  have hdl : (l.drop n).length = l.toArray.size - n := by simp
  have inv0 : HeadInv .any l.toArray n (Array.replicate l.toArray.size false) :=
    ⟨by simp, fun j oj _ hl => (by rw [getD_replicate_false] at hl; cases hl), fun t _ ht => getD_in (by simpa using ht) (getD_replicate_false _ _)⟩
  have H := wpHead_lex (md := .any) (g := l.toArray.size - n) hsel (keeps_head hs hc hn) (l.take n) 0 _ a (fun j hj => by
    have hj' : j < n := by rw [htl] at hj; exact hj
    simp [hj']) (by simpa using htl) inv0 (by rw [htl]; exact hlex) h
  refine wpIn_region_any hm ?_
  have := wpAnyIn_of_wpHead (ro := ro) (k := m) hnd (Q := Q) (g := l.toArray.size - n) (fun listed a' w' hw' hT => by
    have := wpAnyIn_of_seq (md := .any) (F := wideR ro) (n := m) (Q := Q) (l.drop n) n listed a' w' (fun j => by simp [List.getElem?_drop]) (by rw [hdl]; exact hT.1) (hT.2 w' hw')
    rwa [hdl] at this) _ _ _ _ hC H
  rw [htl, show n + (l.toArray.size - n) = l.toArray.size by omega] at this
  exact this
end

/-! At the class 'what was there is as it was'. -/
section
open Go.Sort
variable {P : Program} {id : Nat} {Q : Exit → Act → World → Prop} {a : Act} {w : World} {l : List Oper}

theorem wp_region_tail_below (n : Nat) (hm : P.follows .mixedOrders = true) (hB : Region.lexTailB .any l.toArray n = true)
    (h : wpQuiet P l.toArray (fun w' => ∃ p : Regrown, w' = grow (redrawn w p.d) p.os) (fun a' => ∀ w', (∃ p : Regrown, w' = grow (redrawn w p.d) p.os) → wpList P l.toArray Q (l.drop n) a' w') (l.take n) a) : (Code.region id l.toArray true).wp P Q a w :=
  wp_region_tail n hm hB ⟨⟨w.drawn + 1, #[]⟩, by rw [grow_empty]; rfl⟩ h

theorem wpIn_region_still_below {ro : Option Nat} {m : Nat} (hm : P.follows .mixedOrders = true) (hB : Region.lexB .any l.toArray = true) (hnd : noDeferB l = true)
    (h : wpQuiet P l.toArray (fun w' => ∃ p : Regrown, w' = grow (redrawn w p.d) p.os) (fun a' => ∀ w', (∃ p : Regrown, w' = grow (redrawn w p.d) p.os) → Q .normal a' w') l a) : (Code.region id l.toArray true).wpIn (wideR ro) m P Q a w :=
  wpIn_region_still hm hB hnd ⟨⟨w.drawn + 1, #[]⟩, by rw [grow_empty]; rfl⟩ h

theorem wpIn_region_tail_below {ro : Option Nat} {m : Nat} (n : Nat) (hm : P.follows .mixedOrders = true) (hB : Region.lexTailB .any l.toArray n = true) (hnd : noDeferB l = true)
    (h : wpQuiet P l.toArray (fun w' => ∃ p : Regrown, w' = grow (redrawn w p.d) p.os) (fun a' => ∀ w', (∃ p : Regrown, w' = grow (redrawn w p.d) p.os) → wpListIn (wideR ro) m P l.toArray Q (l.drop n) a' w') (l.take n) a) : (Code.region id l.toArray true).wpIn (wideR ro) m P Q a w :=
  wpIn_region_tail n hm hB hnd ⟨⟨w.drawn + 1, #[]⟩, by rw [grow_empty]; rfl⟩ h

theorem wp_region_tail1_below {o0 : Oper} (s : Operand) (ho : o0.op = .move s) (hgd : o0.guard = none) (n : Nat) (hm : P.follows .mixedOrders = true) (hB : lexTail1B .any (o0 :: l).toArray (n + 1) = true) (hQ : ∀ v c a w, Q (.panic c) (a.put o0.dst v) w → Q (.panic c) a w)
    (h : wpQuiet P (o0 :: l).toArray (fun w' => ∃ p : Regrown, w' = grow (redrawn w p.d) p.os) (fun a' => ∀ w', (∃ p : Regrown, w' = grow (redrawn w p.d) p.os) → wpList P (o0 :: l).toArray Q (l.drop n) a' w') (o0 :: l.take n) a) : (Code.region id (o0 :: l).toArray true).wp P Q a w :=
  wp_region_tail1 s ho hgd n hm hB ⟨⟨w.drawn + 1, #[]⟩, by rw [grow_empty]; rfl⟩ hQ h
end
end Go.Proofs.YtljhcegkekdjgaaDoor

namespace Go.Proofs.YtljhcegkekdjgaaDoor
open Go.RowKit

/-- v is a list of the call's own (from block B on): its n elements are f 0, f 1, .. -/
def Made (w : World) (B : Nat) (e : TypeId) (v : Value) (n : Nat) (f : Nat → Value) : Prop := w.ownsRow B e 1 v n ((List.range n).map f)

theorem Made.nil (w : World) (B : Nat) (e : TypeId) (f : Nat → Value) : Made w B e (.slice none 0 0) 0 f := World.ownsRow_nil w B e 1

theorem Made.form {w : World} {B : Nat} {e : TypeId} {v : Value} {n : Nat} {f : Nat → Value} (h : Made w B e v n f) : ∃ A c, v = .slice A n c ∧ n ≤ c ∧ c ≤ 9223372036854775807 ∧
    ∀ i, i < n → ∃ g, A = some ⟨g, 0, none⟩ ∧ B ≤ g ∧ w.cell? ⟨g, i, none⟩ = some (f i) := by
  rcases h.2 with ⟨rfl, rfl⟩ | ⟨g, cap, cur, rfl, hb, _, hn, hm, _⟩
  · exact ⟨none, 0, rfl, Nat.le_refl _, by omega, fun i hi => by omega⟩
  · refine ⟨_, cap, rfl, hn, by unfold maxLen at hm; omega, fun i hi => ⟨g, rfl, hb, ?_⟩⟩
    rw [World.ownsRow.cellAt h i (by omega)]
    simp [hi]

theorem Made.grown {w w' : World} {B : Nat} {e : TypeId} {v : Value} {n : Nat} {f : Nat → Value} {row : Option Nat} (h : Made w B e v n f) (hg : w.grownBy w' row) (hne : v.ownBlock = none ∨ v.ownBlock ≠ row) : Made w' B e v n f := World.ownsRow.kept h hg hne
theorem Made.alloc {w : World} {B : Nat} {e : TypeId} {v : Value} {n : Nat} {f : Nat → Value} (h : Made w B e v n f) (o : Obj) : Made (w.alloc o) B e v n f := World.ownsRow.alloc h o
theorem Made.below {w w' : World} {B : Nat} {e : TypeId} {v : Value} {n : Nat} {f : Nat → Value} (h : Made w B e v n f) (hb : Below w.heap.size w w') : Made w' B e v n f :=
  h.grown (row := none) ⟨hb.os, hb.tape, hb.output, hb.size, fun i hi _ => hb.block i hi⟩ (by cases e : v.ownBlock <;> simp)

/-- Lists of two element types are two blocks. -/
theorem Made.apart {w : World} {B B' : Nat} {e e' : TypeId} {v v' : Value} {n n' : Nat} {f f' : Nat → Value} (h : Made w B e v n f) (h' : Made w B' e' v' n' f') (hne : e ≠ e') : v.ownBlock = none ∨ v.ownBlock ≠ v'.ownBlock := by
  rcases h.2 with ⟨rfl, _⟩ | ⟨g, cap, cur, rfl, _, hg, _⟩
  · exact .inl rfl
  · refine .inr fun hh => ?_
    rcases h'.2 with ⟨rfl, _⟩ | ⟨g', cap', cur', rfl, _, hg', _⟩
    · simp [Value.ownBlock] at hh
    · have : g = g' := by simpa [Value.ownBlock] using hh
      subst this
      rw [hg] at hg'
      injection hg' with hg'
      injection hg' with _ ht
      exact hne ht

theorem below_grown {w w' : World} {B : Nat} {e : TypeId} {v : Value} {n : Nat} {f : Nat → Value} {w0 : World} (hb : Below B w0 w) (hB : B ≤ w0.heap.size) (h : Made w B e v n f) (hg : w.grownBy w' v.ownBlock) : Below B w0 w' :=
  hb.grown hg (Nat.le_trans hB hb.size) (fun k hk => (World.ownsRow.lt h k hk).1)

/-- append(s, x). -/
theorem wpList_push {P : Program} {ops : Array Oper} {rest : List Oper} {o : Oper} {a : Act} {Q : Exit → Act → World → Prop} {w : World} (hgd : o.guard = none) (s x : Operand) (t : TypeId)
    (ho : o.op = .call { callee := .builtin .append, args := #[s, x], argTypes := #[t, t] }) {e : TypeId} {z : Value} {bytes : Nat} (ht : P.underlying t = some (.slice e))
    (hinfo : (P.info? e).map (fun i => (i.zero, i.size, i.bytes)) = some (some z, 1, bytes)) (hz : z.cells.size = 1) (hby : bytes ≤ 1000)
    {B : Nat} {v : Value} {n : Nat} {f : Nat → Value} (hs : a.eval s = v) (hown : Made w B e v n f) (g0 : Nat) (hx : a.eval x = .slice (some ⟨g0, 0, none⟩) 1 1) (hc : w.cell? ⟨g0, 0, none⟩ = some (f n)) (h1 : (f n).oneCell' = true)
    (hn : n ≤ 100000000) (hB : B ≤ w.heap.size)
    (h : ∀ v' w', Made w' B e v' (n + 1) f → w.grownBy w' v.ownBlock → (v'.ownBlock = v.ownBlock ∨ v'.ownBlock = some w.heap.size) → wpList P ops Q rest (a.put o.dst v') w') : wpList P ops Q (o :: rest) a w := by
  obtain ⟨i0, hi, hz0, hz1, hz2⟩ := info_parts hinfo
  refine wpList_append_own_at w hgd s x t ho B e i0 z 1 bytes ht hi hz0 hz1 hz2 hz (by omega) v n _ hs hown ⟨g0, 0, none⟩ 1 1 [f n] hx rfl ?_ (by simpa using h1) (by unfold maxLen; omega) ?_ hB ?_
  · intro j u hj
    match j with
    | 0 => simp at hj; subst hj; simpa [Addr.add] using hc
    | j + 1 => simp at hj
  · have : (n + 1) * bytes ≤ 100000001 * 1000 := Nat.mul_le_mul (by omega) hby
    omega
  · intro v' w' h2 h3 _ h5
    refine h v' w' ?_ h3 h5
    unfold Made
    rw [List.range_succ, List.map_append]
    exact h2

/-- append(s, x), and what it leaves alone: all that lay below B, and lists of other element types. -/
theorem wpList_pushed {P : Program} {ops : Array Oper} {rest : List Oper} {o : Oper} {a : Act} {Q : Exit → Act → World → Prop} {w0 w : World} (hgd : o.guard = none) (s x : Operand) (t : TypeId)
    (ho : o.op = .call { callee := .builtin .append, args := #[s, x], argTypes := #[t, t] }) {e : TypeId} {z : Value} {bytes : Nat} (ht : P.underlying t = some (.slice e))
    (hinfo : (P.info? e).map (fun i => (i.zero, i.size, i.bytes)) = some (some z, 1, bytes)) (hz : z.cells.size = 1) (hby : bytes ≤ 1000)
    {B : Nat} {v : Value} {n : Nat} {f : Nat → Value} (hs : a.eval s = v) (hown : Made w B e v n f) (g0 : Nat) (hx : a.eval x = .slice (some ⟨g0, 0, none⟩) 1 1) (hc : w.cell? ⟨g0, 0, none⟩ = some (f n)) (h1 : (f n).oneCell' = true)
    (hn : n ≤ 100000000) (hB : B ≤ w0.heap.size) (hb : Below B w0 w)
    (h : ∀ v' w', Hid (Made w' B e v' (n + 1) f) → Below B w0 w' → Hid (∀ e' v2 n2 f2, e' ≠ e → Made w B e' v2 n2 f2 → Made w' B e' v2 n2 f2) → wpList P ops Q rest (a.put o.dst v') w') : wpList P ops Q (o :: rest) a w :=
  wpList_push hgd s x t ho ht hinfo hz hby hs hown g0 hx hc h1 hn (Nat.le_trans hB hb.size) fun v' w' h2 h3 _ =>
    h v' w' (Lib.hid h2) (below_grown hb hB hown h3) (Lib.hid fun _ _ _ _ hne hm => hm.grown h3 (hm.apart hown hne))

/-- append([]T{}, x...): a copy. -/
theorem wpList_copied {P : Program} {ops : Array Oper} {rest : List Oper} {o : Oper} {a : Act} {Q : Exit → Act → World → Prop} {w0 w : World} (hgd : o.guard = none) (s x : Operand) (t : TypeId)
    (ho : o.op = .call { callee := .builtin .append, args := #[s, x], argTypes := #[t, t] }) {e : TypeId} {z : Value} {size bytes : Nat} (ht : P.underlying t = some (.slice e))
    (hinfo : (P.info? e).map (fun i => (i.zero, i.size, i.bytes)) = some (some z, size, bytes)) (hz : z.cells.size = size) (hsz : 0 < size) (hby : bytes ≤ 1000)
    {B : Nat} {v : Value} (hs : a.eval s = v) (hown : w.ownsRow B e size v 0 []) {A : Option Addr} {N c : Nat} (hx : a.eval x = .slice A N c) (hA : A = none → N = 0 ∧ c = 0)
    (xs : List Value) (hl : xs.length = N * size) (hcells : ∀ ad, A = some ad → ∀ j u, xs[j]? = some u → w.cell? (ad.add j) = some u) (h1 : ∀ u ∈ xs, u.oneCell' = true)
    (hn : N ≤ 100000000) (hB : B ≤ w0.heap.size) (hb : Below B w0 w)
    (h : ∀ v' w', Hid (w'.ownsRow B e size v' N xs) → Below B w0 w' → Hid (w.grownBy w' v.ownBlock) → wpList P ops Q rest (a.put o.dst v') w') : wpList P ops Q (o :: rest) a w := by
  obtain ⟨i0, hi, hz0, hz1, hz2⟩ := info_parts hinfo
  cases A with
  | none =>
    obtain ⟨rfl, rfl⟩ := hA rfl
    obtain rfl : xs = [] := List.eq_nil_of_length_eq_zero (by omega)
    exact wpList_append_own_none hgd s x t ho B e i0 size ht hi v 0 [] hs hown hx (h v w (Lib.hid hown) hb (Lib.hid (World.grownBy.refl w _)))
  | some ad =>
    refine wpList_append_own_at w hgd s x t ho B e i0 z size bytes ht hi hz0 hz1 hz2 hz hsz v 0 [] hs hown ad N c xs hx hl (hcells ad rfl) h1 (by unfold maxLen; omega) ?_ (Nat.le_trans hB hb.size) ?_
    · have : (0 + N) * bytes ≤ 100000000 * 1000 := Nat.mul_le_mul (by omega) hby
      omega
    · intro v' w' h2 h3 _ _
      rw [Nat.zero_add] at h2
      exact h v' w' (Lib.hid h2) (hb.grown h3 (Nat.le_trans hB hb.size) (fun k hk => (World.ownsRow.lt hown k hk).1)) (Lib.hid h3)

/-- What an owned row of n elements looks like as a value, and where its cells lie. -/
theorem owns_form {w : World} {B : Nat} {e : TypeId} {size : Nat} {v : Value} {n : Nat} {xs : List Value} (h : w.ownsRow B e size v n xs) : ∃ A c, v = .slice A n c ∧ n ≤ c ∧ c ≤ 9223372036854775807 ∧ (A = none → n = 0 ∧ c = 0) ∧
    (0 < n → ∃ g, A = some ⟨g, 0, none⟩ ∧ B ≤ g ∧ ∀ j, j < n * size → w.cell? ⟨g, j, none⟩ = xs[j]?) := by
  rcases h.2 with ⟨rfl, rfl⟩ | ⟨g, cap, cur, rfl, hb, _, hn, hm, _⟩
  · exact ⟨none, 0, rfl, Nat.le_refl _, by omega, fun _ => ⟨rfl, rfl⟩, fun h => by omega⟩
  · exact ⟨_, cap, rfl, hn, by unfold maxLen at hm; omega, (fun h => by cases h), fun _ => ⟨g, rfl, hb, fun j hj => World.ownsRow.cellAt h j hj⟩⟩

/-- Two cells an element. -/
def pairs (N : Nat) (f g : Nat → Value) : List Value := (List.range N).flatMap fun i => [f i, g i]
theorem pairs_succ (N : Nat) (f g : Nat → Value) : pairs (N + 1) f g = pairs N f g ++ [f N, g N] := by simp [pairs, List.range_succ]
theorem pairs_length (N : Nat) (f g : Nat → Value) : (pairs N f g).length = N * 2 := by
  induction N with
  | zero => rfl
  | succ n ih => rw [pairs_succ, List.length_append, ih]; simp; omega
theorem pairs_at {N i : Nat} (f g : Nat → Value) (hi : i < N) : (pairs N f g)[i * 2]? = some (f i) ∧ (pairs N f g)[i * 2 + 1]? = some (g i) := by
  induction N with
  | zero => omega
  | succ n ih =>
    rw [pairs_succ]
    have hl := pairs_length n f g
    by_cases e : i = n
    · subst e
      rw [List.getElem?_append_right (by omega), List.getElem?_append_right (by omega), hl]
      exact ⟨by simp, by rw [show i * 2 + 1 - i * 2 = 1 by omega]; rfl⟩
    · have := ih (by omega)
      rw [List.getElem?_append_left (by omega), List.getElem?_append_left (by omega)]
      exact this
theorem pairs_get {N j : Nat} {f g : Nat → Value} {u : Value} (h : (pairs N f g)[j]? = some u) : ∃ i, i < N ∧ ((j = i * 2 ∧ u = f i) ∨ (j = i * 2 + 1 ∧ u = g i)) := by
  have hj : j < N * 2 := by rw [← pairs_length N f g]; exact (List.getElem?_eq_some_iff.1 h).1
  have hi : j / 2 < N := by omega
  have := pairs_at f g hi
  refine ⟨j / 2, hi, ?_⟩
  by_cases e : j % 2 = 0
  · left
    have ej : j = j / 2 * 2 := by omega
    rw [← ej] at this
    exact ⟨ej, Option.some.inj (h.symm.trans this.1)⟩
  · right
    have ej : j = j / 2 * 2 + 1 := by omega
    rw [← ej] at this
    exact ⟨ej, Option.some.inj (h.symm.trans this.2)⟩
end Go.Proofs.YtljhcegkekdjgaaDoor

namespace Go.Proofs.YtljhcegkekdjgaaDoor
open Go.RowKit

theorem addrAdd (bk off n : Nat) : (⟨bk, off, none⟩ : Addr).add n = ⟨bk, off + n, none⟩ := by
  unfold Addr.add
  split
  · rename_i h; subst h; rfl
  · rfl

section
variable {X : Type}

/-- The cells of all elements, one behind the other. -/
def flatL (L : X → List Value) (l : List X) : List Value := l.flatMap L
theorem flatL_snoc (L : X → List Value) (l : List X) (x : X) : flatL L (l ++ [x]) = flatL L l ++ L x := by simp [flatL]
theorem flatL_append (L : X → List Value) (l m : List X) : flatL L (l ++ m) = flatL L l ++ flatL L m := by simp [flatL]
theorem flatL_length {s : Nat} {L : X → List Value} (hL : ∀ x, (L x).length = s) (l : List X) : (flatL L l).length = l.length * s := by
  induction l with
  | nil => simp [flatL]
  | cons x l ih => rw [show flatL L (x :: l) = L x ++ flatL L l by simp [flatL], List.length_append, ih, hL, List.length_cons, Nat.succ_mul]; omega
theorem flatL_at {s : Nat} {L : X → List Value} (hL : ∀ x, (L x).length = s) {l : List X} {i : Nat} {x : X} (hi : l[i]? = some x) {j : Nat} (hj : j < s) : (flatL L l)[i * s + j]? = (L x)[j]? := by
  induction l generalizing i with
  | nil => cases hi
  | cons y l ih =>
    rw [show flatL L (y :: l) = L y ++ flatL L l by simp [flatL]]
    cases i with
    | zero =>
      obtain rfl : y = x := by simpa using hi
      rw [List.getElem?_append_left (by rw [hL]; omega)]; congr 1; omega
    | succ i =>
      rw [List.getElem?_append_right (by rw [hL, Nat.succ_mul]; omega), hL, show (i + 1) * s + j - s = i * s + j by rw [Nat.succ_mul]; omega]
      exact ih (by simpa using hi)

/-- A list lies at A. -/
def IsL (w : World) (A : Option Addr) (s : Nat) (L : X → List Value) (l : List X) : Prop :=
  ∀ i x, l[i]? = some x → ∃ b off, A = some ⟨b, off, none⟩ ∧ ∀ j u, (L x)[j]? = some u → w.cell? ⟨b, off + i * s + j, none⟩ = some u
theorem IsL.same {w w' : World} {A : Option Addr} {s : Nat} {L : X → List Value} {l : List X} (h : IsL w A s L l) (hs : ∀ k, k < w.heap.size → w'.heap[k]? = w.heap[k]?) : IsL w' A s L l := fun i x hx => by
  obtain ⟨b, off, e, h1⟩ := h i x hx
  refine ⟨b, off, e, fun j u hu => ?_⟩
  have h2 := h1 j u hu
  exact (World.cell?_of_block (w := w) (hs b (World.block_lt_of_cell? _ _ h2))).trans h2
theorem IsL.below {w w' : World} {A : Option Addr} {s : Nat} {L : X → List Value} {l : List X} (h : IsL w A s L l) (hb : Below w.heap.size w w') : IsL w' A s L l := h.same fun k hk => hb.block k hk
theorem IsL.nil (w : World) (A : Option Addr) (s : Nat) (L : X → List Value) : IsL w A s L [] := fun i x hx => by cases hx

/-- A list made by append, in memory of the call's own (from B on). -/
def MadeX (w : World) (B : Nat) (e : TypeId) (s : Nat) (L : X → List Value) (v : Value) (l : List X) : Prop := w.ownsRow B e s v l.length (flatL L l)
variable {w w' : World} {B : Nat} {e : TypeId} {s : Nat} {L : X → List Value} {v : Value} {l : List X}
theorem MadeX.nil (w : World) (B : Nat) (e : TypeId) (s : Nat) (L : X → List Value) : MadeX w B e s L (.slice none 0 0) [] := World.ownsRow_nil w B e s
theorem MadeX.grown {row : Option Nat} (h : MadeX w B e s L v l) (hg : w.grownBy w' row) (hne : v.ownBlock = none ∨ v.ownBlock ≠ row) : MadeX w' B e s L v l := World.ownsRow.kept h hg hne
theorem MadeX.below (h : MadeX w B e s L v l) (hb : Below w.heap.size w w') : MadeX w' B e s L v l :=
  h.grown (row := none) ⟨hb.os, hb.tape, hb.output, hb.size, fun i hi _ => hb.block i hi⟩ (by cases e : v.ownBlock <;> simp)
theorem MadeX.alloc (h : MadeX w B e s L v l) (o : Obj) : MadeX (w.alloc o) B e s L v l := World.ownsRow.alloc h o
theorem MadeX.lt (h : MadeX w B e s L v l) : ∀ k, v.ownBlock = some k → B ≤ k ∧ k < w.heap.size := World.ownsRow.lt h

/-- What it is as a value, and that it lies there. -/
theorem MadeX.form (hL : ∀ x, (L x).length = s) (h : MadeX w B e s L v l) : ∃ A c, v = .slice A l.length c ∧ (l.length ≤ c ∧ c ≤ 9223372036854775807) ∧ (A = none → l.length = 0 ∧ c = 0) ∧ IsL w A s L l := by
  obtain ⟨A, c, rfl, h1, h2, h3, h4⟩ := owns_form h
  refine ⟨A, c, rfl, ⟨h1, h2⟩, h3, fun i x hx => ?_⟩
  have hi : i < l.length := (List.getElem?_eq_some_iff.1 hx).1
  obtain ⟨g, rfl, _, h6⟩ := h4 (by omega)
  refine ⟨g, 0, rfl, fun j u hu => ?_⟩
  have hj : j < s := by rw [← hL x]; exact (List.getElem?_eq_some_iff.1 hu).1
  have h5 : i * s + j < l.length * s := by
    have : (i + 1) * s ≤ l.length * s := Nat.mul_le_mul (by omega) (Nat.le_refl _)
    rw [Nat.succ_mul] at this; omega
  rw [Nat.zero_add]
  exact (h6 _ h5).trans ((flatL_at hL hx hj).trans hu)

/-- append(s, x), one element. -/
theorem wpList_pushX {P : Program} {ops : Array Oper} {rest : List Oper} {o : Oper} {a : Act} {Q : Exit → Act → World → Prop} {w0 w : World} (hgd : o.guard = none) (s x : Operand) (t : TypeId)
    (ho : o.op = .call { callee := .builtin .append, args := #[s, x], argTypes := #[t, t] }) {e : TypeId} {z : Value} {size bytes : Nat} (ht : P.underlying t = some (.slice e))
    (hinfo : (P.info? e).map (fun i => (i.zero, i.size, i.bytes)) = some (some z, size, bytes)) (hz : z.cells.size = size) (hsz : 0 < size) (hby : bytes ≤ 1000)
    {B : Nat} {v : Value} {L : X → List Value} {l : List X} (y : X) (hf : (L y).length = size) (hs : a.eval s = v) (hown : MadeX w B e size L v l) (g0 off : Nat) (c0 : Nat) (hx : a.eval x = .slice (some ⟨g0, off, none⟩) 1 c0) (hc : ∀ j u, (L y)[j]? = some u → w.cell? ⟨g0, off + j, none⟩ = some u) (h1 : ∀ u ∈ L y, u.oneCell' = true)
    (hn : l.length ≤ 100000000) (hB : B ≤ w0.heap.size) (hb : Below B w0 w)
    (h : ∀ v' w', Hid (MadeX w' B e size L v' (l ++ [y])) → Below B w0 w' → Hid (w.grownBy w' v.ownBlock) → Hid (v'.ownBlock = v.ownBlock ∨ v'.ownBlock = some w.heap.size) → wpList P ops Q rest (a.put o.dst v') w') : wpList P ops Q (o :: rest) a w := by
  obtain ⟨i0, hi, hz0, hz1, hz2⟩ := info_parts hinfo
  refine wpList_append_own_at w hgd s x t ho B e i0 z size bytes ht hi hz0 hz1 hz2 hz hsz v l.length _ hs hown ⟨g0, off, none⟩ 1 c0 (L y) hx (by rw [hf, Nat.one_mul]) ?_ h1 (by unfold maxLen; omega) ?_ (Nat.le_trans hB hb.size) ?_
  · intro j u hj
    rw [show (⟨g0, off, none⟩ : Addr).add j = ⟨g0, off + j, none⟩ from addrAdd _ _ _]
    exact hc j u hj
  · have : (l.length + 1) * bytes ≤ 100000001 * 1000 := Nat.mul_le_mul (by omega) hby
    omega
  · intro v' w' h2 h3 _ h5
    refine h v' w' (Lib.hid ?_) (hb.grown h3 (Nat.le_trans hB hb.size) fun k hk => (World.ownsRow.lt hown k hk).1) (Lib.hid h3) (Lib.hid h5)
    unfold MadeX
    rw [flatL_snoc, List.length_append]
    exact h2

/-- append(s, x...): a list behind one that was made. -/
theorem wpList_joinX {P : Program} {ops : Array Oper} {rest : List Oper} {o : Oper} {a : Act} {Q : Exit → Act → World → Prop} {w0 w : World} (hgd : o.guard = none) (s x : Operand) (t : TypeId)
    (ho : o.op = .call { callee := .builtin .append, args := #[s, x], argTypes := #[t, t] }) {e : TypeId} {z : Value} {size bytes : Nat} (ht : P.underlying t = some (.slice e))
    (hinfo : (P.info? e).map (fun i => (i.zero, i.size, i.bytes)) = some (some z, size, bytes)) (hz : z.cells.size = size) (hsz : 0 < size)
    {B : Nat} {v : Value} {L : X → List Value} {l m : List X} (hL : ∀ y, (L y).length = size) (hs : a.eval s = v) (hown : MadeX w B e size L v l) {A : Option Addr} {c : Nat} (hx : a.eval x = .slice A m.length c) (hA : A = none → m.length = 0 ∧ c = 0) (hm : IsL w A size L m) (h1 : ∀ y, ∀ u ∈ L y, u.oneCell' = true)
    (hn : l.length + m.length ≤ 9223372036854775807) (hby : (l.length + m.length) * bytes ≤ 140737488351232) (hB : B ≤ w0.heap.size) (hb : Below B w0 w)
    (h : ∀ v' w', Hid (MadeX w' B e size L v' (l ++ m)) → Below B w0 w' → Hid (w.grownBy w' v.ownBlock) → wpList P ops Q rest (a.put o.dst v') w') : wpList P ops Q (o :: rest) a w := by
  obtain ⟨i0, hi, hz0, hz1, hz2⟩ := info_parts hinfo
  cases A with
  | none =>
    obtain ⟨h0, rfl⟩ := hA rfl
    obtain rfl : m = [] := List.eq_nil_of_length_eq_zero h0
    refine wpList_append_own_none hgd s x t ho B e i0 size ht hi v l.length _ hs hown hx ?_
    refine h v w (Lib.hid ?_) hb (Lib.hid (World.grownBy.refl w _))
    rw [List.append_nil]; exact hown
  | some ad =>
    refine wpList_append_own_at w hgd s x t ho B e i0 z size bytes ht hi hz0 hz1 hz2 hz hsz v l.length _ hs hown ad m.length c (flatL L m) hx (flatL_length hL m) ?_ (fun u hu => ?_) (by unfold maxLen; omega) (by omega) (Nat.le_trans hB hb.size) ?_
    · intro j u hj
      have hj' : j < m.length * size := by rw [← flatL_length hL m]; exact (List.getElem?_eq_some_iff.1 hj).1
      have hi' : j / size < m.length := Nat.div_lt_of_lt_mul (by rw [Nat.mul_comm]; exact hj')
      have hk : j % size < size := Nat.mod_lt _ hsz
      have ej : j = j / size * size + j % size := by rw [Nat.mul_comm]; exact (Nat.div_add_mod j size).symm
      obtain ⟨bk, off, e1, h2⟩ := hm (j / size) _ (List.getElem?_eq_getElem hi')
      injection e1 with e1
      subst e1
      rw [ej, flatL_at hL (List.getElem?_eq_getElem hi') hk] at hj
      rw [show (⟨bk, off, none⟩ : Addr).add j = ⟨bk, off + j / size * size + j % size, none⟩ by rw [Nat.add_assoc, ← ej, addrAdd]]
      exact h2 _ _ hj
    · unfold flatL at hu
      obtain ⟨y, _, hy⟩ := List.mem_flatMap.1 hu
      exact h1 y u hy
    · intro v' w' h2 h3 _ _
      refine h v' w' (Lib.hid ?_) (hb.grown h3 (Nat.le_trans hB hb.size) (fun k hk => (World.ownsRow.lt hown k hk).1)) (Lib.hid h3)
      unfold MadeX
      rw [flatL_append, List.length_append]
      exact h2
end
end Go.Proofs.YtljhcegkekdjgaaDoor

namespace Go.Proofs.YtljhcegkekdjgaaDoor
open Go.RowKit

/-- Of what was there, only blocks of C have turned. -/
structure Only (C : Nat → Prop) (W W' : World) : Prop where
  os : W'.os = W.os
  tape : W'.tape = W.tape
  output : W'.output = W.output
  size : W.heap.size ≤ W'.heap.size
  block : ∀ k, k < W.heap.size → ¬ C k → W'.heap[k]? = W.heap[k]?

namespace Only
variable {C D : Nat → Prop} {A B W W' : World}
theorem refl (C : Nat → Prop) (W : World) : Only C W W := ⟨rfl, rfl, rfl, Nat.le_refl _, fun _ _ _ => rfl⟩
theorem trans {X : World} (h : Only C A B) (k : Only C B X) : Only C A X :=
  ⟨k.os.trans h.os, k.tape.trans h.tape, k.output.trans h.output, Nat.le_trans h.size k.size, fun i hi hc => (k.block i (Nat.lt_of_lt_of_le hi h.size) hc).trans (h.block i hi hc)⟩
theorem mono (h : Only C A B) (hC : ∀ k, k < A.heap.size → C k → D k) : Only D A B := ⟨h.os, h.tape, h.output, h.size, fun k hk hd => h.block k hk fun hc => hd (hC k hk hc)⟩
theorem of_below (C : Nat → Prop) (h : Below W.heap.size W W') : Only C W W' := ⟨h.os, h.tape, h.output, h.size, fun k hk _ => h.block k hk⟩
theorem drew (h : Only C A B) : Only C A B.drew := ⟨h.os, h.tape, h.output, h.size, h.block⟩
theorem alloc (h : Only C A B) (o : Obj) : Only C A (B.alloc o) := h.trans (of_below C (below_one B o))
theorem setCell (h : Only C A B) {p : Addr} (hp : C p.block ∨ A.heap.size ≤ p.block) (u : Value) : Only C A (B.setCell p u) :=
  ⟨h.os, h.tape, h.output, by simpa [World.setCell] using h.size, fun k hk hc => (Below.heap_setCell B p u k (by rintro rfl; rcases hp with hp | hp; exact hc hp; omega)).trans (h.block k hk hc)⟩
theorem below (h : Only C A B) {n : Nat} (hn : n ≤ A.heap.size) (hC : ∀ k, C k → n ≤ k) : Below n A B :=
  ⟨h.os, h.tape, h.output, h.size, fun k hk => h.block k (by omega) fun hc => by have := hC k hc; omega⟩
theorem then_below {n : Nat} {w : World} (hn : n ≤ w.heap.size) (hb : Below n w A) (h : Only C A B) (hC : ∀ k, C k → n ≤ k) : Below n w B :=
  hb.trans (h.below (Nat.le_trans hn hb.size) hC)
theorem putObj (W : World) {r : Nat} (hr : C r) (o : Obj) : Only C W (W.putObj r o) :=
  ⟨rfl, rfl, rfl, by simp, fun k _ hc => World.putObj_heap_other (by rintro rfl; exact hc hr)⟩
theorem cell (h : Only C A B) {p : Addr} {v : Value} (hc : A.cell? p = some v) (hp : ¬ C p.block) : B.cell? p = some v :=
  (World.cell?_of_block (w := A) (h.block p.block (World.block_lt_of_cell? _ _ hc) hp)).trans hc
theorem frozen (h : Only C A B) {p : Addr} (hl : p.block < A.heap.size) (hp : ¬ C p.block) : B.frozen? p = A.frozen? p :=
  World.frozen?_of_block (w := A) (h.block p.block hl hp)
end Only

/-- The iterator gf, called with yield and lb: it hands xs over, one by one, until a round says no more. It turns m blocks of its own alone, which it lays first; it leans on blocks of cap, which lie as in w0. -/
def Iter (n : Nat) (P : Program) (gf : Nat) (lb : Array Value) (m : Nat) (cap : Nat → Prop) (w0 : World) (xs : List (Array Value)) : Prop :=
  ∀ (l : Nat) (J Jx : Nat → World → Prop) (C : Nat → Prop) (W : World), (∀ k, cap k → k < W.heap.size ∧ W.heap[k]? = w0.heap[k]?) →
    (∀ k, C k → ¬ cap k ∧ ¬ (W.heap.size ≤ k ∧ k < W.heap.size + m)) →
    (∀ i A A', J i A → Only (fun k => W.heap.size ≤ k ∧ k < W.heap.size + m) A A' → J i A') →
    (∀ i A A', Jx i A → Only (fun k => W.heap.size ≤ k ∧ k < W.heap.size + m) A A' → Jx i A') →
    (∀ i (h : i < xs.length) A, J i A → YieldAt Fence.wide (n - 1) P l xs[i] A fun e A' =>
      (e = .returned (.bool true) ∧ J (i + 1) A' ∧ Only C A A') ∨ (e = .returned (.bool false) ∧ Jx i A')) →
    J 0 W →
    CallsIn Fence.wide n P gf (#[.func (.yield l) #[] #[]] ++ lb) W fun e A' => (∃ v, e = .returned v) ∧ (J xs.length A' ∨ ∃ i, i < xs.length ∧ Jx i A')

/-- How the body of a round may be left. -/
def roundEnd (C : Nat → Prop) (I : Nat → World → Prop) (Ix : Code → Nat → World → Prop) (i : Nat) (W : World) : Exit → Act → World → Prop
  | .normal, _, W' => Only C W W' ∧ I (i + 1) W'
  | .ret, _, W' => Only C W W' ∧ Ix .ret i W'
  | .exit id, _, W' => Only C W W' ∧ Ix (.exit id) i W'
  | .goto t, _, W' => Only C W W' ∧ Ix (.goto t) i W'
  | .panic _, _, _ => False
  | .outgrown, _, _ => False

theorem wpIn_range {n : Nat} {P : Program} {g : Operand} {ps : Array Tmp} {assign body : Code} {Q : Exit → Act → World → Prop} {a : Act} {w : World} {gf : Nat} {lb : Array Value}
    (hg : a.eval g = .func (.func gf) #[] lb) (eg : ∀ args w, (callFunc gf args).run P w = .ok (.enter gf args) w)
    {m : Nat} {cap : Nat → Prop} {w0 : World} {xs : List (Array Value)} (hit : Iter (n - 1) P gf lb m cap w0 xs) (hcap : ∀ k, cap k → k < w.heap.size ∧ w.heap[k]? = w0.heap[k]?)
    (hps : ∀ i (h : i < xs.length), xs[i].size = ps.size)
    (C : Nat → Prop) (hC : ∀ k, C k → ¬ cap k ∧ ¬ (w.heap.size ≤ k ∧ k < w.heap.size + 2 + m))
    (I : Nat → World → Prop) (Ix : Code → Nat → World → Prop)
    (hI : ∀ i A A', I i A → Only (fun k => w.heap.size ≤ k ∧ k < w.heap.size + 2 + m) A A' → I i A')
    (hIx : ∀ c i A A', Ix c i A → Only (fun k => w.heap.size ≤ k ∧ k < w.heap.size + 2 + m) A A' → Ix c i A') (h0 : I 0 w)
    (hround : ∀ l i (h : i < xs.length) (W : World), I i W → w.heap.size + 1 < W.heap.size → assign.wpIn (Fence.wide.inRound l) (n - 1 - 1) P
      (Exit.then (fun a₁ W₁ => Only C W W₁ ∧ ∀ W₂, Only (fun k => k = w.heap.size + 1) W₁ W₂ → body.wpIn (Fence.wide.inRound l) (n - 1 - 1) P (roundEnd C I Ix i W₂) a₁ W₂) (fun _ _ _ => False))
      { tmps := (ps.zip xs[i]).foldl (fun t (p, v) => t.setIfInBounds p v) a.tmps, defers := [] } W)
    (hdone : ∀ W, I xs.length W → W.heap[w.heap.size]? = some (.deferred (some [])) → Q .normal { a with defers := { target := .collected w.heap.size, args := #[] } :: a.defers } W)
    (hstop : ∀ c i W, i < xs.length → Ix c i W → W.heap[w.heap.size]? = some (.deferred (some [])) → c.wpIn Fence.wide n P Q { a with defers := { target := .collected w.heap.size, args := #[] } :: a.defers } W) :
    (Code.rangeFunc g ps assign body).wpIn Fence.wide n P Q a w := by
  have hdep : ∀ k : Nat, Fence.wide.depth.isSome = true → 1 ≤ k := fun k h => by simp [Fence.wide] at h
  refine wpIn_rangeFunc fun fn hfn => ?_
  obtain ⟨rec, hrec⟩ : ∃ rec : LoopState → Option Code → Loop, rec = fun st pe => { state := st, pending := pe, fn, tmps := a.tmps, params := ps, assign, body, defers := w.heap.size } := ⟨_, rfl⟩
  obtain ⟨W1, hW1⟩ : ∃ W1, (w.alloc (.deferred (some []))).alloc (.loop (rec .ready none)) = W1 := ⟨_, rfl⟩
  have hz1 : W1.heap.size = w.heap.size + 2 := by rw [← hW1]; simp
  have hL1 : W1.heap[w.heap.size + 1]? = some (.loop (rec .ready none)) := by
    rw [← hW1]; have := World.alloc_heap_new (w.alloc (.deferred (some []))) (.loop (rec .ready none)); rwa [World.size_alloc] at this
  have hK1 : W1.heap[w.heap.size]? = some (.deferred (some [])) := by
    rw [← hW1]; exact (Below.heap_alloc _ _ _ (by simp)).trans (World.alloc_heap_new w _)
  have hO1 : Only (fun k => w.heap.size ≤ k ∧ k < w.heap.size + 2 + m) w W1 := by rw [← hW1]; exact ((Only.refl _ w).alloc _).alloc _
  refine ⟨w.heap.size + 1, [{ target := .collected w.heap.size, args := #[] }], W1, { target := .fn (.func gf) lb, args := #[.func (.yield (w.heap.size + 1)) #[] #[]] }, W1, gf,
    #[.func (.yield (w.heap.size + 1)) #[] #[]] ++ lb, W1, ?_, ?_, fun _ _ => trivial, ?_, hdep _, ?_⟩
  · rw [← hW1, hrec]; exact run_enterLoop_outer _ _ _ _ _
  · simp only [resolve, hg]; simp [go_sem]
  · simp [invoke, go_sem, eg]
  have hR : ∀ {A A' : World}, Only (fun k => W1.heap.size ≤ k ∧ k < W1.heap.size + m) A A' → Only (fun k => w.heap.size ≤ k ∧ k < w.heap.size + 2 + m) A A' ∧
      (∀ k, k < A.heap.size → k ≤ w.heap.size + 1 → A'.heap[k]? = A.heap[k]?) := fun h =>
    ⟨h.mono fun k _ hk => by omega, fun k hk hle => h.block k hk (by omega)⟩
  refine (hit (w.heap.size + 1)
    (fun i W => I i W ∧ W.heap[w.heap.size + 1]? = some (.loop (rec .ready none)) ∧ W.heap[w.heap.size]? = some (.deferred (some [])))
    (fun i W => ∃ c, Ix c i W ∧ W.heap[w.heap.size + 1]? = some (.loop (rec .done (some c))) ∧ W.heap[w.heap.size]? = some (.deferred (some [])))
    (fun k => C k ∨ k = w.heap.size + 1) W1 (fun k hk => ⟨by have := (hcap k hk).1; omega, (hO1.block k (hcap k hk).1 (by have := (hcap k hk).1; omega)).trans (hcap k hk).2⟩)
    ?_ ?_ ?_ ?_ ⟨hI _ _ _ h0 hO1, hL1, hK1⟩).mono ?_
  · rintro k (hk | rfl)
    · have := hC k hk
      exact ⟨this.1, by omega⟩
    · exact ⟨fun h => by have := (hcap _ h).1; omega, by omega⟩
  · rintro i A A' ⟨hi, hl, hk⟩ ho
    have h2 := hR ho
    have s1 := (Array.getElem?_eq_some_iff.1 hl).1
    exact ⟨hI _ _ _ hi h2.1, (h2.2 _ s1 (Nat.le_refl _)).trans hl, (h2.2 _ (by omega) (by omega)).trans hk⟩
  · rintro i A A' ⟨c, hi, hl, hk⟩ ho
    have h2 := hR ho
    have s1 := (Array.getElem?_eq_some_iff.1 hl).1
    exact ⟨c, hIx _ _ _ _ hi h2.1, (h2.2 _ s1 (Nat.le_refl _)).trans hl, (h2.2 _ (by omega) (by omega)).trans hk⟩
  · rintro i hlen W ⟨hi, hl, hk⟩
    have hlt : w.heap.size + 1 < W.heap.size := (Array.getElem?_eq_some_iff.1 hl).1
    have hy := run_yield (P := P) (args := xs[i]) hl (by rw [hrec]; exact hps i hlen)
    rw [hrec] at hy
    refine ⟨fn, _, assign, body, hy, roundIn_of_wpIn trivial ?_⟩
    refine wpIn_mono (hround (w.heap.size + 1) i hlen W hi hlt) ?_
    rintro e a₁ W₁ hq
    cases e with
    | normal =>
      obtain ⟨hc1, hbody⟩ := hq
      have hl1 : W₁.heap[w.heap.size + 1]? = some (.loop (rec .ready none)) := (hc1.block _ hlt (fun h => by have := hC _ h; omega)).trans hl
      have hk1 : W₁.heap[w.heap.size]? = some (.deferred (some [])) := (hc1.block _ (by omega) (fun h => by have := hC _ h; omega)).trans hk
      have s1 : w.heap.size + 1 < W₁.heap.size := (Array.getElem?_eq_some_iff.1 hl1).1
      refine ⟨_, run_beginRound hl1 (by rw [hrec]), ?_⟩
      have hb2 := hbody (W₁.putObj (w.heap.size + 1) (.loop { rec .ready none with state := .busy })) (Only.putObj _ (by rfl) _)
      have hl2 : (W₁.putObj (w.heap.size + 1) (.loop { rec .ready none with state := .busy })).heap[w.heap.size + 1]? = some (.loop { rec .ready none with state := .busy }) := World.putObj_heap_same s1
      have hk2 : (W₁.putObj (w.heap.size + 1) (.loop { rec .ready none with state := .busy })).heap[w.heap.size]? = some (.deferred (some [])) := (World.putObj_heap_other (by omega)).trans hk1
      have ho2 : Only (fun k => C k ∨ k = w.heap.size + 1) W (W₁.putObj (w.heap.size + 1) (.loop { rec .ready none with state := .busy })) :=
        (hc1.mono fun _ _ h => .inl h).trans (Only.putObj _ (.inr rfl) _)
      refine wpIn_mono hb2 ?_
      generalize W₁.putObj (w.heap.size + 1) (.loop { rec .ready none with state := .busy }) = W₂ at *
      have fin : ∀ (jump : Option Code) (W3 : World), Only C W₂ W3 →
          (Instr.endRound (w.heap.size + 1) jump).run P W3 = .ok (.bool jump.isNone) (W3.putObj (w.heap.size + 1) (.loop (rec (if jump.isNone then .ready else .done) jump))) ∧
          (W3.putObj (w.heap.size + 1) (.loop (rec (if jump.isNone then .ready else .done) jump))).heap[w.heap.size + 1]? = some (.loop (rec (if jump.isNone then .ready else .done) jump)) ∧
          (W3.putObj (w.heap.size + 1) (.loop (rec (if jump.isNone then .ready else .done) jump))).heap[w.heap.size]? = some (.deferred (some [])) ∧
          Only (fun k => w.heap.size ≤ k ∧ k < w.heap.size + 2 + m) W3 (W3.putObj (w.heap.size + 1) (.loop (rec (if jump.isNone then .ready else .done) jump))) ∧
          Only (fun k => C k ∨ k = w.heap.size + 1) W (W3.putObj (w.heap.size + 1) (.loop (rec (if jump.isNone then .ready else .done) jump))) := fun jump W3 hc3 => by
        have hl3 : W3.heap[w.heap.size + 1]? = _ := (hc3.block _ (Array.getElem?_eq_some_iff.1 hl2).1 (fun h => by have := hC _ h; omega)).trans hl2
        have hk3 : W3.heap[w.heap.size]? = some (.deferred (some [])) := (hc3.block _ (Array.getElem?_eq_some_iff.1 hk2).1 (fun h => by have := hC _ h; omega)).trans hk2
        have := run_endRound (P := P) jump hl3
        rw [hrec] at this ⊢
        exact ⟨this, World.putObj_heap_same (Array.getElem?_eq_some_iff.1 hl3).1, (World.putObj_heap_other (by omega)).trans hk3, Only.putObj _ (by omega) _,
          (ho2.trans (hc3.mono fun _ _ h => .inl h)).trans (Only.putObj _ (.inr rfl) _)⟩
      rintro e a3 W3 hp
      cases e with
      | normal =>
        obtain ⟨hc3, hi3⟩ := hp
        obtain ⟨hr, hl4, hk4, hd4, ho4⟩ := fin none W3 hc3
        exact ⟨_, _, hr, .inl ⟨rfl, ⟨hI _ _ _ hi3 hd4, hl4, hk4⟩, ho4⟩⟩
      | ret =>
        obtain ⟨hc3, hi3⟩ := hp
        obtain ⟨hr, hl4, hk4, hd4, _⟩ := fin (some .ret) W3 hc3
        exact ⟨_, _, hr, .inr ⟨rfl, .ret, hIx _ _ _ _ hi3 hd4, hl4, hk4⟩⟩
      | exit id =>
        obtain ⟨hc3, hi3⟩ := hp
        obtain ⟨hr, hl4, hk4, hd4, _⟩ := fin (some (.exit id)) W3 hc3
        exact ⟨_, _, hr, .inr ⟨rfl, .exit id, hIx _ _ _ _ hi3 hd4, hl4, hk4⟩⟩
      | goto t =>
        obtain ⟨hc3, hi3⟩ := hp
        obtain ⟨hr, hl4, hk4, hd4, _⟩ := fin (some (.goto t)) W3 hc3
        exact ⟨_, _, hr, .inr ⟨rfl, .goto t, hIx _ _ _ _ hi3 hd4, hl4, hk4⟩⟩
      | panic ch => exact hp.elim
      | outgrown => exact hp.elim
    | ret => exact hq.elim
    | exit id => exact hq.elim
    | goto t => exact hq.elim
    | panic ch => exact hq.elim
    | outgrown => exact hq.elim
  · rintro e W2 ⟨⟨v, rfl⟩, (⟨hi, hl, hk⟩ | ⟨i, hlen, c, hi, hl, hk⟩)⟩
    · exact ⟨none, _, by have := run_endLoop (P := P) hl (by rw [hrec]; simp); rw [hrec] at this; exact this, hdone _ (hI _ _ _ hi (Only.putObj _ (by omega) _)) ((World.putObj_heap_other (by omega)).trans hk)⟩
    · exact ⟨some c, _, by have := run_endLoop (P := P) hl (by rw [hrec]; simp); rw [hrec] at this; exact this, hstop c i _ hlen (hIx _ _ _ _ hi (Only.putObj _ (by omega) _)) ((World.putObj_heap_other (by omega)).trans hk)⟩

/-- A return behind such a loop: the block for the rounds' deferred calls is shut. -/
theorem marks_ret {n : Nat} {P : Program} {fn : Func} {R : Ending → World → Prop} {tmps : Array Value} {W : World} {D : Nat} {v : Value}
    (hK : W.heap[D]? = some (.deferred (some []))) (hr : (results fn tmps).run P (W.putObj D (.deferred none)) = .ok v (W.putObj D (.deferred none))) (hR : R (.returned v) (W.putObj D (.deferred none))) :
    bodyPostM Fence.wide n P fn R .ret { tmps := tmps, defers := [{ target := .collected D, args := #[] }] } W :=
  ⟨by simp, .inl ⟨_, _, rfl, run_takeDeferred hK, ⟨v, hr, hR⟩⟩⟩

/-- A return ahead of such a loop. -/
theorem plain_ret {n : Nat} {P : Program} {fn : Func} {R : Ending → World → Prop} {tmps : Array Value} {W : World} {v : Value}
    (hr : (results fn tmps).run P W = .ok v W) (hR : R (.returned v) W) : bodyPostM Fence.wide n P fn R .ret { tmps := tmps, defers := [] } W := ⟨v, hr, hR⟩

theorem cell_putObj {W : World} {D : Nat} {o' : Obj} {p : Addr} {v : Value} (hne : p.block ≠ D) (h : W.cell? p = some v) : (W.putObj D o').cell? p = some v :=
  (World.cell?_of_block (w := W) (World.putObj_heap_other hne)).trans h
theorem below_putObj {n : Nat} {w W : World} {D : Nat} (h : Below n w W) (hD : n ≤ D) (o : Obj) : Below n w (W.putObj D o) :=
  h.trans ⟨rfl, rfl, rfl, by simp, fun k hk => World.putObj_heap_other (by omega)⟩
end Go.Proofs.YtljhcegkekdjgaaDoor

namespace Go.Proofs.YtljhcegkekdjgaaDoor
open Go.RowKit

/-- The iterator gf, called with yield and lb: it hands over N times, the i-th time arguments that R holds of, until a round says no more. It turns nothing that was there; it leans on blocks of cap, which lie as in w0, and on no other. -/
def IterS (n : Nat) (P : Program) (gf : Nat) (lb : Array Value) (cap : Nat → Prop) (w0 : World) (N : Nat) (R : Nat → Nat → Array Value → World → Prop) : Prop :=
  ∀ (l : Nat) (J Jx : Nat → World → Prop) (C : Nat → Prop) (W : World), (∀ k, cap k → k < W.heap.size ∧ W.heap[k]? = w0.heap[k]?) →
    (∀ k, C k → ¬ cap k) →
    (∀ i A A', J i A → Below A.heap.size A A' → J i A') →
    (∀ i A A', Jx i A → Below A.heap.size A A' → Jx i A') →
    (∀ i args A, i < N → J i A → R W.heap.size i args A → YieldAt Fence.wide (n - 1) P l args A fun e A' =>
      (e = .returned (.bool true) ∧ J (i + 1) A' ∧ Only C A A') ∨ (e = .returned (.bool false) ∧ Jx i A')) →
    J 0 W →
    CallsIn Fence.wide n P gf (#[.func (.yield l) #[] #[]] ++ lb) W fun e A' => (∃ v, e = .returned v) ∧ (J N A' ∨ ∃ i, i < N ∧ Jx i A')

theorem wpIn_rangeS {n : Nat} {P : Program} {g : Operand} {ps : Array Tmp} {assign body : Code} {Q : Exit → Act → World → Prop} {a : Act} {w : World} {gf : Nat} {lb : Array Value}
    (hg : a.eval g = .func (.func gf) #[] lb) (eg : ∀ args w, (callFunc gf args).run P w = .ok (.enter gf args) w)
    {cap : Nat → Prop} {w0 : World} {N : Nat} {R : Nat → Nat → Array Value → World → Prop} (hit : IterS (n - 1) P gf lb cap w0 N R) (hcap : ∀ k, cap k → k < w.heap.size ∧ w.heap[k]? = w0.heap[k]?)
    (hps : ∀ B i args A, R B i args A → args.size = ps.size)
    (C : Nat → Prop) (hC : ∀ k, C k → ¬ cap k ∧ k ≠ w.heap.size ∧ k ≠ w.heap.size + 1)
    (I : Nat → World → Prop) (Ix : Code → Nat → World → Prop)
    (hI : ∀ i A A', I i A → Only (fun k => w.heap.size ≤ k ∧ k < w.heap.size + 2) A A' → I i A')
    (hIx : ∀ c i A A', Ix c i A → Only (fun k => w.heap.size ≤ k ∧ k < w.heap.size + 2) A A' → Ix c i A') (h0 : I 0 w)
    (hround : ∀ l i args (W : World), i < N → I i W → R (w.heap.size + 2) i args W → w.heap.size + 1 < W.heap.size → assign.wpIn (Fence.wide.inRound l) (n - 1 - 1) P
      (Exit.then (fun a₁ W₁ => Only C W W₁ ∧ ∀ W₂, Only (fun k => k = w.heap.size + 1) W₁ W₂ → body.wpIn (Fence.wide.inRound l) (n - 1 - 1) P (roundEnd C I Ix i W₂) a₁ W₂) (fun _ _ _ => False))
      { tmps := (ps.zip args).foldl (fun t (p, v) => t.setIfInBounds p v) a.tmps, defers := [] } W)
    (hdone : ∀ W, I N W → W.heap[w.heap.size]? = some (.deferred (some [])) → Q .normal { a with defers := { target := .collected w.heap.size, args := #[] } :: a.defers } W)
    (hstop : ∀ c i W, i < N → Ix c i W → W.heap[w.heap.size]? = some (.deferred (some [])) → c.wpIn Fence.wide n P Q { a with defers := { target := .collected w.heap.size, args := #[] } :: a.defers } W) :
    (Code.rangeFunc g ps assign body).wpIn Fence.wide n P Q a w := by
  have hdep : ∀ k : Nat, Fence.wide.depth.isSome = true → 1 ≤ k := fun k h => by simp [Fence.wide] at h
  refine wpIn_rangeFunc fun fn hfn => ?_
  obtain ⟨rec, hrec⟩ : ∃ rec : LoopState → Option Code → Loop, rec = fun st pe => { state := st, pending := pe, fn, tmps := a.tmps, params := ps, assign, body, defers := w.heap.size } := ⟨_, rfl⟩
  obtain ⟨W1, hW1⟩ : ∃ W1, (w.alloc (.deferred (some []))).alloc (.loop (rec .ready none)) = W1 := ⟨_, rfl⟩
  have hz1 : W1.heap.size = w.heap.size + 2 := by rw [← hW1]; simp
  have hL1 : W1.heap[w.heap.size + 1]? = some (.loop (rec .ready none)) := by
    rw [← hW1]; have := World.alloc_heap_new (w.alloc (.deferred (some []))) (.loop (rec .ready none)); rwa [World.size_alloc] at this
  have hK1 : W1.heap[w.heap.size]? = some (.deferred (some [])) := by
    rw [← hW1]; exact (Below.heap_alloc _ _ _ (by simp)).trans (World.alloc_heap_new w _)
  have hO1 : Only (fun k => w.heap.size ≤ k ∧ k < w.heap.size + 2) w W1 := by rw [← hW1]; exact ((Only.refl _ w).alloc _).alloc _
  refine ⟨w.heap.size + 1, [{ target := .collected w.heap.size, args := #[] }], W1, { target := .fn (.func gf) lb, args := #[.func (.yield (w.heap.size + 1)) #[] #[]] }, W1, gf,
    #[.func (.yield (w.heap.size + 1)) #[] #[]] ++ lb, W1, ?_, ?_, fun _ _ => trivial, ?_, hdep _, ?_⟩
  · rw [← hW1, hrec]; exact run_enterLoop_outer _ _ _ _ _
  · simp only [resolve, hg]; simp [go_sem]
  · simp [invoke, go_sem, eg]
  have hR : ∀ {A A' : World}, Below A.heap.size A A' → Only (fun k => w.heap.size ≤ k ∧ k < w.heap.size + 2) A A' ∧
      (∀ k, k < A.heap.size → A'.heap[k]? = A.heap[k]?) := fun h => ⟨Only.of_below _ h, h.block⟩
  refine (hit (w.heap.size + 1)
    (fun i W => I i W ∧ W.heap[w.heap.size + 1]? = some (.loop (rec .ready none)) ∧ W.heap[w.heap.size]? = some (.deferred (some [])))
    (fun i W => ∃ c, Ix c i W ∧ W.heap[w.heap.size + 1]? = some (.loop (rec .done (some c))) ∧ W.heap[w.heap.size]? = some (.deferred (some [])))
    (fun k => C k ∨ k = w.heap.size + 1) W1 (fun k hk => ⟨by have := (hcap k hk).1; omega, (hO1.block k (hcap k hk).1 (by have := (hcap k hk).1; omega)).trans (hcap k hk).2⟩)
    ?_ ?_ ?_ ?_ ⟨hI _ _ _ h0 hO1, hL1, hK1⟩).mono ?_
  · rintro k (hk | rfl)
    · exact (hC k hk).1
    · exact fun h => by have := (hcap _ h).1; omega
  · rintro i A A' ⟨hi, hl, hk⟩ ho
    have h2 := hR ho
    have s1 := (Array.getElem?_eq_some_iff.1 hl).1
    exact ⟨hI _ _ _ hi h2.1, (h2.2 _ s1).trans hl, (h2.2 _ (by omega)).trans hk⟩
  · rintro i A A' ⟨c, hi, hl, hk⟩ ho
    have h2 := hR ho
    have s1 := (Array.getElem?_eq_some_iff.1 hl).1
    exact ⟨c, hIx _ _ _ _ hi h2.1, (h2.2 _ s1).trans hl, (h2.2 _ (by omega)).trans hk⟩
  · rintro i args W hlen ⟨hi, hl, hk⟩ hRi
    have hlt : w.heap.size + 1 < W.heap.size := (Array.getElem?_eq_some_iff.1 hl).1
    have hy := run_yield (P := P) (args := args) hl (by rw [hrec]; exact hps _ _ _ _ hRi)
    rw [hrec] at hy
    refine ⟨fn, _, assign, body, hy, roundIn_of_wpIn trivial ?_⟩
    refine wpIn_mono (hround (w.heap.size + 1) i args W hlen hi (hz1 ▸ hRi) hlt) ?_
    rintro e a₁ W₁ hq
    cases e with
    | normal =>
      obtain ⟨hc1, hbody⟩ := hq
      have hl1 : W₁.heap[w.heap.size + 1]? = some (.loop (rec .ready none)) := (hc1.block _ hlt (fun h => by have := hC _ h; omega)).trans hl
      have hk1 : W₁.heap[w.heap.size]? = some (.deferred (some [])) := (hc1.block _ (by omega) (fun h => by have := hC _ h; omega)).trans hk
      have s1 : w.heap.size + 1 < W₁.heap.size := (Array.getElem?_eq_some_iff.1 hl1).1
      refine ⟨_, run_beginRound hl1 (by rw [hrec]), ?_⟩
      have hb2 := hbody (W₁.putObj (w.heap.size + 1) (.loop { rec .ready none with state := .busy })) (Only.putObj _ (by rfl) _)
      have hl2 : (W₁.putObj (w.heap.size + 1) (.loop { rec .ready none with state := .busy })).heap[w.heap.size + 1]? = some (.loop { rec .ready none with state := .busy }) := World.putObj_heap_same s1
      have hk2 : (W₁.putObj (w.heap.size + 1) (.loop { rec .ready none with state := .busy })).heap[w.heap.size]? = some (.deferred (some [])) := (World.putObj_heap_other (by omega)).trans hk1
      have ho2 : Only (fun k => C k ∨ k = w.heap.size + 1) W (W₁.putObj (w.heap.size + 1) (.loop { rec .ready none with state := .busy })) :=
        (hc1.mono fun _ _ h => .inl h).trans (Only.putObj _ (.inr rfl) _)
      refine wpIn_mono hb2 ?_
      generalize W₁.putObj (w.heap.size + 1) (.loop { rec .ready none with state := .busy }) = W₂ at *
      have fin : ∀ (jump : Option Code) (W3 : World), Only C W₂ W3 →
          (Instr.endRound (w.heap.size + 1) jump).run P W3 = .ok (.bool jump.isNone) (W3.putObj (w.heap.size + 1) (.loop (rec (if jump.isNone then .ready else .done) jump))) ∧
          (W3.putObj (w.heap.size + 1) (.loop (rec (if jump.isNone then .ready else .done) jump))).heap[w.heap.size + 1]? = some (.loop (rec (if jump.isNone then .ready else .done) jump)) ∧
          (W3.putObj (w.heap.size + 1) (.loop (rec (if jump.isNone then .ready else .done) jump))).heap[w.heap.size]? = some (.deferred (some [])) ∧
          Only (fun k => w.heap.size ≤ k ∧ k < w.heap.size + 2) W3 (W3.putObj (w.heap.size + 1) (.loop (rec (if jump.isNone then .ready else .done) jump))) ∧
          Only (fun k => C k ∨ k = w.heap.size + 1) W (W3.putObj (w.heap.size + 1) (.loop (rec (if jump.isNone then .ready else .done) jump))) := fun jump W3 hc3 => by
        have hl3 : W3.heap[w.heap.size + 1]? = _ := (hc3.block _ (Array.getElem?_eq_some_iff.1 hl2).1 (fun h => by have := hC _ h; omega)).trans hl2
        have hk3 : W3.heap[w.heap.size]? = some (.deferred (some [])) := (hc3.block _ (Array.getElem?_eq_some_iff.1 hk2).1 (fun h => by have := hC _ h; omega)).trans hk2
        have := run_endRound (P := P) jump hl3
        rw [hrec] at this ⊢
        exact ⟨this, World.putObj_heap_same (Array.getElem?_eq_some_iff.1 hl3).1, (World.putObj_heap_other (by omega)).trans hk3, Only.putObj _ (by omega) _,
          (ho2.trans (hc3.mono fun _ _ h => .inl h)).trans (Only.putObj _ (.inr rfl) _)⟩
      rintro e a3 W3 hp
      cases e with
      | normal =>
        obtain ⟨hc3, hi3⟩ := hp
        obtain ⟨hr, hl4, hk4, hd4, ho4⟩ := fin none W3 hc3
        exact ⟨_, _, hr, .inl ⟨rfl, ⟨hI _ _ _ hi3 hd4, hl4, hk4⟩, ho4⟩⟩
      | ret =>
        obtain ⟨hc3, hi3⟩ := hp
        obtain ⟨hr, hl4, hk4, hd4, _⟩ := fin (some .ret) W3 hc3
        exact ⟨_, _, hr, .inr ⟨rfl, .ret, hIx _ _ _ _ hi3 hd4, hl4, hk4⟩⟩
      | exit id =>
        obtain ⟨hc3, hi3⟩ := hp
        obtain ⟨hr, hl4, hk4, hd4, _⟩ := fin (some (.exit id)) W3 hc3
        exact ⟨_, _, hr, .inr ⟨rfl, .exit id, hIx _ _ _ _ hi3 hd4, hl4, hk4⟩⟩
      | goto t =>
        obtain ⟨hc3, hi3⟩ := hp
        obtain ⟨hr, hl4, hk4, hd4, _⟩ := fin (some (.goto t)) W3 hc3
        exact ⟨_, _, hr, .inr ⟨rfl, .goto t, hIx _ _ _ _ hi3 hd4, hl4, hk4⟩⟩
      | panic ch => exact hp.elim
      | outgrown => exact hp.elim
    | ret => exact hq.elim
    | exit id => exact hq.elim
    | goto t => exact hq.elim
    | panic ch => exact hq.elim
    | outgrown => exact hq.elim
  · rintro e W2 ⟨⟨v, rfl⟩, (⟨hi, hl, hk⟩ | ⟨i, hlen, c, hi, hl, hk⟩)⟩
    · exact ⟨none, _, by have := run_endLoop (P := P) hl (by rw [hrec]; simp); rw [hrec] at this; exact this, hdone _ (hI _ _ _ hi (Only.putObj _ (by omega) _)) ((World.putObj_heap_other (by omega)).trans hk)⟩
    · exact ⟨some c, _, by have := run_endLoop (P := P) hl (by rw [hrec]; simp); rw [hrec] at this; exact this, hstop c i _ hlen (hIx _ _ _ _ hi (Only.putObj _ (by omega) _)) ((World.putObj_heap_other (by omega)).trans hk)⟩
end Go.Proofs.YtljhcegkekdjgaaDoor
