/- One access, done or refused: by the program, and by the document. -/
import Derived.Test.YtiaimenngmfnmaaCeRef
namespace Go.Proofs.Ytiaimenngmfnmaa
open Go.RowKit Ce

/-- An access, done or refused. -/
def errOf (n : Nat) (a : Acc) : Int := if mayB n a = true then 0 else 2
def DidAny (gm gr : Nat) (A : Option Addr) (n c : Nat) (cg : Nat → C4) (x : C4) (d : Bool) (E : Int) (w : World) (e : Ending) (w' : World) : Prop :=
  e = .returned (.tuple #[sv x d, .int .i64 E]) ∧ Mem w' gm gr A n c cg ∧ Only (fun k => k = gr) w w'
def RefAny (A : Option Addr) (n : Nat) (cg : Nat → C4) (x : C4) (d : Bool) (E : Int) (w : World) (e : Ending) (w' : World) : Prop :=
  ∃ A' c', e = .returned (.tuple #[.slice A' n c', sv x d, .int .i64 E]) ∧ (A' = none → n = 0 ∧ c' = 0) ∧ IsCells w' A' n cg ∧ (A' = A ∨ ∀ b o, A' = some ⟨b, o, none⟩ → 0 < n → w.heap.size ≤ b) ∧ Below w.heap.size w w'

theorem did_any (gm gr : Nat) (A : Option Addr) (n c : Nat) (cf : Nat → C4) (af : Nat → Acc) (k : Nat) (x : C4) (d : Bool) (E : Int) (hx : sawC n cf af k = x) (hd : sawD n cf af k = d) (hE : errOf n (af k) = E) (w : World) (hM : Mem w gm gr A n c (st n cf af k)) :
    Calls Try.prog 9 #[.pointer (some ⟨gm, 0, none⟩), av (af k)] w (DidAny gm gr A n c (st n cf af (k + 1)) x d E w) := by
  subst hx hd hE
  cases hm : mayB n (af k) with
  | true =>
    refine (do_ok gm gr A n c _ (af k) hm w hM).mono ?_
    rintro e w' ⟨rfl, h1, h2⟩
    have e3 : st n cf af (k + 1) = upd (st n cf af k) (af k).i.toNat (becomes (st n cf af k (af k).i.toNat) (af k)) := by show Ce.step n _ _ = _; unfold Ce.step; rw [if_pos hm]
    refine ⟨?_, by rw [e3]; exact h1, h2⟩
    unfold sawC sawD errOf
    rw [if_pos hm, if_pos hm, if_pos hm]
  | false =>
    refine (do_bad gm gr A n c _ (af k) hm w hM).mono ?_
    rintro e w' ⟨rfl, h1⟩
    have hm' : ¬ mayB n (af k) = true := by rw [hm]; simp
    have e3 : st n cf af (k + 1) = st n cf af k := by show Ce.step n _ _ = _; unfold Ce.step; rw [if_neg hm']
    refine ⟨?_, by rw [e3]; exact hM.same h1.block, Only.of_below _ h1⟩
    unfold sawC sawD errOf
    rw [if_neg hm', if_neg hm', if_neg hm']

theorem ref_any (A : Option Addr) (n c : Nat) (hA : A = none → n = 0 ∧ c = 0) (hn : n ≤ 1024) (cf : Nat → C4) (af : Nat → Acc) (k : Nat) (x : C4) (d : Bool) (E : Int) (hx : sawC n cf af k = x) (hd : sawD n cf af k = d) (hE : errOf n (af k) = E) (w : World) (hI : IsCells w A n (st n cf af k)) :
    Calls Try.prog 15 #[.slice A n c, av (af k)] w (RefAny A n (st n cf af (k + 1)) x d E w) := by
  subst hx hd hE
  cases hm : mayB n (af k) with
  | true =>
    have h := may_true hm
    obtain ⟨q, hq⟩ : ∃ q : Nat, (af k).i = q := ⟨(af k).i.toNat, by omega⟩
    have e0 : af k = ⟨(af k).k, (q : Int), (af k).o, (af k).n⟩ := by rw [← hq]
    have e1 : (af k).i.toNat = q := by rw [hq]; rfl
    have hm2 := hm
    rw [e0] at hm2
    have h1 := rDo_yes A n c hA (by omega) (st n cf af k) (af k).k q (af k).o (af k).n (by omega) hm2 _ _ rfl rfl w hI
    rw [← e0] at h1
    refine h1.mono ?_
    rintro e w' ⟨A', c', rfl, h2, h3, h4⟩
    have e3 : st n cf af (k + 1) = upd (st n cf af k) (af k).i.toNat (becomes (st n cf af k (af k).i.toNat) (af k)) := by show Ce.step n _ _ = _; unfold Ce.step; rw [if_pos hm]
    refine ⟨A', c', ?_, h2, by rw [e3, e1]; exact h3.cells, .inr fun b o hb hn0 => ?_, h4⟩
    · unfold sawC sawD errOf
      rw [if_pos hm, if_pos hm, if_pos hm, e1]
    · obtain ⟨g, e, hg, _⟩ := h3.2.2 hn0
      have : b = g := congrArg Addr.block (Option.some.inj (hb.symm.trans e))
      omega
  | false =>
    have hm2 := hm
    rw [show af k = ⟨(af k).k, (af k).i, (af k).o, (af k).n⟩ from rfl] at hm2
    refine (rDo_no A n c (af k).k (af k).i (af k).o (af k).n hm2 w).mono ?_
    rintro e w' ⟨rfl, h1⟩
    have hm' : ¬ mayB n (af k) = true := by rw [hm]; simp
    have e3 : st n cf af (k + 1) = st n cf af k := by show Ce.step n _ _ = _; unfold Ce.step; rw [if_neg hm']
    refine ⟨A, c, ?_, hA, by rw [e3]; exact hI.same h1.block, .inl rfl, h1⟩
    unfold sawC sawD errOf
    rw [if_neg hm', if_neg hm', if_neg hm']

theorem cells_only {w w' : World} {A : Option Addr} {n gr : Nat} {cf : Nat → C4} (h : IsCells w A n cf) (hO : Only (fun k => k = gr) w w') (hne : ∀ b o, A = some ⟨b, o, none⟩ → 0 < n → b ≠ gr) : IsCells w' A n cf := fun i hi => by
  obtain ⟨b, o, e, h4⟩ := h i hi
  exact ⟨b, o, e, h4.same (hO.block b h4.lt (hne b o e (by omega)))⟩

def sF (x : C4) (d : Bool) : Nat → Value := fun j => if j = 0 then .int .u64 x.t else if j = 1 then .int .u64 x.a else if j = 2 then .int .u64 x.b else if j = 3 then .int .u64 x.c else .bool d
theorem row5 (w : World) (x : C4) (d : Bool) (t : TypeId) : (w.alloc (.cells #[.int .u64 x.t, .int .u64 x.a, .int .u64 x.b, .int .u64 x.c, .bool d] t)).rowIs w.heap.size t 5 (sF x d) := by
  refine ⟨#[.int .u64 x.t, .int .u64 x.a, .int .u64 x.b, .int .u64 x.c, .bool d], heap_alloc_new w _, rfl, fun j hj => ?_⟩
  match j, hj with
  | 0, _ => rfl
  | 1, _ => rfl
  | 2, _ => rfl
  | 3, _ => rfl
  | 4, _ => rfl
end Go.Proofs.Ytiaimenngmfnmaa
