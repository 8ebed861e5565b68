/- Adds meet in any order: plain mathematics. -/
import Derived.Test.YtiaimenngmfnmaaCeMath
import Derived.Laws.Bits64
namespace Go.Proofs.Ytiaimenngmfnmaa.Ce
open Go.RowKit

/-- An add at i, of m. -/
def addA (i m : Int) : Acc := ⟨4, i, C4.zero, ⟨0, m, 0, 0⟩⟩
theorem addA_becomes (x : C4) (i m : Int) : becomes x (addA i m) = ⟨x.t, IntKind.u64.wrap (x.a + m), x.b, x.c⟩ := by simp [becomes, addA]

theorem add_comm2 (n : Nat) (cf : Nat → C4) (i m j l : Int) : Ce.step n (Ce.step n cf (addA i m)) (addA j l) = Ce.step n (Ce.step n cf (addA j l)) (addA i m) := by
  unfold Ce.step
  by_cases h1 : mayB n (addA i m) = true
  · by_cases h2 : mayB n (addA j l) = true
    · rw [if_pos h1, if_pos h2, if_pos h2, if_pos h1]
      simp only [addA_becomes]
      show upd (upd cf i.toNat _) j.toNat _ = upd (upd cf j.toNat _) i.toNat _
      funext k
      by_cases e : i.toNat = j.toNat
      · have e1 : (addA i m).i.toNat = (addA j l).i.toNat := e
        simp only [e1, upd_same]
        show upd (upd cf i.toNat _) j.toNat _ k = upd (upd cf j.toNat _) i.toNat _ k
        rw [e]
        by_cases ek : k = j.toNat
        · subst ek
          simp only [upd_same]
          refine C4.ext' rfl ?_ rfl rfl
          show IntKind.u64.wrap (IntKind.u64.wrap ((cf j.toNat).a + m) + l) = IntKind.u64.wrap (IntKind.u64.wrap ((cf j.toNat).a + l) + m)
          simp only [IntKind.wrap_u64]
          omega
        · simp only [upd_other ek]
      · have a1 : upd cf i.toNat ⟨(cf i.toNat).t, IntKind.u64.wrap ((cf i.toNat).a + m), (cf i.toNat).b, (cf i.toNat).c⟩ j.toNat = cf j.toNat := upd_other (fun h => e h.symm)
        have a2 : upd cf j.toNat ⟨(cf j.toNat).t, IntKind.u64.wrap ((cf j.toNat).a + l), (cf j.toNat).b, (cf j.toNat).c⟩ i.toNat = cf i.toNat := upd_other e
        show upd (upd cf i.toNat ⟨(cf i.toNat).t, IntKind.u64.wrap ((cf i.toNat).a + m), (cf i.toNat).b, (cf i.toNat).c⟩) j.toNat ⟨(upd cf i.toNat ⟨(cf i.toNat).t, IntKind.u64.wrap ((cf i.toNat).a + m), (cf i.toNat).b, (cf i.toNat).c⟩ j.toNat).t, IntKind.u64.wrap ((upd cf i.toNat ⟨(cf i.toNat).t, IntKind.u64.wrap ((cf i.toNat).a + m), (cf i.toNat).b, (cf i.toNat).c⟩ j.toNat).a + l), (upd cf i.toNat ⟨(cf i.toNat).t, IntKind.u64.wrap ((cf i.toNat).a + m), (cf i.toNat).b, (cf i.toNat).c⟩ j.toNat).b, (upd cf i.toNat ⟨(cf i.toNat).t, IntKind.u64.wrap ((cf i.toNat).a + m), (cf i.toNat).b, (cf i.toNat).c⟩ j.toNat).c⟩ k
          = upd (upd cf j.toNat ⟨(cf j.toNat).t, IntKind.u64.wrap ((cf j.toNat).a + l), (cf j.toNat).b, (cf j.toNat).c⟩) i.toNat ⟨(upd cf j.toNat ⟨(cf j.toNat).t, IntKind.u64.wrap ((cf j.toNat).a + l), (cf j.toNat).b, (cf j.toNat).c⟩ i.toNat).t, IntKind.u64.wrap ((upd cf j.toNat ⟨(cf j.toNat).t, IntKind.u64.wrap ((cf j.toNat).a + l), (cf j.toNat).b, (cf j.toNat).c⟩ i.toNat).a + m), (upd cf j.toNat ⟨(cf j.toNat).t, IntKind.u64.wrap ((cf j.toNat).a + l), (cf j.toNat).b, (cf j.toNat).c⟩ i.toNat).b, (upd cf j.toNat ⟨(cf j.toNat).t, IntKind.u64.wrap ((cf j.toNat).a + l), (cf j.toNat).b, (cf j.toNat).c⟩ i.toNat).c⟩ k
        rw [a1, a2]
        by_cases e1 : k = j.toNat
        · subst e1
          rw [upd_same, upd_other (fun h => e h.symm), upd_same]
        · rw [upd_other e1]
          by_cases e2 : k = i.toNat
          · subst e2; rw [upd_same, upd_same]
          · rw [upd_other e2, upd_other e2, upd_other e1]
    · rw [if_pos h1, if_neg h2, if_neg h2, if_pos h1]
  · by_cases h2 : mayB n (addA j l) = true
    · rw [if_neg h1, if_pos h2, if_neg h1]
    · rw [if_neg h1, if_neg h2, if_neg h1]

theorem st_fold (n : Nat) (cf : Nat → C4) (af : Nat → Acc) (k : Nat) : st n cf af k = ((List.range k).map af).foldl (Ce.step n) cf := by
  induction k with
  | zero => rfl
  | succ k ih => rw [List.range_succ, List.map_append, List.foldl_append, ← ih]; rfl

theorem range_back (N : Nat) : ((List.range N).map fun i => N - 1 - i).Perm (List.range N) := by
  have : (List.range N).map (fun i => N - 1 - i) = (List.range N).reverse := by
    apply List.ext_getElem
    · simp
    · intro i h1 h2
      simp
  rw [this]
  exact List.reverse_perm _

/-- The cells behind adds, from either end. -/
theorem adds_back (n N : Nat) (cf : Nat → C4) (f g : Nat → Int) : st n cf (fun i => addA (f i) (g i)) N = st n cf (fun i => addA (f (N - 1 - i)) (g (N - 1 - i))) N := by
  rw [st_fold, st_fold]
  have hp : ((List.range N).map fun i => addA (f (N - 1 - i)) (g (N - 1 - i))).Perm ((List.range N).map fun i => addA (f i) (g i)) := by
    have := (range_back N).map fun i => addA (f i) (g i)
    rwa [List.map_map] at this
  symm
  refine hp.foldl_eq' (fun x hx y hy z => ?_) cf
  obtain ⟨i, _, rfl⟩ := List.mem_map.1 hx
  obtain ⟨j, _, rfl⟩ := List.mem_map.1 hy
  exact add_comm2 n z _ _ _ _
theorem adds_ok (n N : Nat) (f g : Nat → Int) : okTo n (fun i => addA (f i) (g i)) N = okTo n (fun i => addA (f (N - 1 - i)) (g (N - 1 - i))) N := by
  rw [Bool.eq_iff_iff, okTo_iff, okTo_iff]
  refine ⟨fun h j hj => h (N - 1 - j) (by omega), fun h j hj => ?_⟩
  have := h (N - 1 - j) (by omega)
  rwa [show N - 1 - (N - 1 - j) = j by omega] at this
end Go.Proofs.Ytiaimenngmfnmaa.Ce
