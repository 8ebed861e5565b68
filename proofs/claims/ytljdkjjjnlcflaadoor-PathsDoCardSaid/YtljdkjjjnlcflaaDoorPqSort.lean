/- Rows of a call's own are sorted by their keys: what slices.SortFunc leaves with the program's own comparison. -/
import Derived.Test.YtljdkjjjnlcflaaDoorSortLay
import Derived.Test.YtljdkjjjnlcflaaDoorPmMap
import Derived.Test.YtljdkjjjnlcflaaDoorCmp
namespace Go.Proofs.YtljdkjjjnlcflaaDoor
open Go.RowKit Go.Lib Tb Pt Opn

set_option maxRecDepth 100000 in
set_option maxHeartbeats 1000000 in
theorem nan_at (x : Nat) (w : World) : Calls Tryd.prog 75 #[.int .u64 x] w fun e w' => e = .returned (.bool false) ∧ w' = w := by
  go_enter Tryd.func75, Tryd.ntmps75
  go_wp2
  go_ret
  exact ⟨by simp, rfl⟩

set_option maxRecDepth 100000 in
set_option maxHeartbeats 1000000 in
theorem compare_at (x y : Nat) (w : World) : Calls Tryd.prog 64 #[.int .u64 x, .int .u64 y] w fun e w' => e = .returned (.int .i64 (cmpI x y)) ∧ w' = w := by
  by_cases h1 : x < y
  · rw [show cmpI x y = -1 by unfold cmpI; rw [if_pos h1]]
    have i1 : (x : Int) < (y : Int) := by omega
    go_enter Tryd.func64, Tryd.ntmps64
    go_wp2_with (go_at_call 75; refine (nan_at _ _).mono ?_; rintro e w' ⟨rfl, rfl⟩)
    go_ret
    exact ⟨rfl, rfl⟩
  · by_cases h2 : y < x
    · rw [show cmpI x y = 1 by unfold cmpI; rw [if_neg h1, if_pos h2]]
      have i1 : ¬ (x : Int) < (y : Int) := by omega
      have i2 : (x : Int) > (y : Int) := by omega
      go_enter Tryd.func64, Tryd.ntmps64
      go_wp2_with (go_at_call 75; refine (nan_at _ _).mono ?_; rintro e w' ⟨rfl, rfl⟩)
      go_ret
      exact ⟨rfl, rfl⟩
    · rw [show cmpI x y = 0 by unfold cmpI; rw [if_neg h1, if_neg h2]]
      obtain rfl : x = y := by omega
      go_enter Tryd.func64, Tryd.ntmps64
      go_wp2_with (go_at_call 75; refine (nan_at _ _).mono ?_; rintro e w' ⟨rfl, rfl⟩)
      go_ret
      exact ⟨rfl, rfl⟩

set_option maxRecDepth 100000 in
set_option maxHeartbeats 1000000 in
/-- The program's own comparison of two rows: it lays two blocks. -/
theorem rowcmp_at (x1 x2 y1 y2 : Nat) (w : World) : Calls Tryd.prog 66 #[.agg #[.int .u64 x1, .int .u64 x2], .agg #[.int .u64 y1, .int .u64 y2]] w fun e w' => e = .returned (.int .i64 (cmpI x1 y1)) ∧ ∃ q os', w' = Sort.grow (w.drewN q) os' := by
  have hcon := fun W => compare_at x1 y1 W
  generalize cmpI x1 y1 = r at hcon ⊢
  go_enter Tryd.func66, Tryd.ntmps66
  go_wp2_with (go_at_call 64; refine (hcon _).mono ?_; rintro e w' ⟨rfl, rfl⟩)
  go_ret
  exact ⟨rfl, 0, _, by rw [Sort.alloc_eq_grow, Sort.alloc_eq_grow, Sort.grow_grow]; rfl⟩

/-- What the sort compares by. -/
def cfR (x y : R) : Int := cmpI x.1 y.1
theorem ltR (x y : R) : ltOf cfR x y = decide (x.1 < y.1) := by unfold ltOf cfR; rw [Bool.eq_iff_iff, decide_eq_true_iff, decide_eq_true_iff, cmp_lt]
theorem swoR : Sort.SWO (ltOf cfR) where
  irrefl x := by rw [ltR]; simp
  trans x y z h1 h2 := by rw [ltR] at *; simp at *; omega
  ntrans x y z h1 h2 := by rw [ltR] at *; simp at *; omega

theorem flat_K (l : List R) : Sort.flatK rowL 2 l.toArray = (flatL rowL l).toArray := by
  refine Sort.ext_get! (by simp [flatR]) fun t ht => ?_
  have ht' : t < l.length * 2 := by simpa using ht
  rw [Sort.get_flatK _ _ _ t (by simpa using ht')]
  have hi : t / 2 < l.length := by omega
  have h := flatL_at (L := rowL) (s := 2) rowL_len (List.getElem?_eq_getElem hi) (j := t % 2) (by omega)
  rw [show t / 2 * 2 + t % 2 = t by omega] at h
  have e1 : l.toArray[t / 2]! = l[t / 2] := by rw [getElem!_pos _ _ (by simpa using hi)]; simp
  have hj : t % 2 < (rowL l[t / 2]).length := by rw [rowL_len]; omega
  have hf : t < (flatL rowL l).length := by rw [flatR]; omega
  rw [e1, getElem!_pos (rowL l[t / 2]) (t % 2) hj, getElem!_pos (flatL rowL l).toArray t (by simpa using hf)]
  rw [List.getElem?_eq_getElem hf, List.getElem?_eq_getElem hj] at h
  injection h with h
  simpa using h.symm
theorem put_flat (l t : List R) (rest : List Value) (h : l.length = t.length) : Sort.putCells id 0 (flatL rowL t).toArray (flatL rowL l ++ rest).toArray = (flatL rowL t ++ rest).toArray := by
  have e : (flatL rowL l).length = (flatL rowL t).length := by rw [flatR, flatR, h]
  apply Array.ext_getElem?
  intro k
  simp only [Sort.putCells, Array.getElem?_mapIdx, List.getElem?_toArray, List.size_toArray, Nat.zero_le, true_and, Nat.zero_add, Nat.sub_zero, id]
  by_cases hk : k < (flatL rowL t).length
  · rw [List.getElem?_append_left (by omega), List.getElem?_append_left hk, List.getElem?_eq_getElem (by omega), List.getElem?_eq_getElem hk, Option.map_some, if_pos hk, getElem!_pos _ _ (by simpa using hk)]
    simp
  · rw [List.getElem?_append_right (by omega), List.getElem?_append_right (by omega), e]
    cases rest[k - (flatL rowL t).length]? with
    | none => rfl
    | some y => rw [Option.map_some, if_neg hk]

set_option maxRecDepth 100000 in
theorem psort_any (w : World) (B : Nat) (v : Value) (l t : List R) (hpos : 0 < l.length) (hl : l.length ≤ 1000000) (ht : Up t) (hp : l.Perm t) (hm : MadeX w B 24 2 rowL v l) :
    Calls Tryd.prog 65 #[v, .func (.func 66) #[] #[]] w fun e w' => e = .returned (.tuple #[]) ∧ MadeX w' B 24 2 rowL v t ∧ w.grownBy w' v.ownBlock := by
  rcases made_cells hm with ⟨_, h⟩ | ⟨g, cap, rest, rfl, hB, hg, hc, hcm, hr⟩
  · rw [h] at hpos; simp at hpos
  · have hgl : g < w.heap.size := (Array.getElem?_eq_some_iff.1 hg).1
    have hH : Sort.HoldsK rowL 2 w g 0 l.toArray := by
      unfold Sort.HoldsK
      rw [flat_K]
      intro j hj
      have hj' : j < (flatL rowL l).length := by simpa using hj
      refine ⟨?_, ?_⟩
      · rw [Nat.zero_add]
        simp only [World.cell?, hg]
        rw [getElem!_pos _ _ (by simpa using hj')]
        simp [List.getElem?_append_left hj', hj']
      · simp [World.frozen?, hg]
    have eg : ∀ args w, (callFunc 66 args).run Tryd.prog w = .ok (.enter 66 args) w := enters_of Tryd.func66 (by kernel_rfl) rfl
    have hcon := AnyQ.slices_SortFunc sortRow 2 Tryd.isAgg24 Tryd.sizeOf24 rowL rowL_len (fun x u hu => by simp [rowL] at hu; rcases hu with rfl | rfl <;> rfl) cfR swoR 66 #[] g 0 cap l.toArray w eg (fun _ _ _ _ x y => rowcmp_at x.1 x.2 y.1 y.2 _) hH hgl (by simp; omega)
    change Calls Tryd.prog 65 _ _ _ at hcon
    have hsz : l.toArray.size = l.length := by simp
    rw [hsz] at hcon
    refine hcon.mono ?_
    rintro e w' ⟨rfl, d', n, os, hp', hs', rfl⟩
    have hd : d'.size = l.length := by rw [hp'.1, hsz]
    have ed : d'.toList = t := by
      refine sort_is (a := l) ht ?_ hp ?_
      · have h := hp'.2.2
        rw [Array.extract_eq_self_of_le (by omega), Array.extract_eq_self_of_le (by rw [hsz]; exact Nat.le_refl _)] at h
        simpa using h
      · intro i j hi hj hij
        have h := hs' i j (Nat.zero_le _) hij (by rw [← hd, ← Array.length_toList]; exact hj)
        rw [ltR] at h
        have h1 : d'[i]! = d'.toList[i] := by rw [getElem!_pos _ _ (by simpa using hi)] <;> simp
        have h2 : d'[j]! = d'.toList[j] := by rw [getElem!_pos _ _ (by simpa using hj)] <;> simp
        rw [h1, h2] at h
        simpa using h
    have ed' : d' = t.toArray := by rw [← ed]
    have htl : t.length = l.length := hp.length_eq.symm
    subst ed'
    have hb : (sortWorldK rowL 2 w g 0 n t.toArray os).heap[g]? = some (.cells (flatL rowL t ++ rest).toArray 24 (0, 0)) := by
      unfold sortWorldK Sort.putRowK
      rw [flat_K]
      unfold Sort.grow Sort.putRow Sort.mapBlock Sort.ahead
      simp only
      rw [Array.getElem?_append_left (by simpa using hgl), Array.getElem?_modify, if_pos rfl, hg]
      simp only [Option.map_some, Sort.onCells]
      rw [put_flat l t rest htl.symm]
    refine ⟨rfl, ?_, ?_⟩
    · have h := made_of (B := B) (cap := cap) (l := t) (rest := rest) hB hb (by omega) hcm (by omega)
      rw [htl] at h
      exact h
    · refine ⟨rfl, rfl, rfl, ?_, fun k hk hne => ?_⟩
      · unfold sortWorldK Sort.putRowK Sort.grow Sort.putRow Sort.mapBlock Sort.ahead
        simp
      · unfold sortWorldK Sort.putRowK Sort.grow Sort.putRow Sort.mapBlock Sort.ahead
        simp only
        have hk' : k ≠ g := fun e => hne (by rw [e]; rfl)
        rw [Array.getElem?_append_left (by simpa using hk), Array.getElem?_modify, if_neg (fun e => hk' e.symm)]
end Go.Proofs.YtljdkjjjnlcflaaDoor
