/- The sort of rows by a comparison: the library's own functions at this program's numbers. Rows of a call's own are sorted by their keys: what slices.SortFunc leaves with the program's own comparison. -/
import Derived.Shelf.SlSortCmp.WholeK
import Derived.Test.YtljdkjjjnlcflaaDoorRowProg
import Derived.Test.YtljdkjjjnlcflaaDoorPmMap
import Derived.Test.YtljdkjjjnlcflaaDoorCmp
namespace Go.Proofs.YtljdkjjjnlcflaaDoor
open Go.Shelf
def sortRow_ren : Go.Shelf.Ren := ⟨fun | 6 => 65 | 15 => 77 | 14 => 76 | 28 => 87 | 29 => 88 | 20 => 79 | 21 => 80 | 22 => 81 | 23 => 82 | 24 => 83 | 25 => 84 | 26 => 85 | 27 => 86 | 46 => 89 | 47 => 90 | 48 => 91 | 49 => 92 | 50 => 93 | 57 => 94 | n => n, fun | 22 => 25 | 24 => 24 | 25 => 93 | 3 => 3 | 39 => 100 | 0 => 0 | 53 => 27 | 55 => 22 | 4 => 4 | 46 => 106 | 45 => 105 | 50 => 75 | 5 => 5 | 9 => 9 | 66 => 113 | 70 => 117 | 76 => 119 | 77 => 120 | n => n, fun | n => n⟩
theorem sortRow : Go.Proofs.SlLaysF0.n6 Tryd.prog sortRow_ren := {
  mixed := by kernel_rfl
  f6 := ⟨Tryd.f65.name, by decide, Tryd.func65.trans (congrArg some (by kernel_rfl))⟩
  f14 := ⟨Tryd.f76.name, by decide, Tryd.func76.trans (congrArg some (by kernel_rfl))⟩
  f15 := Tryd.func77.trans (congrArg some (by kernel_rfl))
  f20 := ⟨Tryd.f79.name, by decide, Tryd.func79.trans (congrArg some (by kernel_rfl))⟩
  f21 := ⟨Tryd.f80.name, by decide, Tryd.func80.trans (congrArg some (by kernel_rfl))⟩
  f22 := ⟨Tryd.f81.name, by decide, Tryd.func81.trans (congrArg some (by kernel_rfl))⟩
  f23 := ⟨Tryd.f82.name, by decide, Tryd.func82.trans (congrArg some (by kernel_rfl))⟩
  f24 := ⟨Tryd.f83.name, by decide, Tryd.func83.trans (congrArg some (by kernel_rfl))⟩
  f25 := ⟨Tryd.f84.name, by decide, Tryd.func84.trans (congrArg some (by kernel_rfl))⟩
  f26 := ⟨Tryd.f85.name, by decide, Tryd.func85.trans (congrArg some (by kernel_rfl))⟩
  f27 := ⟨Tryd.f86.name, by decide, Tryd.func86.trans (congrArg some (by kernel_rfl))⟩
  f28 := Tryd.func87.trans (congrArg some (by kernel_rfl))
  f29 := Tryd.func88.trans (congrArg some (by kernel_rfl))
  f46 := ⟨Tryd.f89.name, by decide, Tryd.func89.trans (congrArg some (by kernel_rfl))⟩
  f47 := Tryd.func90.trans (congrArg some (by kernel_rfl))
  f48 := Tryd.func91.trans (congrArg some (by kernel_rfl))
  f49 := ⟨Tryd.f92.name, by decide, Tryd.func92.trans (congrArg some (by kernel_rfl))⟩
  f50 := ⟨Tryd.f93.name, by decide, Tryd.func93.trans (congrArg some (by kernel_rfl))⟩
  f57 := ⟨Tryd.f94.name, by decide, Tryd.func94.trans (congrArg some (by kernel_rfl))⟩
  t0 := Tryd.underlying0
  a0 := Tryd.isAgg0
  z0 := Tryd.sizeOf0
  v0 := Tryd.zeroValue0
  t3 := Tryd.underlying3
  a3 := Tryd.isAgg3
  z3 := Tryd.sizeOf3
  v3 := Tryd.zeroValue3
  t4 := Tryd.underlying4
  a4 := Tryd.isAgg4
  z4 := Tryd.sizeOf4
  v4 := Tryd.zeroValue4
  t5 := Tryd.underlying5
  a5 := Tryd.isAgg5
  z5 := Tryd.sizeOf5
  v5 := Tryd.zeroValue5
  t9 := Tryd.underlying9
  a9 := Tryd.isAgg9
  z9 := Tryd.sizeOf9
  v9 := Tryd.zeroValue9
  t22 := Tryd.underlying25
  a22 := Tryd.isAgg25
  z22 := Tryd.sizeOf25
  v22 := Tryd.zeroValue25
  t25 := Tryd.underlying93
  a25 := Tryd.isAgg93
  z25 := Tryd.sizeOf93
  v25 := Tryd.zeroValue93
  t39 := Tryd.underlying100
  a39 := Tryd.isAgg100
  z39 := Tryd.sizeOf100
  v39 := Tryd.zeroValue100
  t45 := Tryd.underlying105
  a45 := Tryd.isAgg105
  z45 := Tryd.sizeOf105
  v45 := Tryd.zeroValue105
  t46 := Tryd.underlying106
  a46 := Tryd.isAgg106
  z46 := Tryd.sizeOf106
  v46 := Tryd.zeroValue106
  t50 := Tryd.underlying75
  a50 := Tryd.isAgg75
  z50 := Tryd.sizeOf75
  v50 := Tryd.zeroValue75
  t53 := Tryd.underlying27
  a53 := Tryd.isAgg27
  z53 := Tryd.sizeOf27
  v53 := Tryd.zeroValue27
  t55 := Tryd.underlying22
  a55 := Tryd.isAgg22
  z55 := Tryd.sizeOf22
  v55 := Tryd.zeroValue22
  t66 := Tryd.underlying113
  a66 := Tryd.isAgg113
  z66 := Tryd.sizeOf113
  v66 := Tryd.zeroValue113
  t70 := Tryd.underlying117
  a70 := Tryd.isAgg117
  z70 := Tryd.sizeOf117
  v70 := Tryd.zeroValue117
  t76 := Tryd.underlying119
  a76 := Tryd.isAgg119
  z76 := Tryd.sizeOf119
  v76 := Tryd.zeroValue119
  t77 := Tryd.underlying120
  a77 := Tryd.isAgg120
  z77 := Tryd.sizeOf120
  v77 := Tryd.zeroValue120 }
end Go.Proofs.YtljdkjjjnlcflaaDoor

namespace Go.Proofs.YtljdkjjjnlcflaaDoor
open Go.RowKit Go.Lib Tb Pt Opn

set_option maxRecDepth 100000 in
set_option maxHeartbeats 1000000 in
theorem nan_at (x : Nat) (w : World) : Calls Tryd.prog 75 #[.int .u64 x] w fun e w' => e = .returned (.bool false) ∧ w' = w := by
  go_enter Tryd.func75, Tryd.ntmps75
  go_wp2
  go_ret
  exact ⟨by simp, rfl⟩

set_option maxRecDepth 100000 in
set_option maxHeartbeats 1000000 in
theorem compare_at (x y : Nat) (w : World) : Calls Tryd.prog 64 #[.int .u64 x, .int .u64 y] w fun e w' => e = .returned (.int .i64 (cmpI x y)) ∧ w' = w := by
  by_cases h1 : x < y
  · rw [show cmpI x y = -1 by unfold cmpI; rw [if_pos h1]]
    have i1 : (x : Int) < (y : Int) := by omega
    go_enter Tryd.func64, Tryd.ntmps64
    go_wp2_with (go_at_call 75; refine (nan_at _ _).mono ?_; rintro e w' ⟨rfl, rfl⟩)
    go_ret
    exact ⟨rfl, rfl⟩
  · by_cases h2 : y < x
    · rw [show cmpI x y = 1 by unfold cmpI; rw [if_neg h1, if_pos h2]]
      have i1 : ¬ (x : Int) < (y : Int) := by omega
      have i2 : (x : Int) > (y : Int) := by omega
      go_enter Tryd.func64, Tryd.ntmps64
      go_wp2_with (go_at_call 75; refine (nan_at _ _).mono ?_; rintro e w' ⟨rfl, rfl⟩)
      go_ret
      exact ⟨rfl, rfl⟩
    · rw [show cmpI x y = 0 by unfold cmpI; rw [if_neg h1, if_neg h2]]
      obtain rfl : x = y := by omega
      go_enter Tryd.func64, Tryd.ntmps64
      go_wp2_with (go_at_call 75; refine (nan_at _ _).mono ?_; rintro e w' ⟨rfl, rfl⟩)
      go_ret
      exact ⟨rfl, rfl⟩

set_option maxRecDepth 100000 in
set_option maxHeartbeats 1000000 in
/-- The program's own comparison of two rows: it lays two blocks. -/
theorem rowcmp_at (x1 x2 y1 y2 : Nat) (w : World) : Calls Tryd.prog 66 #[.agg #[.int .u64 x1, .int .u64 x2], .agg #[.int .u64 y1, .int .u64 y2]] w fun e w' => e = .returned (.int .i64 (cmpI x1 y1)) ∧ ∃ q os', w' = Sort.grow (w.drewN q) os' := by
  have hcon := fun W => compare_at x1 y1 W
  generalize cmpI x1 y1 = r at hcon ⊢
  go_enter Tryd.func66, Tryd.ntmps66
  go_wp2_with (go_at_call 64; refine (hcon _).mono ?_; rintro e w' ⟨rfl, rfl⟩)
  go_ret
  exact ⟨rfl, 0, _, by rw [Sort.alloc_eq_grow, Sort.alloc_eq_grow, Sort.grow_grow]; rfl⟩

/-- What the sort compares by. -/
def cfR (x y : R) : Int := cmpI x.1 y.1
theorem ltR (x y : R) : ltOf cfR x y = decide (x.1 < y.1) := by unfold ltOf cfR; rw [Bool.eq_iff_iff, decide_eq_true_iff, decide_eq_true_iff, cmp_lt]
theorem swoR : Sort.SWO (ltOf cfR) where
  irrefl x := by rw [ltR]; simp
  trans x y z h1 h2 := by rw [ltR] at *; simp at *; omega
  ntrans x y z h1 h2 := by rw [ltR] at *; simp at *; omega

theorem flat_K (l : List R) : Sort.flatK rowL 2 l.toArray = (flatL rowL l).toArray := by
  refine Sort.ext_get! (by simp [flatR]) fun t ht => ?_
  have ht' : t < l.length * 2 := by simpa using ht
  rw [Sort.get_flatK _ _ _ t (by simpa using ht')]
  have hi : t / 2 < l.length := by omega
  have h := flatL_at (L := rowL) (s := 2) rowL_len (List.getElem?_eq_getElem hi) (j := t % 2) (by omega)
  rw [show t / 2 * 2 + t % 2 = t by omega] at h
  have e1 : l.toArray[t / 2]! = l[t / 2] := by rw [getElem!_pos _ _ (by simpa using hi)]; simp
  have hj : t % 2 < (rowL l[t / 2]).length := by rw [rowL_len]; omega
  have hf : t < (flatL rowL l).length := by rw [flatR]; omega
  rw [e1, getElem!_pos (rowL l[t / 2]) (t % 2) hj, getElem!_pos (flatL rowL l).toArray t (by simpa using hf)]
  rw [List.getElem?_eq_getElem hf, List.getElem?_eq_getElem hj] at h
  injection h with h
  simpa using h.symm
theorem put_flat (l t : List R) (rest : List Value) (h : l.length = t.length) : Sort.putCells id 0 (flatL rowL t).toArray (flatL rowL l ++ rest).toArray = (flatL rowL t ++ rest).toArray := by
  have e : (flatL rowL l).length = (flatL rowL t).length := by rw [flatR, flatR, h]
  apply Array.ext_getElem?
  intro k
  simp only [Sort.putCells, Array.getElem?_mapIdx, List.getElem?_toArray, List.size_toArray, Nat.zero_le, true_and, Nat.zero_add, Nat.sub_zero, id]
  by_cases hk : k < (flatL rowL t).length
  · rw [List.getElem?_append_left (by omega), List.getElem?_append_left hk, List.getElem?_eq_getElem (by omega), List.getElem?_eq_getElem hk, Option.map_some, if_pos hk, getElem!_pos _ _ (by simpa using hk)]
    simp
  · rw [List.getElem?_append_right (by omega), List.getElem?_append_right (by omega), e]
    cases rest[k - (flatL rowL t).length]? with
    | none => rfl
    | some y => rw [Option.map_some, if_neg hk]

set_option maxRecDepth 100000 in
theorem psort_any (w : World) (B : Nat) (v : Value) (l t : List R) (hpos : 0 < l.length) (hl : l.length ≤ 1000000) (ht : Up t) (hp : l.Perm t) (hm : MadeX w B 24 2 rowL v l) :
    Calls Tryd.prog 65 #[v, .func (.func 66) #[] #[]] w fun e w' => e = .returned (.tuple #[]) ∧ MadeX w' B 24 2 rowL v t ∧ w.grownBy w' v.ownBlock := by
  rcases made_cells hm with ⟨_, h⟩ | ⟨g, cap, rest, rfl, hB, hg, hc, hcm, hr⟩
  · rw [h] at hpos; simp at hpos
  · have hgl : g < w.heap.size := (Array.getElem?_eq_some_iff.1 hg).1
    have hH : Sort.HoldsK rowL 2 w g 0 l.toArray := by
      unfold Sort.HoldsK
      rw [flat_K]
      intro j hj
      have hj' : j < (flatL rowL l).length := by simpa using hj
      refine ⟨?_, ?_⟩
      · rw [Nat.zero_add]
        simp only [World.cell?, hg]
        rw [getElem!_pos _ _ (by simpa using hj')]
        simp [List.getElem?_append_left hj', hj']
      · simp [World.frozen?, hg]
    have eg : ∀ args w, (callFunc 66 args).run Tryd.prog w = .ok (.enter 66 args) w := enters_of Tryd.func66 (by kernel_rfl) rfl
    have hcon := AnyQ.slices_SortFunc sortRow 2 Tryd.isAgg24 Tryd.sizeOf24 rowL rowL_len (fun x u hu => by simp [rowL] at hu; rcases hu with rfl | rfl <;> rfl) cfR swoR 66 #[] g 0 cap l.toArray w eg (fun _ _ _ _ x y => rowcmp_at x.1 x.2 y.1 y.2 _) hH hgl (by simp; omega)
    change Calls Tryd.prog 65 _ _ _ at hcon
    have hsz : l.toArray.size = l.length := by simp
    rw [hsz] at hcon
    refine hcon.mono ?_
    rintro e w' ⟨rfl, d', n, os, hp', hs', rfl⟩
    have hd : d'.size = l.length := by rw [hp'.1, hsz]
    have ed : d'.toList = t := by
      refine sort_is (a := l) ht ?_ hp ?_
      · have h := hp'.2.2
        rw [Array.extract_eq_self_of_le (by omega), Array.extract_eq_self_of_le (by rw [hsz]; exact Nat.le_refl _)] at h
        simpa using h
      · intro i j hi hj hij
        have h := hs' i j (Nat.zero_le _) hij (by rw [← hd, ← Array.length_toList]; exact hj)
        rw [ltR] at h
        have h1 : d'[i]! = d'.toList[i] := by rw [getElem!_pos _ _ (by simpa using hi)] <;> simp
        have h2 : d'[j]! = d'.toList[j] := by rw [getElem!_pos _ _ (by simpa using hj)] <;> simp
        rw [h1, h2] at h
        simpa using h
    have ed' : d' = t.toArray := by rw [← ed]
    have htl : t.length = l.length := hp.length_eq.symm
    subst ed'
    have hb : (sortWorldK rowL 2 w g 0 n t.toArray os).heap[g]? = some (.cells (flatL rowL t ++ rest).toArray 24 (0, 0)) := by
      unfold sortWorldK Sort.putRowK
      rw [flat_K]
      unfold Sort.grow Sort.putRow Sort.mapBlock Sort.ahead
      simp only
      rw [Array.getElem?_append_left (by simpa using hgl), Array.getElem?_modify, if_pos rfl, hg]
      simp only [Option.map_some, Sort.onCells]
      rw [put_flat l t rest htl.symm]
    refine ⟨rfl, ?_, ?_⟩
    · have h := made_of (B := B) (cap := cap) (l := t) (rest := rest) hB hb (by omega) hcm (by omega)
      rw [htl] at h
      exact h
    · refine ⟨rfl, rfl, rfl, ?_, fun k hk hne => ?_⟩
      · unfold sortWorldK Sort.putRowK Sort.grow Sort.putRow Sort.mapBlock Sort.ahead
        simp
      · unfold sortWorldK Sort.putRowK Sort.grow Sort.putRow Sort.mapBlock Sort.ahead
        simp only
        have hk' : k ≠ g := fun e => hne (by rw [e]; rfl)
        rw [Array.getElem?_append_left (by simpa using hk), Array.getElem?_modify, if_neg (fun e => hk' e.symm)]
end Go.Proofs.YtljdkjjjnlcflaaDoor
