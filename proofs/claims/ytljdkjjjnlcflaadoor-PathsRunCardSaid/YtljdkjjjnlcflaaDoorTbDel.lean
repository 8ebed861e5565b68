/- slices.Delete of one row, of rows of the call's own. -/
import Derived.Test.YtljdkjjjnlcflaaDoorTbGen
namespace Go.Proofs.YtljdkjjjnlcflaaDoor
open Go.RowKit Go.Lib Tb
set_option maxHeartbeats 4000000 in
set_option maxRecDepth 100000 in
theorem delete_any (w : World) (B : Nat) (v : Value) (l1 l2 : List R) (x : R) (hl : (l1 ++ x :: l2).length ≤ 1000000) (hm : MadeX w B 24 2 rowL v (l1 ++ x :: l2)) (z : Int) (hz : z = (l1.length : Int) + 1) :
    Calls Tryd.prog 50 #[v, .int .i64 l1.length, .int .i64 z] w (RetI (l1 ++ l2) B w v) := by
  rcases made_cells hm with ⟨_, h⟩ | ⟨g, cap, rest, rfl, hBg, hg, hc, hcm, hr⟩
  · simp at h
  clear hm
  obtain ⟨i, hi⟩ : ∃ i, l1.length = i := ⟨_, rfl⟩
  obtain ⟨n, hn⟩ : ∃ n, (l1 ++ x :: l2).length = n := ⟨_, rfl⟩
  have hin : i < n := by rw [← hi, ← hn, List.length_append, List.length_cons]; omega
  have hl2 : l2.length = n - i - 1 := by rw [← hi, ← hn, List.length_append, List.length_cons]; omega
  rw [hn] at hl hc hr ⊢
  rw [hi] at hz ⊢
  obtain ⟨F1, hF1⟩ : ∃ F, flatL rowL l1 = F := ⟨_, rfl⟩
  obtain ⟨F2, hF2⟩ : ∃ F, flatL rowL l2 = F := ⟨_, rfl⟩
  have z1 : F1.length = i * 2 := by rw [← hF1, flatR, hi]
  have z2 : F2.length = (n - i - 1) * 2 := by rw [← hF2, flatR, hl2]
  have zx : (rowL x).length = 2 := rfl
  have eF : flatL rowL (l1 ++ x :: l2) = F1 ++ (rowL x ++ F2) := by rw [flatL_append, hF1, show flatL rowL (x :: l2) = rowL x ++ flatL rowL l2 by simp [flatL], hF2]
  rw [eF] at hg
  -- what is turned to the left, and what is left over
  obtain ⟨Q, T, hQ, hT, hQT⟩ : ∃ Q T, Q.length = F2.length ∧ T.length = 2 ∧ rowL x ++ F2 = Q ++ T := ⟨(rowL x ++ F2).take F2.length, (rowL x ++ F2).drop F2.length, by rw [List.length_take, List.length_append]; omega, by rw [List.length_drop, List.length_append, zx]; omega, (List.take_append_drop _ _).symm⟩
  have hg1 : w.drew.heap[g]? = some (.cells (F1 ++ Q ++ (T ++ rest)).toArray 24 (0, 0)) := by
    rw [show w.drew.heap = w.heap from rfl, hg, hQT]; simp
  obtain ⟨i0, hi0, hz0, hzs, hzb⟩ := info_parts row_info
  -- the place that is copied from: the row's own beginning, where there is no more room
  obtain ⟨A, hA, hsrc⟩ : ∃ A : Addr, (if cap = i + 1 then some (⟨g, 0, none⟩ : Addr) else some ⟨g, (i + 1) * 2, none⟩) = some A ∧ Hid (∀ t u, F2[t]? = some u → w.drew.cell? (A.add t) = some u) := by
    by_cases h : cap = i + 1
    · refine ⟨⟨g, 0, none⟩, by simp [h], fun t u hu => ?_⟩
      have h0 : F2.length = 0 := by omega
      rw [List.length_eq_zero_iff.1 h0] at hu
      simp at hu
    · refine ⟨⟨g, (i + 1) * 2, none⟩, by simp [h], fun t u hu => ?_⟩
      have h0 : w.drew.heap[g]? = some (.cells ((F1 ++ rowL x) ++ F2 ++ rest).toArray 24 (0, 0)) := by rw [show w.drew.heap = w.heap from rfl, hg]; simp
      rw [addrAdd, cell_row h0, mid_at (by rw [List.length_append, z1, zx]; omega) hu]
  obtain ⟨W1, hW1⟩ : ∃ W, W = w.drew.setRow g (F1 ++ F2 ++ (T ++ rest)).toArray := ⟨_, rfl⟩
  have happ : ∀ ty dc, (Builtin.append_ #[25, 25] ty #[.slice (some ⟨g, 0, none⟩) i cap, .slice (some A) (n - (i + 1)) dc]).run Tryd.prog w.drew = .ok (.slice (some ⟨g, 0, none⟩) (i + (n - (i + 1))) cap) W1 := fun ty dc => by
    rw [hW1]
    exact run_appendX w.drew _ ty _ i0 Tryd.underlying25 hi0 g i cap F1 Q F2 (T ++ rest) hg1 A (n - (i + 1)) dc (by rw [z1, hzs]) hQ (by rw [z2, hzs]; congr 1) hsrc.out (by rw [← hF2]; exact flatL_one _) (by omega)
  have hg2 : W1.heap[g]? = some (.cells ((F1 ++ F2) ++ T ++ rest).toArray 24 (0, 0)) := by
    rw [hW1, setRow_heap w.drew g _ _ _ _ hg1]; simp
  have hzv : ∀ w, (zeroValue 24).run Tryd.prog w = .ok (.agg #[.int .u64 0, .int .u64 0]) w := fun w => by kernel_rfl
  obtain ⟨W2, hW2⟩ : ∃ W, W = W1.setRow g ((F1 ++ F2) ++ [Value.int .u64 0, Value.int .u64 0] ++ rest).toArray := ⟨_, rfl⟩
  have hcl : ∀ ty dc, (Builtin.clear_ #[25] ty #[.slice (some ⟨g, (i + (n - (i + 1))) * 2, none⟩) (n - (i + (n - (i + 1)))) dc]).run Tryd.prog W1 = .ok (.tuple #[]) W2 := fun ty dc => by
    rw [hW2, show n - (i + (n - (i + 1))) = 1 by omega]
    exact run_clearX W1 _ _ ty _ Tryd.underlying25 hzv g _ 1 dc (by decide) 24 (F1 ++ F2) T _ rest hg2 (by rw [List.length_append, z1, z2]; omega) hT (by kernel_rfl) (by intro u hu; rcases List.mem_cons.1 hu with rfl | hu; rfl; obtain rfl := List.mem_singleton.1 hu; rfl)
  have X1 := Lib.hid (And.intro hW1 hW2)
  have X2 := Lib.hid hg2
  have XF := Lib.hid (And.intro hF1 hF2)
  have XL := Lib.hid (And.intro hi (And.intro hn hr))
  clear hW1 hW2 hg2 hF1 hF2 z1 z2 hi hn hg hg1 zx hl2 eF hr hQ hT hQT hi0 hz0 hzs hzb hsrc
  unfold maxLen at hcm
  have mixed : Tryd.prog.follows Departure.mixedOrders = true := by kernel_rfl
  have hw1 : IntKind.i64.wrap ((i : Int) + 1) = (i : Int) + 1 := by rw [IntKind.wrap_i64]; omega
  have hb1 : (0 : Int) ≤ (i : Int) + 1 := by omega
  have hz2 : ¬ ((i : Int) = (i : Int) + 1) := by omega
  have htn : ((i : Int) + 1).toNat = i + 1 := by omega
  have hb5 : (i : Int) + 1 ≤ (n : Int) := by omega
  have hb6 : i + (n - (i + 1)) ≤ n := by omega
  have hic : i ≤ cap := by omega
  have hjc : i + 1 ≤ cap := by omega
  subst hz
  go_enter Tryd.func50, Tryd.ntmps50
  go_wp2_with fail
  go_region_law_o (refine step_appendX rfl (.tmp 22) (.tmp 25) 25 25 rfl _ _ (by simp [Act.eval, Act.put]) (by simp [Act.eval, Act.put]) (happ _ (cap - (i + 1))) ?_)
  go_wp2_with (at_builtin; refine wpList_clearX _ rfl _ 25 rfl _ rfl (hcl _ _) ?_)
  go_ret
  have el : (l1 ++ l2).length = i + (n - (i + 1)) := by have := XL.out.2.1; simp only [List.length_append, List.length_cons] at this ⊢; have := XL.out.1; omega
  have ef : flatL rowL (l1 ++ l2) = F1 ++ F2 := by rw [flatL_append, XF.out.1, XF.out.2]
  refine ⟨_, rfl, ?_, ?_⟩
  · have := made_of (w := W2) (l := l1 ++ l2) (rest := [Value.int .u64 0, Value.int .u64 0] ++ rest) (cap := cap) hBg (by rw [X1.out.2, setRow_heap W1 g _ _ _ _ X2.out, ef]; simp) (by omega) (by unfold maxLen; omega) (by rw [List.length_append, XL.out.2.2, el]; simp; omega)
    rw [el] at this
    exact this
  · rw [X1.out.2]
    refine grown_row ?_ _
    rw [X1.out.1]
    exact grown_row (grown_drew (World.grownBy.refl _ _)) _
end Go.Proofs.YtljdkjjjnlcflaaDoor
