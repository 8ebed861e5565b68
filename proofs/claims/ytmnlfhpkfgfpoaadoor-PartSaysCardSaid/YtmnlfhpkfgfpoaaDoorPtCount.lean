/- Package part: how many cells a memory has. -/
import Derived.Test.YtmnlfhpkfgfpoaaDoorPtIter
namespace Go.Proofs.YtmnlfhpkfgfpoaaDoor
open Go.RowKit Go.Shelf Pt
attribute [local go_sem] Oper.semAt_some

theorem cf_lit (w : World) (c : Cf) (t : TypeId) {q : Nat} (hq : w.heap.size = q) : IsCf (w.alloc (.cells (cl c).toArray t)) q c := by
  subst hq
  exact lit_cells (World.alloc_heap_new w _) (by simp)

set_option maxHeartbeats 1000000 in
theorem count_cfg (c : Cf) (hok : Ok c) (w : World) (hp : Pow w) : Calls Tryd.prog 29 #[cfv c] w (Ret (.int .i64 (all c : Nat)) w) := by
  refine (callsIn_wide (n := 9)).1 ?_
  refine callsIn_of_wp_marks Tryd.func29 rfl trivial ?_ rfl
  simp only [Tryd.ntmps29, List.size_toArray, List.length_cons, List.length_nil, Nat.reduceAdd, Nat.reduceSub, Array.replicate_succ, Array.replicate_zero, List.push_toArray, List.append_toArray, List.nil_append, List.cons_append]
  have hfw : ∀ f, Fence.wide.fn f := fun _ => trivial
  have hgl : 0 < w.heap.size := World.block_lt_of_cell? _ _ (hp 0 (by omega))
  have HP := Lib.hid hp
  have hall := (all_bounds hok).2
  have Hok := Lib.hid hok
  clear hp hok
  have hpc := parts_any c
  unfold cfv at hpc ⊢
  gi_wp2_with (gi_at_call 24; refine (callsIn_wide.2 (hpc _)).mono ?_; rintro e w' ⟨rfl, hw'⟩)
  rw [← hw']
  obtain ⟨r, hr⟩ : ∃ r, w.heap.size = r := ⟨_, rfl⟩
  have hz : w'.heap.size = r + 3 := by rw [hw', ← hr]; simp
  have b0 : Below r w w' := by rw [hw', ← hr]; exact below_three _ _ _ _
  have c0 : w'.cell? ⟨r + 1, 0, none⟩ = some (.int .i64 0) := by rw [hw', ← hr]; simp [go_sem]
  have z0 : w'.frozen? ⟨r + 1, 0, none⟩ = false := by rw [hw', ← hr]; simp [go_sem]
  have i0 : IsCf w' (r + 1 + 1) c := by rw [hw', ← hr]; exact cf_lit _ c _ (by simp)
  have p0 : Pow w' := HP.out.below (by rw [hr]; exact b0)
  rw [hr] at hgl ⊢
  clear hw' hpc HP
  refine wpIn_rangeR (gf := 37) (lb := #[.pointer (some ⟨r + 1 + 1, 0, none⟩)]) rfl (enters_of Tryd.func37 (by kernel_rfl) rfl)
    (parts_iter 8 (by omega) c Hok.out (r + 1 + 1) (fun k => k = r + 1 + 1 ∨ k = 0) w' (.inl rfl) (.inr rfl) i0 p0) ?hcap ?hps (fun k => k = r + 1) ?hC
    (fun i A => A.cell? ⟨r + 1, 0, none⟩ = some (.int .i64 (pre (bl c) i : Nat)) ∧ A.frozen? ⟨r + 1, 0, none⟩ = false ∧ Below r w A) (fun _ _ _ => False) ?hI ?hIx ?h0 ?round ?done ?stop
  case hcap => intro k hk; exact ⟨by omega, rfl⟩
  case hps => rintro B i args A ⟨q, x, _, rfl, _⟩; rfl
  case hC => rintro k rfl; omega
  case hI =>
    rintro i A A' ⟨h1, h2, h3⟩ ho
    exact ⟨ho.cell h1 (by show ¬ (_ ∧ _); simp only; omega), (ho.frozen (World.block_lt_of_cell? _ _ h1) (by show ¬ (_ ∧ _); simp only; omega)).trans h2, Only.then_below (by omega) h3 ho (by omega)⟩
  case hIx => intro c i A A' h; exact h.elim
  case h0 => exact ⟨by rw [pre_zero]; exact c0, z0, b0⟩
  case round =>
    rintro l i args A hi ⟨h1, h2, h3⟩ ⟨q, x, hx, rfl, hqB, hqA⟩ hlt
    have HX := Lib.hid (pre_succ hx)
    have hle := pre_le (bl c) (i + 1)
    rw [HX.out] at hle
    have e : total (bl c) = all c := rfl
    rw [e] at hle
    clear c0 z0 b0 i0 p0 hqA hx e
    gi_wp2
    refine ⟨Only.refl _ A, fun W₂ ho => ?_⟩
    have hA := World.block_lt_of_cell? _ _ h1
    have k3 : W₂.cell? ⟨r + 1, 0, none⟩ = some (.int .i64 (pre (bl c) i : Nat)) := ho.cell h1 (by simp only; omega)
    have k4 : W₂.frozen? ⟨r + 1, 0, none⟩ = false := (ho.frozen hA (by simp only; omega)).trans h2
    have k5 : Below r w W₂ := Only.then_below (by omega) h3 ho (by omega)
    clear h1 h2 h3 ho hA
    gi_wp2
    refine ⟨(Only.refl (fun k => k = r + 1) W₂).setCell (p := ⟨r + 1, 0, none⟩) (.inl rfl) _, ?_, ?_, k5.setCell (by simp) _⟩
    · rw [World.cell?_setCell_same' _ _ _ (by rw [k3]; rfl), HX.out]; congr 2; try omega
    · simp [go_sem, k4]
  case done =>
    rintro A ⟨h1, h2, h3⟩ hK
    have e : pre (bl c) (bl c).length = all c := pre_all _
    rw [e] at h1
    have HK := Lib.hid hK
    clear hK e
    gi_wp2
    refine marks_ret (v := .int .i64 (all c : Nat)) HK.out ?_ ⟨rfl, ?_⟩
    · simp [results, Tryd.results29, go_sem]
    · rw [hr]; exact below_putObj h3 (by omega) _
  case stop => intro c i A hi h; exact h.elim
end Go.Proofs.YtmnlfhpkfgfpoaaDoor
