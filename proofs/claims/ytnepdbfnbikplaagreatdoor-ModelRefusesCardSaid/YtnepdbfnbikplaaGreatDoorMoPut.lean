/- A list of answers that is made whole, as noughts, and then filled from its front: what is stored there leaves all rows alone, whoever holds them. -/
import Derived.Test.YtnepdbfnbikplaaGreatDoorMoTold
namespace Go.Proofs.YtnepdbfnbikplaaGreatDoor
open Go.RowKit Go.Lib Tb Pt Opn

/-- No cell of the block is a word of 64 bits. -/
def CleanG (w : World) (g : Nat) : Prop := ∀ j v, w.cell? ⟨g, j, none⟩ = some v → NotU v
/-- The block's first n cells are there, to be written. -/
def RoomG (w : World) (g n : Nat) : Prop := ∀ j, j < n → ∃ v, w.cell? ⟨g, j, none⟩ = some v ∧ w.frozen? ⟨g, j, none⟩ = false
theorem cleanG_set {w : World} {g o n : Nat} {x : Value} (hr : RoomG w g n) (ho : o < n) (h : CleanG w g) (hx : NotU x) : CleanG (w.setCell ⟨g, o, none⟩ x) g := fun j v hv => by
  by_cases e : (⟨g, o, none⟩ : Addr) = ⟨g, j, none⟩
  · obtain ⟨u, hc, _⟩ := hr o ho
    rw [← e, World.cell?_setCell_same _ _ _ hc] at hv
    injection hv with hv
    rw [← hv]; exact hx
  · exact h j v ((World.cell?_setCell_other _ _ _ _ e).symm.trans hv)
theorem roomG_set {w : World} {g o n : Nat} {x : Value} (h : RoomG w g n) : RoomG (w.setCell ⟨g, o, none⟩ x) g n := fun j hj => by
  obtain ⟨v, h1, h2⟩ := h j hj
  by_cases e : (⟨g, o, none⟩ : Addr) = ⟨g, j, none⟩
  · exact ⟨x, by rw [← e] at h1 ⊢; exact World.cell?_setCell_same _ _ _ h1, by rw [World.frozen?_setCell]; exact h2⟩
  · exact ⟨v, (World.cell?_setCell_other _ _ _ _ e).trans h1, by rw [World.frozen?_setCell]; exact h2⟩
theorem isr_setG {w : World} {g o : Nat} {x : Value} {A : Option Addr} {l : List R} (hc : CleanG w g) (h : IsR w A l) : IsR (w.setCell ⟨g, o, none⟩ x) A l := fun i r hr => by
  obtain ⟨b, off, e, h1⟩ := h i r hr
  refine ⟨b, off, e, fun j u hj => ?_⟩
  have hne : b ≠ g := fun e' => by
    subst e'
    exact hc _ _ (h1 0 (.int .u64 (r.1 : Nat)) rfl) _ rfl
  exact (World.cell?_setCell_other _ _ _ _ (fun e' => hne (by injection e' with e'; exact e'.symm))).trans (h1 j u hj)
theorem isrv_setG {w : World} {g o : Nat} {x u : Value} {l : List R} (hc : CleanG w g) (h : IsRV w u l) : IsRV (w.setCell ⟨g, o, none⟩ x) u l := by
  obtain ⟨A, c, e, h1, h2, h3⟩ := h
  exact ⟨A, c, e, h1, h2, isr_setG hc h3⟩

/-- The first answers of a list of n that lies in the block g. -/
def ToldIn (w : World) (g n : Nat) (t : List Ans) : Prop := t.length ≤ n ∧ RoomG w g (n * 3) ∧ CleanG w g ∧ IsAs w (some ⟨g, 0, none⟩) t
theorem ToldIn.below {w w' : World} {g n : Nat} {t : List Ans} (h : ToldIn w g n t) (hg : g < w.heap.size) (hb : Below w.heap.size w w') : ToldIn w' g n t := by
  obtain ⟨h1, h2, h3, h4⟩ := h
  obtain ⟨k1, k2⟩ := bcell hb
  refine ⟨h1, fun j hj => ?_, fun j v hv => h3 j v ((k1 _ _ hg).symm.trans hv), h4.below hb⟩
  obtain ⟨v, e1, e2⟩ := h2 j hj
  exact ⟨v, (k1 _ _ hg).trans e1, (k2 _ _ hg).trans e2⟩
/-- One more answer. -/
theorem ToldIn.put {w : World} {g n : Nat} {t : List Ans} (h : ToldIn w g n t) (hn : t.length < n) (a b : Int) {v : Value} {l : List R} (hv : IsRV w v l) :
    ToldIn (((w.setCell ⟨g, t.length * 3, none⟩ (.int .i64 a)).setCell ⟨g, t.length * 3 + 1, none⟩ (.int .u32 b)).setCell ⟨g, t.length * 3 + 2, none⟩ v) g n (t ++ [(a, b, l)]) := by
  obtain ⟨h1, h2, h3, h4⟩ := h
  have hv' := hv
  obtain ⟨A, c, e0, _⟩ := hv'
  have n0 : NotU (.int .i64 a) := fun k e => by cases e
  have n1 : NotU (.int .u32 b) := fun k e => by cases e
  have n2 : NotU v := fun k e => by rw [e0] at e; cases e
  have hr2 := roomG_set (x := .int .i64 a) (o := t.length * 3) h2
  have hr3 := roomG_set (x := .int .u32 b) (o := t.length * 3 + 1) hr2
  have c1 := cleanG_set (o := t.length * 3) h2 (by omega) h3 n0
  have c2 := cleanG_set (o := t.length * 3 + 1) hr2 (by omega) c1 n1
  have keep : ∀ u m, IsRV w u m → IsRV (((w.setCell ⟨g, t.length * 3, none⟩ (.int .i64 a)).setCell ⟨g, t.length * 3 + 1, none⟩ (.int .u32 b)).setCell ⟨g, t.length * 3 + 2, none⟩ v) u m := fun u m hu => isrv_setG c2 (isrv_setG c1 (isrv_setG h3 hu))
  refine ⟨by simp; omega, roomG_set hr3, cleanG_set hr3 (by omega) c2 n2, fun i x hx => ?_⟩
  have ne : ∀ {p q : Nat}, p ≠ q → (⟨g, p, none⟩ : Addr) ≠ ⟨g, q, none⟩ := fun hpq e => hpq (by injection e)
  rcases Nat.lt_trichotomy i t.length with hlt | rfl | hgt
  · rw [List.getElem?_append_left hlt] at hx
    obtain ⟨b', off, u, e, g0, g1, g2, g3⟩ := h4 i x hx
    injection e with e
    injection e with e1 e2 _
    subst e1 e2
    refine ⟨g, 0, u, rfl, ?_, ?_, ?_, keep _ _ g3⟩
    · rw [World.cell?_setCell_other _ _ _ _ (ne (by omega)), World.cell?_setCell_other _ _ _ _ (ne (by omega)), World.cell?_setCell_other _ _ _ _ (ne (by omega))]; exact g0
    · rw [World.cell?_setCell_other _ _ _ _ (ne (by omega)), World.cell?_setCell_other _ _ _ _ (ne (by omega)), World.cell?_setCell_other _ _ _ _ (ne (by omega))]; exact g1
    · rw [World.cell?_setCell_other _ _ _ _ (ne (by omega)), World.cell?_setCell_other _ _ _ _ (ne (by omega)), World.cell?_setCell_other _ _ _ _ (ne (by omega))]; exact g2
  · rw [List.getElem?_append_right (Nat.le_refl _), Nat.sub_self] at hx
    simp at hx
    subst hx
    obtain ⟨u0, q0, _⟩ := h2 (t.length * 3) (by omega)
    obtain ⟨u1, q1, _⟩ := hr2 (t.length * 3 + 1) (by omega)
    obtain ⟨u2, q2, _⟩ := hr3 (t.length * 3 + 2) (by omega)
    refine ⟨g, 0, v, rfl, ?_, ?_, ?_, keep _ _ hv⟩
    · rw [Nat.zero_add, World.cell?_setCell_other _ _ _ _ (ne (by omega)), World.cell?_setCell_other _ _ _ _ (ne (by omega))]
      exact World.cell?_setCell_same _ _ _ q0
    · rw [Nat.zero_add, World.cell?_setCell_other _ _ _ _ (ne (by omega))]
      exact World.cell?_setCell_same _ _ _ q1
    · rw [Nat.zero_add]
      exact World.cell?_setCell_same _ _ _ q2
  · rw [List.getElem?_append_right (by omega)] at hx
    have : ([(a, b, l)] : List Ans)[i - t.length]? = none := List.getElem?_eq_none (by simp; omega)
    rw [this] at hx
    cases hx
/-- Rows are left alone by it. -/
theorem ToldIn.keep {w : World} {g n o : Nat} {t : List Ans} (h : ToldIn w g n t) (ho : o + 1 < n * 3) (a b : Int) {v u : Value} {m : List R} (hu : IsRV w u m) :
    IsRV (((w.setCell ⟨g, o, none⟩ (.int .i64 a)).setCell ⟨g, o + 1, none⟩ (.int .u32 b)).setCell ⟨g, o + 2, none⟩ v) u m := by
  have c1 := cleanG_set (o := o) (x := .int .i64 a) h.2.1 (by omega) h.2.2.1 (fun k e => by cases e)
  have c2 := cleanG_set (o := o + 1) (x := .int .u32 b) (roomG_set h.2.1) ho c1 (fun k e => by cases e)
  exact isrv_setG c2 (isrv_setG c1 (isrv_setG h.2.2.1 hu))
/-- A list of noughts. -/
theorem run_make_res (n : Nat) (hn : n ≤ 1000000) (w : World) : (Instr.makeSlice 31 (.int .i64 (n : Nat)) (.int .i64 (n : Nat))).run Tryz.prog w =
    .ok (.slice (some ⟨w.heap.size, 0, none⟩) n n) (w.alloc (.cells (madeCells #[.int .i64 0, .int .u32 0, .slice none 0 0] (n * 3)) 36)) := by
  obtain ⟨i0, hi, hz0, hz1, hz2⟩ := info_parts res_info
  have h := run_make (P := Tryz.prog) w 31 36 i0 _ Tryz.underlying31 hi hz0 .i64 .i64 n n (by omega) (by omega) (by rw [hz2]; omega) (by omega)
  rw [h, hz1]
  simp [Value.cells]
theorem made_notU (m i : Nat) (v : Value) (h : (madeCells #[.int .i64 0, .int .u32 0, .slice none 0 0] m)[i]? = some v) : NotU v := by
  have hi : i < m := by
    have := (Array.getElem?_eq_some_iff.1 h).1
    rw [size_madeCells] at this
    exact this
  have e : i % 3 = 0 ∨ i % 3 = 1 ∨ i % 3 = 2 := by omega
  simp only [madeCells, Array.getElem?_map, Array.getElem?_range] at h
  rw [if_pos hi] at h
  have h2 : some (#[Value.int .i64 0, .int .u32 0, .slice none 0 0][i % 3]!) = some v := h
  injection h2 with h2
  subst h2
  intro k
  rcases e with e | e | e <;> rw [e] <;> intro h <;> cases h
theorem ToldIn.zeros (w : World) (n : Nat) : ToldIn (w.alloc (.cells (madeCells #[.int .i64 0, .int .u32 0, .slice none 0 0] (n * 3)) 36)) w.heap.size n [] := by
  refine ⟨Nat.zero_le _, fun j hj => ?_, fun j v hv => ?_, fun i a h => by cases h⟩
  · have hs : j < (madeCells #[Value.int .i64 0, .int .u32 0, .slice none 0 0] (n * 3)).size := by rw [size_madeCells]; exact hj
    exact ⟨_, cell_of (heap_alloc_new w _) j (Array.getElem?_eq_getElem hs), by unfold World.frozen?; rw [heap_alloc_new]; simp⟩
  · simp only [World.cell?, heap_alloc_new] at hv
    exact made_notU _ _ _ hv
/-- A slice that is those answers. -/
def IsAV2 (w : World) (v : Value) (t : List Ans) : Prop := ∃ A c, v = .slice A t.length c ∧ (t.length ≤ c ∧ c ≤ 9223372036854775807) ∧ (A = none → t.length = 0 ∧ c = 0) ∧ IsAs w A t
theorem IsAV2.form {w : World} {v : Value} {t : List Ans} (h : IsAV2 w v t) : ∃ A c, v = .slice A t.length c ∧ (t.length ≤ c ∧ c ≤ 9223372036854775807) ∧ (A = none → t.length = 0 ∧ c = 0) ∧ IsAs w A t := h
end Go.Proofs.YtnepdbfnbikplaaGreatDoor
