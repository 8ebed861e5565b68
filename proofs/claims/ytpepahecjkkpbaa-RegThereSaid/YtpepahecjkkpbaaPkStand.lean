/- Package pack: mayStand. -/
import Derived.Test.YtpepahecjkkpbaaPkIter
namespace Go.Proofs.Ytpepahecjkkpbaa
open Go.RowKit Go.Shelf
attribute [local go_sem] Oper.semAt_some

/-- All fields up to n stand in the word. -/
def Pk.standB (bf : Nat → Int) (n : Nat) : Bool := (List.range n).all fun i => Pk.inW (Pk.pos bf i) (bf i)

theorem Pk.standB_succ (bf : Nat → Int) (n : Nat) : Pk.standB bf (n + 1) = (Pk.standB bf n && Pk.inW (Pk.pos bf n) (bf n)) := by simp [Pk.standB, List.range_succ]
theorem Pk.standB_false {bf : Nat → Int} {n m : Nat} (h : n ≤ m) (hf : Pk.standB bf n = false) : Pk.standB bf m = false := by
  induction m with
  | zero => obtain rfl : n = 0 := by omega
            exact hf
  | succ m ih =>
    by_cases e : n = m + 1
    · rw [← e]; exact hf
    · rw [Pk.standB_succ, ih (by omega)]; rfl

/-- What lay below n lies as it lay. -/
def Same (n : Nat) (w A : World) : Prop := n ≤ A.heap.size ∧ ∀ k, k < n → A.heap[k]? = w.heap[k]?

set_option maxHeartbeats 1000000 in
theorem mayStand_any (bf : Nat → Int) (N : Nat) (hl : N ≤ 9223372036854775807) (f : Nat) (lb : Array Value) (w : World)
    (ef : ∀ args w, (callFunc f args).run Try.prog w = .ok (.enter f args) w)
    (hbits : ∀ i (A : World), i < N → Same w.heap.size w A → Calls Try.prog f (#[.int .i64 (i : Nat)] ++ lb) A (Ret (.int .i64 (bf i)) A)) :
    Calls Try.prog 28 #[.int .i64 (N : Nat), .func (.func f) #[] lb] w (Ret (.bool (Pk.standB bf N)) w) := by
  refine (callsIn_wide (n := 9)).1 ?_
  refine callsIn_of_wp_marks Try.func28 rfl trivial ?_ rfl
  simp only [Try.ntmps28, List.size_toArray, List.length_cons, List.length_nil, Nat.reduceAdd, Nat.reduceSub, Array.replicate_succ, Array.replicate_zero, List.push_toArray, List.append_toArray, List.nil_append, List.cons_append]
  have hfw : ∀ f, Fence.wide.fn f := fun _ => trivial
  have Hbits := Lib.hid hbits
  clear hbits
  gi_wp2_with (gi_at_call 29; refine (callsIn_wide.2 (spans_any _ f lb _)).mono ?_; rintro e w' ⟨rfl, rfl⟩)
  obtain ⟨W, hW⟩ : ∃ W, ((w.alloc (Obj.cells #[Value.bool false] 4)).alloc (Obj.cells #[Value.int IntKind.i64 ↑N] 3)).alloc (Obj.cells #[Value.func (Fn.func f) #[] lb] 70) = W := ⟨_, rfl⟩
  obtain ⟨r, hr⟩ : ∃ r, w.heap.size = r := ⟨_, rfl⟩
  have hz : W.heap.size = r + 3 := by rw [← hW, ← hr]; simp
  have b0 : Below r w W := by rw [← hW, ← hr]; exact below_three _ _ _ _
  have c0 : W.cell? ⟨r, 0, none⟩ = some (.bool false) := by rw [← hW, ← hr]; simp [go_sem]
  have z0 : W.frozen? ⟨r, 0, none⟩ = false := by rw [← hW, ← hr]; simp [go_sem]
  have c1 : W.cell? ⟨r + 1, 0, none⟩ = some (.int .i64 (N : Nat)) := by rw [← hW, ← hr]; simp [go_sem]
  have c2 : W.cell? ⟨r + 1 + 1, 0, none⟩ = some (.func (.func f) #[] lb) := by rw [← hW, ← hr]; simp [go_sem]
  rw [hW]
  rw [hr] at Hbits ⊢
  clear hW
  refine wpIn_range (gf := 33) (lb := #[.pointer (some ⟨r + 1, 0, none⟩), .pointer (some ⟨r + 1 + 1, 0, none⟩)]) rfl (enters_of Try.func33 (by kernel_rfl) rfl)
    (spans_iter 8 (by omega) bf N hl f lb (r + 1) (r + 1 + 1) (fun k => k < r + 3 ∧ k ≠ r) W (by omega) (by omega) c1 c2 ef ?hb) ?hcap ?hps (fun k => k = r) ?hC
    (fun i A => A.cell? ⟨r, 0, none⟩ = some (.bool false) ∧ A.frozen? ⟨r, 0, none⟩ = false ∧ Below r w A ∧ Pk.standB bf i = true)
    (fun c i A => c = .ret ∧ A.cell? ⟨r, 0, none⟩ = some (.bool false) ∧ Below r w A ∧ Pk.standB bf (i + 1) = false)
    ?hI ?hIx ?h0 ?round ?done ?stop
  case hb =>
    intro i A hi hA
    exact Hbits.out i A hi ⟨by have := (hA (r + 2) (by omega)).1; omega, fun k hk => (hA k (by omega)).2.trans (b0.block k hk)⟩
  case hcap => intro k hk; exact ⟨by omega, rfl⟩
  case hps => intro i h; rw [Pk.given_at]; rfl
  case hC => rintro k rfl; omega
  case hI =>
    rintro i A A' ⟨h1, h2, h3, h4⟩ ho
    exact ⟨ho.cell h1 (by show ¬ (_ ∧ _); simp only; omega), (ho.frozen (World.block_lt_of_cell? _ _ h1) (by show ¬ (_ ∧ _); simp only; omega)).trans h2, Only.then_below (by omega) h3 ho (by omega), h4⟩
  case hIx =>
    rintro c i A A' ⟨h1, h2, h3, h4⟩ ho
    exact ⟨h1, ho.cell h2 (by show ¬ (_ ∧ _); simp only; omega), Only.then_below (by omega) h3 ho (by omega), h4⟩
  case h0 => exact ⟨c0, z0, b0, rfl⟩
  case round =>
    rintro l i hi A ⟨h1, h2, h3, h4⟩ hlt
    rw [Pk.given_at]
    clear c0 c1 c2 z0 b0
    gi_wp2
    refine ⟨(Only.refl _ A).alloc _, fun W₂ ho => ?_⟩
    have k1 : W₂.cell? ⟨A.heap.size, 0, none⟩ = some (.int .i64 (Pk.pos bf i)) := ho.cell (by simp [go_sem]) (by simp only; omega)
    have k2 : W₂.cell? ⟨A.heap.size, 1, none⟩ = some (.int .i64 (bf i)) := ho.cell (by simp [go_sem]) (by simp only; omega)
    have hA := World.block_lt_of_cell? _ _ h1
    have k3 : W₂.cell? ⟨r, 0, none⟩ = some (.bool false) := ho.cell ((World.cell?_alloc_lt _ _ _ hA).trans h1) (by simp only; omega)
    have k4 : W₂.frozen? ⟨r, 0, none⟩ = false := (ho.frozen (by simp; omega) (by simp only; omega)).trans ((World.frozen?_alloc_old _ _ _ (Nat.ne_of_lt hA)).trans h2)
    have k5 : Below r w W₂ := Only.then_below (by omega) (h3.alloc (by omega) _) ho (by omega)
    clear h1 h2 h3 ho hA
    by_cases hin : Pk.inW (Pk.pos bf i) (bf i) = true
    · have hs : Pk.standB bf (i + 1) = true := by rw [Pk.standB_succ, h4, hin]; rfl
      have Hs := Lib.hid hs
      clear h4 hs
      gi_wp2_with (gi_at_call 25; refine (CallsIn.inRound l (callsIn_wide.2 (inWord_any _ _ _))).mono ?_; rintro e W3 ⟨rfl, hb3⟩)
      exact ⟨Only.of_below _ hb3, (hb3.cell (World.block_lt_of_cell? _ _ k3)).trans k3, (hb3.frozen (World.block_lt_of_cell? _ _ k3)).trans k4, k5.trans (hb3.mono (by have := k5.size; omega)), Hs.out⟩
    · have hin' : Pk.inW (Pk.pos bf i) (bf i) = false := by simpa using hin
      have Hs : Hid (Pk.standB bf (i + 1) = false) := Lib.hid (by rw [Pk.standB_succ, h4, hin']; rfl)
      have hA := World.block_lt_of_cell? _ _ k3
      clear h4 hin
      gi_wp2_with (gi_at_call 25; refine (CallsIn.inRound l (callsIn_wide.2 (inWord_any _ _ _))).mono ?_; rintro e W3 ⟨rfl, hb3⟩; obtain ⟨hc3, hf3⟩ := bcell hb3)
      refine ⟨(Only.of_below (fun k => k = r) hb3).setCell (p := ⟨r, 0, none⟩) (.inl rfl) _, rfl, ?_, (k5.trans (hb3.mono (by have := k5.size; omega))).setCell (by simp) _, Hs.out⟩
      exact World.cell?_setCell_same' _ _ _ (by rw [hc3 r 0 hA, k3]; rfl)
  case done =>
    rintro A ⟨h1, h2, h3, h4⟩ hK
    rw [Pk.given_length] at h4
    have HK := Lib.hid hK
    have H4 := Lib.hid h4
    clear hK h4
    gi_wp2
    have hK2 : (A.setCell ⟨r, 0, none⟩ (.bool true)).heap[W.heap.size]? = some (.deferred (some [])) := (Below.heap_setCell _ _ _ _ (by simp only; omega)).trans HK.out
    refine marks_ret (v := .bool true) hK2 ?_ ⟨by rw [H4.out], ?_⟩
    · have hc : ((A.setCell ⟨r, 0, none⟩ (.bool true)).putObj W.heap.size (.deferred none)).cell? ⟨r, 0, none⟩ = some (.bool true) :=
        cell_putObj (by simp only; omega) (World.cell?_setCell_same' _ _ _ (by rw [h1]; rfl))
      simp [results, Try.results28, go_sem, hc]
    · rw [hr]; exact below_putObj (h3.setCell (by simp) _) (by omega) _
  case stop =>
    rintro c i A hi ⟨rfl, h2, h3, h4⟩ hK
    rw [Pk.given_length] at hi
    have HK := Lib.hid hK
    have H4 := Lib.hid h4
    clear hK h4
    gi_wp2
    refine marks_ret (v := .bool false) HK.out ?_ ⟨by rw [Pk.standB_false hi H4.out], ?_⟩
    · have hc : (A.putObj W.heap.size (.deferred none)).cell? ⟨r, 0, none⟩ = some (.bool false) := cell_putObj (by simp only; omega) h2
      simp [results, Try.results28, go_sem, hc]
    · rw [hr]; exact below_putObj h3 (by omega) _
end Go.Proofs.Ytpepahecjkkpbaa
