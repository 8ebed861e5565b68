/- cmp.Compare at numbers without a sign, and the search's comparison of a row with a node. slices.BinarySearchFunc over rows that rise, with the program's own comparison: the place of a node, and whether it is there; the program's seek. -/
import Derived.Test.YtfjpcdcaoefelaaDoorTbMake
namespace Go.Proofs.YtfjpcdcaoefelaaDoor
open Go.RowKit Tb

set_option maxHeartbeats 1000000 in
theorem nan_any (x : Nat) (w : World) : Calls Tryd.prog 75 #[.int .u64 x] w (Ret (.bool false) w) := by
  go_enter Tryd.func75, Tryd.ntmps75
  go_wp2
  go_ret
  exact Ret.mk (by simp) (Below.refl _ _)

/-- What a comparison says. -/
def cmpI (x y : Nat) : Int := if x < y then -1 else if y < x then 1 else 0

set_option maxHeartbeats 1000000 in
theorem compare_any (x y : Nat) (w : World) : Calls Tryd.prog 62 #[.int .u64 x, .int .u64 y] w (Ret (.int .i64 (cmpI x y)) w) := by
  have e : ∀ c, cmpI x y = c → Ret (.int .i64 (cmpI x y)) w = Ret (.int .i64 c) w := fun c h => by rw [h]
  by_cases h1 : x < y
  · rw [e (-1) (by unfold cmpI; rw [if_pos h1])]
    have i1 : (x : Int) < (y : Int) := by omega
    go_enter Tryd.func62, Tryd.ntmps62
    go_wp2_with (go_at_call 75; refine (nan_any _ _).mono ?_; rintro e w' ⟨rfl, hb⟩)
    go_ret
    exact Ret.mk rfl (by refine below_then ?_ hb; assumption)
  · by_cases h2 : y < x
    · rw [e 1 (by unfold cmpI; rw [if_neg h1, if_pos h2])]
      have i1 : ¬ (x : Int) < (y : Int) := by omega
      have i2 : (x : Int) > (y : Int) := by omega
      go_enter Tryd.func62, Tryd.ntmps62
      go_wp2_with (go_at_call 75; refine (nan_any _ _).mono ?_; rintro e w' ⟨rfl, hb⟩)
      go_ret
      exact Ret.mk rfl (by refine below_then ?_ hb; assumption)
    · rw [e 0 (by unfold cmpI; rw [if_neg h1, if_neg h2])]
      obtain rfl : x = y := by omega
      go_enter Tryd.func62, Tryd.ntmps62
      go_wp2_with (go_at_call 75; refine (nan_any _ _).mono ?_; rintro e w' ⟨rfl, hb⟩)
      go_ret
      exact Ret.mk rfl (by refine below_then ?_ hb; assumption)

set_option maxHeartbeats 1000000 in
theorem lit_any (x y k : Nat) (w : World) : Calls Tryd.prog 61 #[.agg #[.int .u64 x, .int .u64 y], .int .u64 k] w (Ret (.int .i64 (cmpI x k)) w) := by
  go_enter Tryd.func61, Tryd.ntmps61
  go_wp2_with (go_at_call 62; refine (compare_any _ _ _).mono ?_; rintro e w' ⟨rfl, hb⟩)
  go_ret
  exact Ret.mk rfl (below_b1 (by assumption))
end Go.Proofs.YtfjpcdcaoefelaaDoor

namespace Go.Proofs.YtfjpcdcaoefelaaDoor
open Go.RowKit Tb

/-- Where a key stands, or would. -/
def pos (l : List R) (k : Nat) : Nat := (lo l k).length
theorem pos_le (l : List R) (k : Nat) : pos l k ≤ l.length := List.length_filter_le _ _
theorem pos_of {l : List R} {k i : Nat} (hi : i ≤ l.length) (h1 : ∀ m, (hm : m < l.length) → m < i → l[m].1 < k) (h2 : ∀ m, (hm : m < l.length) → i ≤ m → k ≤ l[m].1) : pos l k = i := by
  unfold pos lo
  have e : l = l.take i ++ l.drop i := (List.take_append_drop i l).symm
  rw [e, List.filter_append, List.filter_eq_self.2, List.filter_eq_nil_iff.2, List.append_nil, List.length_take, Nat.min_eq_left hi]
  · intro x hx
    obtain ⟨m, hm, rfl⟩ := List.getElem_of_mem hx
    rw [List.length_drop] at hm
    rw [List.getElem_drop]
    have := h2 (i + m) (by omega) (by omega)
    simp; omega
  · intro x hx
    obtain ⟨m, hm, rfl⟩ := List.getElem_of_mem hx
    rw [List.length_take] at hm
    rw [List.getElem_take]
    have := h1 m (by omega) (by omega)
    simp; omega
theorem up_lt {l : List R} (h : Up l) {i j : Nat} (hij : i < j) (hj : j < l.length) : (l[i]'(by omega)).1 < l[j].1 := by
  unfold Up at h
  rw [List.pairwise_iff_getElem] at h
  exact h i j (by omega) hj hij
/-- What stands there. -/
theorem pos_get {l : List R} (h : Up l) (k : Nat) : (Tb.get l k = none ∧ ∀ hm : pos l k < l.length, (l[pos l k]'hm).1 ≠ k) ∨ ∃ hm : pos l k < l.length, (l[pos l k]'hm).1 = k ∧ Tb.get l k = some (l[pos l k]'hm).2 := by
  have e := split_at k h
  cases hg : Tb.get l k with
  | none =>
    refine .inl ⟨rfl, fun hm => ?_⟩
    exact get_none hg _ (List.getElem_mem hm)
  | some v =>
    rw [hg] at e
    dsimp only at e
    have hl : l.length = pos l k + 1 + (hi l k).length := by
      have := congrArg List.length e
      simp only [List.length_append, List.length_cons, List.length_nil] at this
      exact this
    have hm : pos l k < l.length := by omega
    have he : l[pos l k]'hm = (k, v) := by
      have e2 := congrArg (fun m => m[(lo l k).length]?) e
      rw [show (lo l k ++ [(k, v)] ++ hi l k)[(lo l k).length]? = some (k, v) by simp] at e2
      have e3 : l[pos l k]? = some (k, v) := e2
      rw [List.getElem?_eq_getElem hm] at e3
      exact Option.some.inj e3
    refine .inr ⟨hm, by rw [he], by rw [he]⟩
/-- A search's halves. -/
def Half (l : List R) (k i j : Nat) : Prop := i ≤ j ∧ j ≤ l.length ∧ (∀ m, (hm : m < l.length) → m < i → l[m].1 < k) ∧ ∀ m, (hm : m < l.length) → j ≤ m → k ≤ l[m].1
theorem half_zero (l : List R) (k : Nat) : Half l k 0 l.length := ⟨Nat.zero_le _, Nat.le_refl _, fun m _ h => by omega, fun m _ h => by omega⟩
theorem half_up {l : List R} (hu : Up l) {k i j h : Nat} (H : Half l k i j) (h2 : h < j) (hl : h < l.length) (hk : l[h].1 < k) (h1 : i ≤ h) : Half l k (h + 1) j := by
  obtain ⟨a, b, c, d⟩ := H
  refine ⟨by omega, b, fun m hm hmh => ?_, d⟩
  by_cases e : m = h
  · subst e; exact hk
  · exact Nat.lt_trans (up_lt hu (by omega) hl) hk
theorem half_down {l : List R} (hu : Up l) {k i j h : Nat} (H : Half l k i j) (h1 : i ≤ h) (h2 : h < j) (hl : h < l.length) (hk : ¬ l[h].1 < k) : Half l k i h := by
  obtain ⟨a, b, c, d⟩ := H
  refine ⟨h1, by omega, c, fun m hm hmh => ?_⟩
  by_cases e : m = h
  · subst e; omega
  · have := up_lt hu (i := h) (j := m) (by omega) hm; omega
theorem half_end {l : List R} {k i : Nat} (H : Half l k i i) : pos l k = i := pos_of H.2.1 H.2.2.1 H.2.2.2
theorem cmp_lt {x k : Nat} : cmpI x k < 0 ↔ x < k := by unfold cmpI; split <;> (try split) <;> omega
theorem cmp_eq {x k : Nat} : cmpI x k = 0 ↔ x = k := by unfold cmpI; split <;> (try split) <;> omega

set_option maxHeartbeats 4000000 in
set_option maxRecDepth 100000 in
theorem bin_any (A : Option Addr) (l : List R) (c : Nat) (hl : l.length ≤ 1000000) (hu : Up l) (k : Nat) (w : World) (h : IsR w A l) :
    Calls Tryd.prog 60 #[.slice A l.length c, .int .u64 k, .func (.func 61) #[] #[]] w (Ret2 (.int .i64 (pos l k)) (.bool (Tb.get l k).isSome) w) := by
  have HU := Lib.hid hu
  clear hu
  have HA := Lib.hid h
  clear h
  obtain ⟨N, hN⟩ : ∃ N, l.length = N := ⟨_, rfl⟩
  have HN := Lib.hid hN
  rw [hN] at hl ⊢
  clear hN
  obtain ⟨p, hp⟩ : ∃ p, pos l k = p := ⟨_, rfl⟩
  obtain ⟨s, hs⟩ : ∃ s, (Tb.get l k).isSome = s := ⟨_, rfl⟩
  have HP := Lib.hid (And.intro hp hs)
  rw [hp, hs]
  clear hp hs
  go_enter Tryd.func60, Tryd.ntmps60
  go_wp2
  go_loopw [9, 10] (fun iv jv wr => Below w.heap.size w wr ∧ ∃ i j : Nat, iv = .int .i64 i ∧ jv = .int .i64 j ∧ i ≤ j ∧ j ≤ N ∧ Hid (Half l k i j)) (fun iv jv _ => (intOf jv - intOf iv).toNat)
  case atStart => exact ⟨Below.refl _ _, 0, N, rfl, rfl, by omega, by omega, Lib.hid (by rw [← HN.out]; exact half_zero l k)⟩
  case round =>
    obtain ⟨hb, i, j, rfl, rfl, hij, hj, HH⟩ := hrel
    by_cases hlt : i < j
    · have j1 : (i + j) / 2 < l.length := by rw [HN.out]; omega
      have i1 : (i : Int) < (j : Int) := by omega
      obtain ⟨b, off, rfl, h1, h2⟩ := HA.out.row j1
      replace h1 := (hb.cell (World.block_lt_of_cell? _ _ h1)).trans h1
      replace h2 := (hb.cell (World.block_lt_of_cell? _ _ h2)).trans h2
      obtain ⟨h, hh⟩ : ∃ h, (i + j) / 2 = h := ⟨_, rfl⟩
      have ei : ((i : Int) + (j : Int)) / 2 = (h : Nat) := by omega
      have HJ := Lib.hid j1
      obtain ⟨x, hx⟩ : ∃ x, (l[(i + j) / 2]'j1).1 = x := ⟨_, rfl⟩
      obtain ⟨y, hy⟩ : ∃ y, (l[(i + j) / 2]'j1).2 = y := ⟨_, rfl⟩
      rw [hx] at h1
      rw [hy] at h2
      rw [hh] at h1 h2
      have HX := Lib.hid hx
      clear hx hy
      by_cases hk : x < k
      · have hc := cmp_lt.2 hk
        go_wp2_with (go_at_call 61; refine (lit_any _ _ _ _).mono ?_; rintro e w2 ⟨rfl, hb2⟩)
        go_roundw
        case rel => exact ⟨below_then hb hb2, h + 1, j, by go_num, rfl, by omega, hj, Lib.hid (half_up HU.out HH.out (by omega) (hh ▸ j1) (by subst hh; rw [HX.out]; exact hk) (by omega))⟩
        case measure => simp [intOf]; omega
      · have hc : ¬ cmpI x k < 0 := fun h => hk (cmp_lt.1 h)
        go_wp2_with (go_at_call 61; refine (lit_any _ _ _ _).mono ?_; rintro e w2 ⟨rfl, hb2⟩)
        go_roundw
        case rel => exact ⟨below_then hb hb2, i, h, rfl, rfl, by omega, by omega, Lib.hid (half_down HU.out HH.out (by omega) (by omega) (hh ▸ j1) (by subst hh; rw [HX.out]; exact hk))⟩
        case measure => simp [intOf]; omega
    · obtain rfl : i = j := by omega
      have hp := half_end HH.out
      rw [HP.out.1] at hp
      subst hp
      by_cases hlt2 : p < N
      · have j1 : p < l.length := by rw [HN.out]; exact hlt2
        have i1 : (p : Int) < (N : Int) := by omega
        have i2 : (0 : Int) ≤ (p : Int) := by omega
        obtain ⟨b, off, rfl, h1, h2⟩ := HA.out.row j1
        replace h1 := (hb.cell (World.block_lt_of_cell? _ _ h1)).trans h1
        replace h2 := (hb.cell (World.block_lt_of_cell? _ _ h2)).trans h2
        have HG := pos_get HU.out k
        rw [HP.out.1] at HG
        have es : s = decide (cmpI (l[p]'j1).1 k = 0) := by
          rw [← HP.out.2]
          rcases HG with ⟨e, h3⟩ | ⟨hm, h3, e⟩
          · rw [e]; exact (decide_eq_false (fun h => h3 j1 (cmp_eq.1 h))).symm
          · rw [e]; exact (decide_eq_true (cmp_eq.2 h3)).symm
        clear HG
        obtain ⟨x, hx⟩ : ∃ x, (l[p]'j1).1 = x := ⟨_, rfl⟩
        obtain ⟨y, hy⟩ : ∃ y, (l[p]'j1).2 = y := ⟨_, rfl⟩
        rw [hx] at h1 es
        rw [hy] at h2
        have ES := Lib.hid es
        clear es hx hy
        go_wp2_with (go_at_call 61; refine (lit_any _ _ _ _).mono ?_; rintro e w2 ⟨rfl, hb2⟩)
        go_ret2
        exact Ret2.mk rfl (bool_eq (by rw [ES.out, Bool.eq_iff_iff]; simp)) (below_then hb hb2)
      · have i1 : ¬ (p : Int) < (N : Int) := by omega
        have es : s = false := by
          rw [← HP.out.2]
          rcases pos_get HU.out k with ⟨e, _⟩ | ⟨hm, _⟩
          · rw [e]; rfl
          · rw [HP.out.1, HN.out] at hm; exact absurd hm hlt2
        subst es
        go_wp2
        go_ret2
        exact Ret2.mk rfl rfl hb

set_option maxHeartbeats 1000000 in
/-- The program's own search. -/
theorem seek_any (A : Option Addr) (l : List R) (c : Nat) (hl : l.length ≤ 1000000) (hu : Up l) (k : Nat) (w : World) (h : IsR w A l) :
    Calls Tryd.prog 41 #[.slice A l.length c, .int .u64 k] w (Ret2 (.int .i64 (pos l k)) (.bool (Tb.get l k).isSome) w) := by
  go_enter Tryd.func41, Tryd.ntmps41
  go_wp2_with (go_at_call 60; refine (bin_any _ _ _ hl hu _ _ h).mono ?_; rintro e w2 ⟨rfl, hb2⟩)
  go_ret2
  exact Ret2.mk rfl rfl hb2
end Go.Proofs.YtfjpcdcaoefelaaDoor
