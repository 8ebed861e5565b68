/- The chapter's examples of package pack; two lists that are the same. -/
import Derived.Test.YtcjhenfeniofiaaPkSplit
namespace Go.Proofs.Ytcjhenfeniofiaa
open Go.RowKit Go.Shelf

/-- N words lie at A, in w. -/
def IsWords (w : World) (A : Option Addr) (N : Nat) (f : Nat → Nat) : Prop := ∀ i, i < N → ∃ b off, A = some ⟨b, off, none⟩ ∧ w.cell? ⟨b, off + i, none⟩ = some (.int .u64 (f i : Nat))
theorem IsWords.same {w w' : World} {A : Option Addr} {N : Nat} {f : Nat → Nat} (h : IsWords w A N f) (hs : ∀ k, k < w.heap.size → w'.heap[k]? = w.heap[k]?) : IsWords w' A N f := fun i hi => by
  obtain ⟨b, off, e, h1⟩ := h i hi
  exact ⟨b, off, e, (World.cell?_of_block (w := w) (hs b (World.block_lt_of_cell? _ _ h1))).trans h1⟩
theorem IsWords.of_row {w : World} {g : Nat} {t : TypeId} {N : Nat} {f : Nat → Nat} (h : w.rowIs g t N (fun j => .int .u64 (f j : Nat))) : IsWords w (some ⟨g, 0, none⟩) N f := fun i hi => ⟨g, 0, rfl, by rw [Nat.zero_add]; exact h.cell hi⟩

set_option maxHeartbeats 400000 in
theorem same_true (A B : Option Addr) (N c d : Nat) (hN : N ≤ 9223372036854775807) (f : Nat → Nat) (w : World) (hA : IsWords w A N f) (hB : IsWords w B N f) :
    Calls Try.prog 17 #[.slice A N c, .slice B N d] w (Ret (.bool true) w) := by
  have HA := Lib.hid hA
  have HB := Lib.hid hB
  clear hA hB
  go_enter Try.func17, Try.ntmps17
  go_wp2
  go_loopw [5] (fun i wr => ∃ k : Nat, k ≤ N ∧ i = .int .i64 k ∧ Below w.heap.size w wr) (fun i _ => N - (intOf i).toNat)
  case atStart => exact ⟨0, Nat.zero_le _, rfl, Below.refl _ _⟩
  case round =>
    obtain ⟨k, hk, rfl, hbr⟩ := hrel
    by_cases hlt : k < N
    · obtain ⟨b, off, rfl, h1⟩ := HA.out k hlt
      obtain ⟨b', off', rfl, h2⟩ := HB.out k hlt
      have g1 := (hbr.cell (World.block_lt_of_cell? _ _ h1)).trans h1
      have g2 := (hbr.cell (World.block_lt_of_cell? _ _ h2)).trans h2
      have i1 : (0 : Int) ≤ (k : Int) := by omega
      have i2 : (k : Int) < (N : Int) := by omega
      clear h1 h2
      go_wp2
      go_quiet (fail)
      go_wp2
      go_roundw
      case rel => exact ⟨k + 1, by omega, by go_num, hbr.trans ⟨rfl, rfl, rfl, Nat.le_refl _, fun _ _ => rfl⟩⟩
      case measure => simp [intOf]; omega
    · obtain rfl : k = N := by omega
      go_wp2
      go_ret
      exact Ret.mk rfl hbr

theorem lit_fields {w : World} {g : Nat} {b0 b1 : Int} {v0 v1 : Nat} (h0 : w.cell? ⟨g, 0, none⟩ = some (.int .i64 b0)) (h1 : w.cell? ⟨g, 1, none⟩ = some (.int .u64 v0)) (h2 : w.cell? ⟨g, 2, none⟩ = some (.int .i64 b1)) (h3 : w.cell? ⟨g, 3, none⟩ = some (.int .u64 v1)) :
    IsFields w (some ⟨g, 0, none⟩) 2 (fun i => if i = 0 then b0 else b1) (fun i => if i = 0 then v0 else v1)
  | 0, _ => ⟨g, 0, rfl, h0, h1⟩
  | 1, _ => ⟨g, 0, rfl, h2, h3⟩
theorem lit_ints {w : World} {g : Nat} {b0 b1 : Int} (h0 : w.cell? ⟨g, 0, none⟩ = some (.int .i64 b0)) (h1 : w.cell? ⟨g, 1, none⟩ = some (.int .i64 b1)) : IsInts w (some ⟨g, 0, none⟩) 2 (fun i => if i = 0 then b0 else b1)
  | 0, _ => ⟨g, 0, rfl, h0⟩
  | 1, _ => ⟨g, 0, rfl, h1⟩
theorem lit_words {w : World} {g : Nat} {b0 b1 : Nat} (h0 : w.cell? ⟨g, 0, none⟩ = some (.int .u64 b0)) (h1 : w.cell? ⟨g, 1, none⟩ = some (.int .u64 b1)) : IsWords w (some ⟨g, 0, none⟩) 2 (fun i => if i = 0 then b0 else b1)
  | 0, _ => ⟨g, 0, rfl, h0⟩
  | 1, _ => ⟨g, 0, rfl, h1⟩

/-- The examples, at their numbers. -/
theorem get_ex (x a b : Nat) (y : Nat) (hx : x < 18446744073709551616) (h1 : 1 ≤ b) (h : a + b ≤ 64) (hy : Pk.field x a b = y) (zx za zb : Int) (ex : zx = x) (ea : za = a) (eb : zb = b) (w : World) :
    Calls Try.prog 9 #[.int .u64 zx, .int .i64 za, .int .i64 zb] w (Ret2 (.int .u64 y) (.int .i64 0) w) := by
  subst ex ea eb hy; exact get_ok x a b hx h1 h w
theorem put_ex (x a b v : Nat) (y : Nat) (hx : x < 18446744073709551616) (h1 : 1 ≤ b) (h : a + b ≤ 64) (hv : Pk.fitsB v b = true) (hy : Pk.put x a b v = y) (zx za zb zv : Int) (ex : zx = x) (ea : za = a) (eb : zb = b) (ev : zv = v) (w : World) :
    Calls Try.prog 8 #[.int .u64 zx, .int .i64 za, .int .i64 zb, .int .u64 zv] w (Ret2 (.int .u64 y) (.int .i64 0) w) := by
  subst ex ea eb ev hy; exact put_ok x a b v hx h1 h hv w
theorem join_ex (g : Nat) (b0 b1 : Int) (v0 v1 : Nat) (y : Nat) (z : Int) (w : World) (h0 : w.cell? ⟨g, 0, none⟩ = some (.int .i64 b0)) (h1 : w.cell? ⟨g, 1, none⟩ = some (.int .u64 v0)) (h2 : w.cell? ⟨g, 2, none⟩ = some (.int .i64 b1)) (h3 : w.cell? ⟨g, 3, none⟩ = some (.int .u64 v1))
    (hy : Pk.joinW (fun i => if i = 0 then b0 else b1) (fun i => if i = 0 then v0 else v1) 2 = y) (hz : Pk.joinE (fun i => if i = 0 then b0 else b1) (fun i => if i = 0 then v0 else v1) 2 = z) :
    Calls Try.prog 10 #[.slice (some ⟨g, 0, none⟩) 2 2] w (Ret2 (.int .u64 y) (.int .i64 z) w) := by
  subst hy hz; exact join_any _ 2 2 (by omega) _ _ w (lit_fields h0 h1 h2 h3)
theorem split_ex (x : Nat) (zx : Int) (ex : zx = x) (hx : x < 18446744073709551616) (g : Nat) (b0 b1 : Int) (w : World) (h0 : w.cell? ⟨g, 0, none⟩ = some (.int .i64 b0)) (h1 : w.cell? ⟨g, 1, none⟩ = some (.int .i64 b1)) (hs : Pk.standB (fun i => if i = 0 then b0 else b1) 2 = true) :
    Calls Try.prog 11 #[.int .u64 zx, .slice (some ⟨g, 0, none⟩) 2 2] w (RetWords 2 (fun j => Pk.field x (Pk.pos (fun i => if i = 0 then b0 else b1) j).toNat ((fun i => if i = 0 then b0 else b1) j).toNat) w) := by
  subst ex; exact split_ok x hx _ 2 2 _ w (lit_ints h0 h1) hs

set_option maxRecDepth 100000 in
set_option maxHeartbeats 1000000 in
theorem alive_any (w : World) : Calls Try.prog 12 #[] w (Ret (.bool true) w) := by
  go_enter Try.func12, Try.ntmps12
  go_wp2_with fail
  refine (get_ex 48 4 2 3 (by decide) (by decide) (by decide) (by decide) _ _ _ rfl rfl rfl _).mono ?_
  rintro e w1 ⟨rfl, hb1⟩
  go_wp2_with fail
  refine (put_ex 0 8 4 15 3840 (by decide) (by decide) (by decide) (by decide) (by decide) _ _ _ _ rfl rfl rfl rfl _).mono ?_
  rintro e w2 ⟨rfl, hb2⟩
  go_wp2_with fail
  refine (join_ex _ 4 8 5 2 37 0 _ (by simp [go_sem]) (by simp [go_sem]) (by simp [go_sem]) (by simp [go_sem]) (by decide +kernel) (by decide +kernel)).mono ?_
  rintro e w3 ⟨rfl, hb3⟩
  go_wp2_with fail
  refine (split_ex 37 _ rfl (by decide) _ 4 8 _ (by simp [go_sem]) (by simp [go_sem]) (by decide +kernel)).mono ?_
  rintro e w4 ⟨g, rfl, hg, hrow, hb4⟩
  have hrow' : w4.rowIs g 22 2 (fun j => .int .u64 ((if j = 0 then 5 else 2 : Nat) : Nat)) := hrow.congr fun i hi => by
    match i, hi with
    | 0, _ => exact u64_eq (by decide +kernel)
    | 1, _ => exact u64_eq (by decide +kernel)
  have Hrow := Lib.hid hrow'
  have Hg := Lib.hid hg
  clear hrow hrow' hg
  go_wp2_with fail
  refine (same_true _ _ 2 2 2 (by omega) (fun i => if i = 0 then 5 else 2) _ (IsWords.of_row (Hrow.out.alloc _)) (lit_words (by simp [go_sem]) (by simp [go_sem]))).mono ?_
  rintro e w5 ⟨rfl, hb5⟩
  go_wp2
  go_ret
  refine Ret.mk rfl (below_then (below_then (below_then (below_then hb1 hb2) (below_then (below_one _ _) hb3)) (below_then (below_one _ _) hb4)) (below_then (below_one _ _) hb5))
end Go.Proofs.Ytcjhenfeniofiaa
