/- The chapter's examples of package rank; two lists that are the same. -/
import Derived.Test.YtgodedghmddhpaaDoorRrLevels
import Derived.Test.YtgodedghmddhpaaDoorRkWalks
import Derived.Deep.RegionWith
namespace Go.Proofs.YtgodedghmddhpaaDoor
open Go.RowKit

/-- N numbers lie at A, in w. -/
def Ints (w : World) (A : Option Addr) (N : Nat) (f : Nat → Int) : Prop := ∀ i, i < N → ∃ g, A = some ⟨g, 0, none⟩ ∧ w.cell? ⟨g, i, none⟩ = some (.int .i64 (f i))
theorem Ints.below {w w' : World} {A : Option Addr} {N : Nat} {f : Nat → Int} (h : Ints w A N f) (hb : Below w.heap.size w w') : Ints w' A N f := fun i hi => by
  obtain ⟨g, e, h1⟩ := h i hi
  exact ⟨g, e, (hb.cell (World.block_lt_of_cell? _ _ h1)).trans h1⟩
theorem Ints.alloc {w : World} {A : Option Addr} {N : Nat} {f : Nat → Int} (h : Ints w A N f) (o : Obj) : Ints (w.alloc o) A N f := h.below (below_one w o)

set_option maxHeartbeats 400000 in
theorem same_true (A B : Option Addr) (N c d : Nat) (hN : N ≤ 9223372036854775807) (f : Nat → Int) (w : World) (hA : Ints w A N f) (hB : Ints w B N f) :
    Calls Tryd.prog 15 #[.slice A N c, .slice B N d] w (Ret (.bool true) w) := by
  have HA := Lib.hid hA
  have HB := Lib.hid hB
  clear hA hB
  go_enter Tryd.func15, Tryd.ntmps15
  go_wp2
  go_loopw [5] (fun i wr => ∃ k : Nat, k ≤ N ∧ i = .int .i64 k ∧ Below w.heap.size w wr) (fun i _ => N - (intOf i).toNat)
  case atStart => exact ⟨0, Nat.zero_le _, rfl, Below.refl _ _⟩
  case round =>
    obtain ⟨k, hk, rfl, hbr⟩ := hrel
    by_cases hlt : k < N
    · obtain ⟨b, rfl, h1⟩ := HA.out k hlt
      obtain ⟨b', rfl, h2⟩ := HB.out k hlt
      have g1 := (hbr.cell (World.block_lt_of_cell? _ _ h1)).trans h1
      have g2 := (hbr.cell (World.block_lt_of_cell? _ _ h2)).trans h2
      have i1 : (0 : Int) ≤ (k : Int) := by omega
      have i2 : (k : Int) < (N : Int) := by omega
      clear h1 h2
      go_wp2
      go_quiet (fail)
      go_wp2
      go_roundw
      case rel => exact ⟨k + 1, by omega, by go_num, hbr.trans ⟨rfl, rfl, rfl, Nat.le_refl _, fun _ _ => rfl⟩⟩
      case measure => simp [intOf]; omega
    · obtain rfl : k = N := by omega
      go_wp2
      go_ret
      exact Ret.mk rfl hbr

/-- A contract, its numbers written out. -/
theorem ex2 {P : Program} {n : FuncId} {args : Array Value} {w : World} {a b x z : Int} (h : Calls P n args w (Ret2 (.int .i64 a) (.int .i64 b) w)) (h1 : a = x) (h2 : b = z) : Calls P n args w (Ret2 (.int .i64 x) (.int .i64 z) w) := by
  subst h1 h2; exact h
theorem exL {P : Program} {n : FuncId} {args : Array Value} {w : World} {N M : Nat} {f : Nat → Int} {b z : Int} (h : Calls P n args w (RetL N f b w)) (h1 : N = M) (h2 : b = z) : Calls P n args w (RetL M f z w) := by
  subst h1 h2; exact h

theorem lit_one {w : World} {g : Nat} {f : Nat → Int} {x0 : Int} (h0 : w.cell? ⟨g, 0, none⟩ = some (.int .i64 x0)) (e0 : f 0 = x0) : Ints w (some ⟨g, 0, none⟩) 1 f
  | 0, _ => ⟨g, rfl, by rw [h0, e0]⟩
theorem lit_three {w : World} {g : Nat} {f : Nat → Int} {x0 x1 x2 : Int} (h0 : w.cell? ⟨g, 0, none⟩ = some (.int .i64 x0)) (h1 : w.cell? ⟨g, 1, none⟩ = some (.int .i64 x1)) (h2 : w.cell? ⟨g, 2, none⟩ = some (.int .i64 x2)) (e0 : f 0 = x0) (e1 : f 1 = x1) (e2 : f 2 = x2) : Ints w (some ⟨g, 0, none⟩) 3 f
  | 0, _ => ⟨g, rfl, by rw [h0, e0]⟩
  | 1, _ => ⟨g, rfl, by rw [h1, e1]⟩
  | 2, _ => ⟨g, rfl, by rw [h2, e2]⟩
theorem lit_five {w : World} {g : Nat} {f : Nat → Int} {x0 x1 x2 x3 x4 : Int} (h0 : w.cell? ⟨g, 0, none⟩ = some (.int .i64 x0)) (h1 : w.cell? ⟨g, 1, none⟩ = some (.int .i64 x1)) (h2 : w.cell? ⟨g, 2, none⟩ = some (.int .i64 x2)) (h3 : w.cell? ⟨g, 3, none⟩ = some (.int .i64 x3)) (h4 : w.cell? ⟨g, 4, none⟩ = some (.int .i64 x4)) (e0 : f 0 = x0) (e1 : f 1 = x1) (e2 : f 2 = x2) (e3 : f 3 = x3) (e4 : f 4 = x4) : Ints w (some ⟨g, 0, none⟩) 5 f
  | 0, _ => ⟨g, rfl, by rw [h0, e0]⟩
  | 1, _ => ⟨g, rfl, by rw [h1, e1]⟩
  | 2, _ => ⟨g, rfl, by rw [h2, e2]⟩
  | 3, _ => ⟨g, rfl, by rw [h3, e3]⟩
  | 4, _ => ⟨g, rfl, by rw [h4, e4]⟩

set_option maxRecDepth 100000 in
set_option maxHeartbeats 1000000 in
theorem alive_any (w : World) (hp : Pow w) : Calls Tryd.prog 14 #[] w (Ret (.bool true) w) := by
  have HP := Lib.hid hp
  clear hp
  go_enter Tryd.func14, Tryd.ntmps14
  go_wp2_with fail
  refine (ex2 (x := 13) (z := 0) (node_any 3 5 _) (by decide +kernel) (by decide +kernel)).mono ?_
  rintro e w1 ⟨rfl, hb1⟩
  go_wp2_with fail
  refine (ex2 (x := 3) (z := 0) (depth_any 13 _) (by decide +kernel) (by decide +kernel)).mono ?_
  rintro e w2 ⟨rfl, hb2⟩
  have b2 := below_then hb1 hb2
  clear hb1 hb2
  go_wp2_with fail
  refine (ex2 (x := 3) (z := 0) (over_any 13 2 _) (by decide +kernel) (by decide +kernel)).mono ?_
  rintro e w3 ⟨rfl, hb3⟩
  have b3 := below_then b2 hb3
  clear b2 hb3
  go_wp2_with fail
  refine (exL (M := 3) (z := 0) (levels_any 7 2 _ (HP.out.below b3)) (by decide +kernel) (by decide +kernel)).mono ?_
  rintro e w4 ⟨A4, c4, rfl, _, _, H4, hb4⟩
  have b4 := below_then b3 hb4
  clear b3 hb4
  go_wp2_with fail
  refine (ex2 (x := 2) (z := 0) (count_any 7 2 2 _ (HP.out.below b4)) (by decide +kernel) (by decide +kernel)).mono ?_
  rintro e w5 ⟨rfl, hb5⟩
  have H5 := Lib.hid (Ints.below H4.out hb5)
  have b5 := below_then b4 hb5
  clear b4 hb5 H4
  go_wp2_with fail
  refine (ex2 (x := 6) (z := 0) (last_any 7 2 1 3 _ (HP.out.below b5)) (by decide +kernel) (by decide +kernel)).mono ?_
  rintro e w6 ⟨rfl, hb6⟩
  have H6 := Lib.hid (Ints.below H5.out hb6)
  have b6 := below_then b5 hb6
  clear b5 hb6 H5
  go_wp2_with fail
  refine (ex2 (x := 1) (z := 0) (last_any 7 2 1 0 _ (HP.out.below b6)) (by decide +kernel) (by decide +kernel)).mono ?_
  rintro e w7 ⟨rfl, hb7⟩
  have H7 := Lib.hid (Ints.below H6.out hb7)
  have b7 := below_then b6 hb7
  clear b6 hb7 H6
  go_wp2_with fail
  refine (same_true _ _ 3 _ 3 (by omega) (Rk.lvF 7 2) _ (H7.out.alloc _) (lit_three (x0 := 7) (x1 := 4) (x2 := 2) (by simp [go_sem]) (by simp [go_sem]) (by simp [go_sem]) (by decide +kernel) (by decide +kernel) (by decide +kernel))).mono ?_
  rintro e w8 ⟨rfl, hb8⟩
  go_wp2
  go_ret
  exact Ret.mk rfl (below_then b7 (below_then (below_one _ _) hb8))
end Go.Proofs.YtgodedghmddhpaaDoor
