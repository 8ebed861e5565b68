/- sort.Search over a closure of the program's own. -/
import Derived.Test.YtmnlfhpkfgfpoaaDoorProg
import Derived.Test.YtmnlfhpkfgfpoaaDoorBase
import Derived.Deep.LoopGhost
namespace Go.Proofs.YtmnlfhpkfgfpoaaDoor
open Go.RowKit

/-- A closure that says of each number below n whether .., and only makes memory. -/
def Says (f : Nat) (cb : Array Value) (n : Nat) (pr : Nat → Bool) (w : World) : Prop := ∀ (i : Nat) (A : World), i < n → Below w.heap.size w A → Calls Tryd.prog f (#[.int .i64 i] ++ cb) A (Ret (.bool (pr i)) A)

set_option maxHeartbeats 1000000 in
/-- The first number that the closure says yes to, of numbers that rise. -/
theorem search_any (f : Nat) (cb : Array Value) (n : Nat) (hn : n ≤ 1000000) (pr : Nat → Bool) (w : World) (ef : ∀ args w, (callFunc f args).run Tryd.prog w = .ok (.enter f args) w)
    (hm : ∀ i j, i ≤ j → j < n → pr i = true → pr j = true) (hf : Says f cb n pr w) :
    Calls Tryd.prog 40 #[.int .i64 n, .func (.func f) #[] cb] w fun e w' => ∃ k : Nat, e = .returned (.int .i64 k) ∧ k ≤ n ∧ (∀ j, j < k → pr j = false) ∧ (k < n → pr k = true) ∧ Below w.heap.size w w' := by
  have HF := Lib.hid hf
  have HM := Lib.hid hm
  clear hf hm
  go_enter Tryd.func40, Tryd.ntmps40
  go_wp2
  go_loopg [5, 6] n (fun g lv hv wr => ∃ lo hi : Nat, g = hi - lo ∧ lv = .int .i64 lo ∧ hv = .int .i64 hi ∧ lo ≤ hi ∧ hi ≤ n ∧ Hid ((∀ j, j < lo → pr j = false) ∧ (hi < n → pr hi = true)) ∧ Below w.heap.size w wr)
  case atStart => exact ⟨0, n, by omega, rfl, rfl, by omega, Nat.le_refl _, Lib.hid ⟨fun j hj => by omega, fun h => by omega⟩, Below.refl _ _⟩
  case round =>
    obtain ⟨lo, hi, rfl, rfl, rfl, h1, h2, hI, hbr⟩ := hrel
    by_cases hlt : lo < hi
    · have hc := HF.out ((lo + hi) / 2) wr (by omega) hbr
      have ei : (((lo + hi) / 2 : Nat) : Int) = ((lo : Int) + (hi : Int)) / 2 := by omega
      cases hp : pr ((lo + hi) / 2) with
      | false =>
        have HP := Lib.hid hp
        rw [hp] at hc
        rw [ei] at hc
        have HC := Lib.hid hc
        clear hp hc
        go_wp2_with fail
        refine HC.out.mono ?_
        rintro e w2 ⟨rfl, hb2⟩
        go_wp2
        go_roundg (hi - ((lo + hi) / 2 + 1))
        case measure => omega
        case rel =>
          refine ⟨(lo + hi) / 2 + 1, hi, rfl, by go_num, rfl, by omega, h2, Lib.hid ⟨fun j hj => ?_, hI.out.2⟩, below_then hbr hb2⟩
          cases e : pr j with
          | false => rfl
          | true => exact absurd (HM.out j ((lo + hi) / 2) (by omega) (by omega) e) (by rw [HP.out]; simp)
      | true =>
        have HP := Lib.hid hp
        rw [hp] at hc
        rw [ei] at hc
        have HC := Lib.hid hc
        clear hp hc
        go_wp2_with fail
        refine HC.out.mono ?_
        rintro e w2 ⟨rfl, hb2⟩
        go_wp2
        go_roundg ((lo + hi) / 2 - lo)
        case measure => omega
        case rel =>
          exact ⟨lo, (lo + hi) / 2, rfl, rfl, by go_num, by omega, by omega, Lib.hid ⟨hI.out.1, fun _ => HP.out⟩, below_then hbr hb2⟩
    · obtain rfl : hi = lo := by omega
      go_wp2
      go_ret
      exact ⟨hi, rfl, h2, hI.out.1, hI.out.2, hbr⟩
end Go.Proofs.YtmnlfhpkfgfpoaaDoor
