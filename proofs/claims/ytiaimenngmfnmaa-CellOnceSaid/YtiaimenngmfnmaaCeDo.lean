/- The memory of package cell: what its functions do. -/
import Derived.Test.YtiaimenngmfnmaaCeRow
import Derived.Test.YtiaimenngmfnmaaCeWalks
import Derived.FnLit
import Derived.Lib.SliceRun
import Derived.Laws.StructEq
namespace Go.Proofs.Ytiaimenngmfnmaa
open Go.RowKit Ce

theorem cell_info : (Try.prog.info? 25).map (fun i => (i.zero, i.size, i.bytes)) = some (some (.agg #[.int .u64 0, .int .u64 0, .int .u64 0, .int .u64 0]), 4, 32) := by kernel_rfl

/-- It returns a row of its own. -/
def RetCells (n : Nat) (cf : Nat → C4) (w : World) (e : Ending) (w' : World) : Prop :=
  ∃ A c, e = .returned (.slice A n c) ∧ (A = none → n = 0 ∧ c = 0) ∧ Own w' w.heap.size 25 4 A n c (fun i => l4 (cf i)) ∧ Below w.heap.size w w'

set_option maxHeartbeats 1000000 in
theorem clone_nil (cf : Nat → C4) (w : World) : Calls Try.prog 21 #[.slice none 0 0] w (RetCells 0 cf w) := by
  have hq := fun W => Lib.run_eql_slice_nil (P := Try.prog) W 35 _ none 0 0 0 0 Try.underlying35
  go_enter Try.func21, Try.ntmps21
  go_wp2
  go_ret
  exact ⟨none, 0, rfl, fun _ => ⟨rfl, rfl⟩, ⟨by omega, by omega, fun h => by omega⟩, Below.refl _ _⟩

set_option maxHeartbeats 1000000 in
theorem clone_some (ad : Addr) (n c : Nat) (hn : n ≤ 100000000) (cf : Nat → C4) (w : World) (hI : IsCells w (some ad) n cf) : Calls Try.prog 21 #[.slice (some ad) n c] w (RetCells n cf w) := by
  have HI := Lib.hid hI
  clear hI
  have hq := fun W => Lib.run_eql_slice_nil (P := Try.prog) W 35 _ (some ad) n c 0 0 Try.underlying35
  go_enter Try.func21, Try.ntmps21
  have HA : (some ad : Option Addr) = none → n = 0 ∧ c = 0 := fun h => by cases h
  have HB := Lib.hid HA
  clear HA
  go_wp2_with (at_builtin
               refine wpList_copied (w0 := w) rfl (.tmp 5) (.tmp 6) _ rfl Try.underlying35 cell_info rfl (by decide) (by decide) rfl (World.ownsRow_lit w #[] 0 (Nat.le_refl _) (by unfold maxLen; omega) rfl) rfl HB.out (flat n fun i => l4 (cf i)) (l4_len n cf) (cells_list (HI.out.same (below_one _ _).block)) l4_one hn (Nat.le_refl _) (below_one _ _) ?_
               intro v' W1 HO hbW1 Hg)
  obtain ⟨A', c', rfl, _, _, hA', _⟩ := owns_form HO.out
  have HA' := Lib.hid hA'
  clear hA'
  go_ret
  exact ⟨A', c', rfl, HA'.out, Own.of (fun _ => rfl) HO.out, hbW1⟩

theorem clone_any (A : Option Addr) (n c : Nat) (hA : A = none → n = 0 ∧ c = 0) (hn : n ≤ 100000000) (cf : Nat → C4) (w : World) (hI : IsCells w A n cf) : Calls Try.prog 21 #[.slice A n c] w (RetCells n cf w) := by
  cases A with
  | none => obtain ⟨rfl, rfl⟩ := hA rfl; exact clone_nil cf w
  | some ad => exact clone_some ad n c hn cf w hI

set_option maxHeartbeats 1000000 in
theorem new_many (A : Option Addr) (n c : Nat) (h : 1024 < n) (w : World) : Calls Try.prog 10 #[.slice A n c] w (Ret2 (.pointer none) (.int .i64 4) w) := by
  go_enter Try.func10, Try.ntmps10
  go_wp2
  go_ret2
  exact Ret2.mk rfl rfl (Below.refl _ _)

def RetMem (n : Nat) (cf : Nat → C4) (w : World) (e : Ending) (w' : World) : Prop :=
  ∃ gm gr A c, e = .returned (.tuple #[.pointer (some ⟨gm, 0, none⟩), .int .i64 0]) ∧ w.heap.size ≤ gm ∧ w.heap.size ≤ gr ∧ (A = none → n = 0 ∧ c = 0) ∧ Mem w' gm gr A n c cf ∧ Below w.heap.size w w'

theorem mem_made {n c1 : Nat} {A1 : Option Addr} {cf : Nat → C4} {w w1 : World} (hO : Own w1 w.heap.size 25 4 A1 n c1 (fun i => l4 (cf i))) (hA1 : A1 = none → n = 0 ∧ c1 = 0) (hb1 : Below w.heap.size w w1) :
    RetMem n cf w (.returned (.tuple #[.pointer (some ⟨w1.heap.size, 0, none⟩), .int .i64 0])) (w1.alloc (.cells #[.slice A1 n c1] 59)) := by
  have hz := hb1.size
  have hc : (w1.alloc (.cells #[.slice A1 n c1] 59)).cell? ⟨w1.heap.size, 0, none⟩ = some (.slice A1 n c1) := by simp [go_sem]
  by_cases hn : 0 < n
  · obtain ⟨g, e, hb, m, F, hr, hm, hF⟩ := hO.2.2 hn
    have := hr.lt
    exact ⟨w1.heap.size, g, A1, c1, rfl, hz, hb, hA1, ⟨hc, by omega, hO.1, hO.2.1, fun _ => ⟨e, m, F, hr.alloc _, hm, hF⟩⟩, hb1.alloc hz _⟩
  · exact ⟨w1.heap.size, w1.heap.size + 1, A1, c1, rfl, hz, by omega, hA1, ⟨hc, by omega, hO.1, hO.2.1, fun h => absurd h hn⟩, hb1.alloc hz _⟩

set_option maxHeartbeats 1000000 in
theorem new_ok (A : Option Addr) (n c : Nat) (hA : A = none → n = 0 ∧ c = 0) (h : n ≤ 1024) (cf : Nat → C4) (w : World) (hI : IsCells w A n cf) : Calls Try.prog 10 #[.slice A n c] w (RetMem n cf w) := by
  have HI := Lib.hid hI
  have HA := Lib.hid hA
  clear hI hA
  have t1 : decide ((1024 : Int) < n) = false := by simp; omega
  go_enter Try.func10, Try.ntmps10
  go_wp2_with (go_at_call 21; refine (clone_any A n c HA.out (by omega) cf _ HI.out).mono ?_; rintro e w1 ⟨A1, c1, rfl, hA1, hO, hb1⟩; have HO := Lib.hid hO; have HA1 := Lib.hid hA1; clear hO hA1)
  go_ret2
  refine mem_made HO.out HA1.out hb1

set_option maxHeartbeats 1000000 in
theorem cells_nil (cf : Nat → C4) (w : World) : Calls Try.prog 13 #[.pointer none] w (RetCells 0 cf w) := by
  go_enter Try.func13, Try.ntmps13
  go_wp2
  go_ret
  exact ⟨none, 0, rfl, fun _ => ⟨rfl, rfl⟩, ⟨by omega, by omega, fun h => by omega⟩, Below.refl _ _⟩

set_option maxHeartbeats 1000000 in
theorem cells_any (gm gr : Nat) (A : Option Addr) (n c : Nat) (hA : A = none → n = 0 ∧ c = 0) (hn : n ≤ 1024) (cf : Nat → C4) (w : World) (hM : Mem w gm gr A n c cf) : Calls Try.prog 13 #[.pointer (some ⟨gm, 0, none⟩)] w (RetCells n cf w) := by
  have HM := Lib.hid hM
  have HA := Lib.hid hA
  have h0 := hM.1
  clear hM hA
  go_enter Try.func13, Try.ntmps13
  go_wp2_with (go_at_call 21; refine (clone_any A n c HA.out (by omega) cf _ HM.out.cells).mono ?_; rintro e w1 ⟨A1, c1, rfl, hA1, hO, hb1⟩; have HO := Lib.hid hO; have HA1 := Lib.hid hA1; clear hO hA1)
  go_ret
  exact ⟨A1, c1, rfl, HA1.out, HO.out, hb1⟩

set_option maxHeartbeats 1000000 in
theorem has_nil (i : Int) (w : World) : Calls Try.prog 19 #[.pointer none, .int .i64 i] w (Ret (.bool false) w) := by
  go_enter Try.func19, Try.ntmps19
  go_wp2
  go_ret
  exact Ret.mk rfl (Below.refl _ _)
set_option maxHeartbeats 1000000 in
theorem has_low (gm : Nat) (i : Int) (h : i < 0) (w : World) : Calls Try.prog 19 #[.pointer (some ⟨gm, 0, none⟩), .int .i64 i] w (Ret (.bool false) w) := by
  have t1 : decide ((0 : Int) ≤ i) = false := by simp; omega
  go_enter Try.func19, Try.ntmps19
  go_wp2
  go_ret
  exact Ret.mk rfl (Below.refl _ _)
set_option maxHeartbeats 1000000 in
theorem has_any (gm : Nat) (A : Option Addr) (n c : Nat) (i : Int) (b : Bool) (h0 : 0 ≤ i) (hb : decide (i < (n : Int)) = b) (w : World) (hc : w.cell? ⟨gm, 0, none⟩ = some (.slice A n c)) : Calls Try.prog 19 #[.pointer (some ⟨gm, 0, none⟩), .int .i64 i] w (Ret (.bool b) w) := by
  go_enter Try.func19, Try.ntmps19
  go_wp2
  go_ret
  exact Ret.mk rfl (Below.refl _ _)

/-- What a kind does. -/
def turnV (k : Int) (p : Value) : Value := if k = 1 then .func (.func 24) #[p] #[] else if k = 2 then .func (.func 25) #[p] #[] else if k = 3 then .func (.func 26) #[p] #[] else if k = 4 then .func (.func 27) #[p] #[] else .nilFunc
set_option maxHeartbeats 1000000 in
theorem turn_any (k : Int) (gm : Nat) (v : Value) (hv : turnV k (.pointer (some ⟨gm, 0, none⟩)) = v) (w : World) : Calls Try.prog 20 #[.pointer (some ⟨gm, 0, none⟩), .int .u8 k] w (Ret v w) := by
  have hmf : ∀ (fn : Fn) (first cap : Array Value) (w : World), (Instr.makeFunc fn first cap).run Try.prog w = .ok (.func fn first cap) w := fun _ _ _ _ => rfl
  subst hv
  unfold turnV
  by_cases h1 : k = 1
  · subst h1
    go_enter Try.func20, Try.ntmps20
    go_wp2
    go_ret
    exact Ret.mk rfl (Below.refl _ _)
  by_cases h2 : k = 2
  · subst h2
    go_enter Try.func20, Try.ntmps20
    go_wp2
    go_ret
    exact Ret.mk rfl (Below.refl _ _)
  by_cases h3 : k = 3
  · subst h3
    go_enter Try.func20, Try.ntmps20
    go_wp2
    go_ret
    exact Ret.mk rfl (Below.refl _ _)
  by_cases h4 : k = 4
  · subst h4
    go_enter Try.func20, Try.ntmps20
    go_wp2
    go_ret
    exact Ret.mk rfl (Below.refl _ _)
  rw [if_neg h1, if_neg h2, if_neg h3, if_neg h4]
  go_enter Try.func20, Try.ntmps20
  go_wp2
  go_ret
  exact Ret.mk rfl (Below.refl _ _)
end Go.Proofs.Ytiaimenngmfnmaa
