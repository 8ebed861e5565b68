/- The program of an index, the program's own: a step that is turned in place, its small turns. -/
import Derived.Test.YtmkehailohgebaaDoorGTe1
import Derived.Test.YtmkehailohgebaaDoorBks
import Derived.BigRegion
import Derived.BigQuiet
import Derived.Deep.DeepCutAuto
namespace Go.Proofs.YtmkehailohgebaaDoor
open Go.RowKit Go.Lib Pt Opn

theorem cells18 {w : World} {g : Nat} {a0 a1 a2 a3 a4 a5 a6 a7 a8 a9 a10 a11 a12 a13 a14 a15 a16 a17 : Value} {t : TypeId} (hh : w.heap[g]? = some (.cells #[a0, a1, a2, a3, a4, a5, a6, a7, a8, a9, a10, a11, a12, a13, a14, a15, a16, a17] t (0, 0))) :
    (w.cell? ⟨g, 0, none⟩ = some a0 ∧ w.cell? ⟨g, 1, none⟩ = some a1 ∧ w.cell? ⟨g, 2, none⟩ = some a2 ∧ w.cell? ⟨g, 3, none⟩ = some a3 ∧ w.cell? ⟨g, 4, none⟩ = some a4 ∧ w.cell? ⟨g, 5, none⟩ = some a5 ∧ w.cell? ⟨g, 6, none⟩ = some a6 ∧ w.cell? ⟨g, 7, none⟩ = some a7 ∧ w.cell? ⟨g, 8, none⟩ = some a8 ∧ w.cell? ⟨g, 9, none⟩ = some a9 ∧ w.cell? ⟨g, 10, none⟩ = some a10 ∧ w.cell? ⟨g, 11, none⟩ = some a11 ∧ w.cell? ⟨g, 12, none⟩ = some a12 ∧ w.cell? ⟨g, 13, none⟩ = some a13 ∧ w.cell? ⟨g, 14, none⟩ = some a14 ∧ w.cell? ⟨g, 15, none⟩ = some a15 ∧ w.cell? ⟨g, 16, none⟩ = some a16 ∧ w.cell? ⟨g, 17, none⟩ = some a17) ∧ (∀ j : Nat, w.frozen? ⟨g, j, none⟩ = false) := by
  refine ⟨⟨?_, ?_, ?_, ?_, ?_, ?_, ?_, ?_, ?_, ?_, ?_, ?_, ?_, ?_, ?_, ?_, ?_, ?_⟩, ?_⟩ <;> simp [World.cell?, World.frozen?, hh]

/-- A step, in block g. -/
abbrev stO (C N K : Int) (L : Value) (kind a b pc i j n p h x y rk rv : Int) (t : Bool) : Obj := .cells #[.int .i64 C, .int .i64 N, .int .i64 K, L, .int .u8 kind, .int .u32 a, .int .u32 b, .int .u8 pc, .int .u8 i, .int .u8 j, .int .u8 n, .int .u8 p, .int .u8 h, .int .u32 x, .int .u32 y, .int .u64 rk, .int .u64 rv, .bool t] 83 (0, 0)
def StX (c : Cf) (L : Value) (g : Nat) (f : Ds) (rk rv : Nat) (t : Bool) (W : World) : Prop := W.heap[g]? = some (stO c.cap c.node c.chunk L f.kind f.a f.b f.pc f.i f.j f.n f.p f.h f.x f.y rk rv t)
/-- A call that turns the step alone. -/
def TurnX (c : Cf) (L : Value) (g : Nat) (f : Ds) (rk rv : Nat) (t : Bool) (w : World) (e : Ending) (w' : World) : Prop := e = .returned (.tuple #[]) ∧ StX c L g f rk rv t w' ∧ Only (fun k => k = g) w w'

set_option maxRecDepth 100000 in
set_option maxHeartbeats 8000000 in
theorem pNextRow_any (c : Cf) (L : Value) (g : Nat) (f : Ds) (rk rv : Nat) (t : Bool) (hp : f.p < 255) (w : World) (hs : StX c L g f rk rv t w) :
    Calls Tryd.prog 69 #[.pointer (some ⟨g, 0, none⟩)] w (TurnX c L g (nextOne f) rk rv t w) := by
  obtain ⟨X, hX⟩ : ∃ X, (nextOne f) = X := ⟨_, rfl⟩
  rw [hX]
  unfold nextOne at hX
  unfold StX stO at hs
  have HS := Lib.hid hs
  have q0 := (Array.getElem?_eq_some_iff.1 hs).1
  obtain ⟨⟨r0, r1, r2, r3, r4, r5, r6, r7, r8, r9, r10, r11, r12, r13, r14, r15, r16, r17⟩, hf⟩ := cells18 hs
  clear hs
  obtain ⟨tg, k, seq, kind, a, b, pc, i, j, n, p, h, x, y⟩ := f
  simp only at * 
  have p1 : IntKind.u8.wrap ((p : Int) + 1) = (p : Int) + 1 := by rw [IntKind.wrap_u8]; omega
  by_cases e1 : n ≤ p + 1
  · rw [if_pos e1] at hX
    have e2 : (n : Int) ≤ (p : Int) + 1 := by omega
    clear e1
    subst hX
    go_enter Tryd.func69, Tryd.ntmps69
    go_wp2_with fail
    repeat (go_region; try go_wp2_with fail)
    refine bodyPost_ret (results_none rfl _ _ _) rfl ⟨rfl, ?_, ?_⟩
    · unfold StX
      with_reducible first | refine st_of HS.out ?_ | refine st_of (bk_store HS.out _ _) ?_ | refine st_of (bk_store (bk_store HS.out _ _) _ _) ?_ | refine st_of (bk_store (bk_store (bk_store HS.out _ _) _ _) _ _) ?_ | refine st_of (bk_store (bk_store (bk_store (bk_store HS.out _ _) _ _) _ _) _ _) ?_ | refine st_of (bk_store (bk_store (bk_store (bk_store (bk_store HS.out _ _) _ _) _ _) _ _) _ _) ?_ | refine st_of (bk_drew HS.out) ?_ | refine st_of (bk_drew (bk_store HS.out _ _)) ?_ | refine st_of (bk_drew (bk_store (bk_store HS.out _ _) _ _)) ?_ | refine st_of (bk_drew (bk_store (bk_store (bk_store HS.out _ _) _ _) _ _)) ?_ | refine st_of (bk_drew (bk_store (bk_store (bk_store (bk_store HS.out _ _) _ _) _ _) _ _)) ?_ | refine st_of (bk_drew (bk_store (bk_store (bk_store (bk_store (bk_store HS.out _ _) _ _) _ _) _ _) _ _)) ?_ | refine st_of (bk_drew (bk_drew HS.out)) ?_ | refine st_of (bk_drew (bk_drew (bk_store HS.out _ _))) ?_ | refine st_of (bk_drew (bk_drew (bk_store (bk_store HS.out _ _) _ _))) ?_ | refine st_of (bk_drew (bk_drew (bk_store (bk_store (bk_store HS.out _ _) _ _) _ _))) ?_ | refine st_of (bk_drew (bk_drew (bk_store (bk_store (bk_store (bk_store HS.out _ _) _ _) _ _) _ _))) ?_ | refine st_of (bk_drew (bk_drew (bk_store (bk_store (bk_store (bk_store (bk_store HS.out _ _) _ _) _ _) _ _) _ _))) ?_
      rfl
    · repeat' (first | with_reducible exact Only.refl _ _ | with_reducible refine Only.drew ?_ | with_reducible refine only_set ?_ _ _)
  · rw [if_neg e1] at hX
    have e2 : ¬ (n : Int) ≤ (p : Int) + 1 := by omega
    clear e1
    subst hX
    go_enter Tryd.func69, Tryd.ntmps69
    go_wp2_with fail
    repeat (go_region; try go_wp2_with fail)
    refine bodyPost_end (results_none rfl _ _ _) rfl ⟨rfl, ?_, ?_⟩
    · unfold StX
      with_reducible first | refine st_of HS.out ?_ | refine st_of (bk_store HS.out _ _) ?_ | refine st_of (bk_store (bk_store HS.out _ _) _ _) ?_ | refine st_of (bk_store (bk_store (bk_store HS.out _ _) _ _) _ _) ?_ | refine st_of (bk_store (bk_store (bk_store (bk_store HS.out _ _) _ _) _ _) _ _) ?_ | refine st_of (bk_store (bk_store (bk_store (bk_store (bk_store HS.out _ _) _ _) _ _) _ _) _ _) ?_ | refine st_of (bk_drew HS.out) ?_ | refine st_of (bk_drew (bk_store HS.out _ _)) ?_ | refine st_of (bk_drew (bk_store (bk_store HS.out _ _) _ _)) ?_ | refine st_of (bk_drew (bk_store (bk_store (bk_store HS.out _ _) _ _) _ _)) ?_ | refine st_of (bk_drew (bk_store (bk_store (bk_store (bk_store HS.out _ _) _ _) _ _) _ _)) ?_ | refine st_of (bk_drew (bk_store (bk_store (bk_store (bk_store (bk_store HS.out _ _) _ _) _ _) _ _) _ _)) ?_ | refine st_of (bk_drew (bk_drew HS.out)) ?_ | refine st_of (bk_drew (bk_drew (bk_store HS.out _ _))) ?_ | refine st_of (bk_drew (bk_drew (bk_store (bk_store HS.out _ _) _ _))) ?_ | refine st_of (bk_drew (bk_drew (bk_store (bk_store (bk_store HS.out _ _) _ _) _ _))) ?_ | refine st_of (bk_drew (bk_drew (bk_store (bk_store (bk_store (bk_store HS.out _ _) _ _) _ _) _ _))) ?_ | refine st_of (bk_drew (bk_drew (bk_store (bk_store (bk_store (bk_store (bk_store HS.out _ _) _ _) _ _) _ _) _ _))) ?_
      rfl
    · repeat' (first | with_reducible exact Only.refl _ _ | with_reducible refine Only.drew ?_ | with_reducible refine only_set ?_ _ _)
set_option maxRecDepth 100000 in
set_option maxHeartbeats 8000000 in
theorem pGapOn_any (c : Cf) (L : Value) (g : Nat) (f : Ds) (rk rv : Nat) (t : Bool) (hi : f.i < 255) (w : World) (hs : StX c L g f rk rv t w) :
    Calls Tryd.prog 68 #[.pointer (some ⟨g, 0, none⟩)] w (TurnX c L g (if f.n ≤ f.i + 1 then { f with i := f.i + 1, pc := 15 } else { f with i := f.i + 1, pc := 13 }) rk rv t w) := by
  obtain ⟨X, hX⟩ : ∃ X, (if f.n ≤ f.i + 1 then { f with i := f.i + 1, pc := 15 } else { f with i := f.i + 1, pc := 13 }) = X := ⟨_, rfl⟩
  rw [hX]
  unfold StX stO at hs
  have HS := Lib.hid hs
  have q0 := (Array.getElem?_eq_some_iff.1 hs).1
  obtain ⟨⟨r0, r1, r2, r3, r4, r5, r6, r7, r8, r9, r10, r11, r12, r13, r14, r15, r16, r17⟩, hf⟩ := cells18 hs
  clear hs
  obtain ⟨tg, k, seq, kind, a, b, pc, i, j, n, p, h, x, y⟩ := f
  simp only at * 
  have p1 : IntKind.u8.wrap ((i : Int) + 1) = (i : Int) + 1 := by rw [IntKind.wrap_u8]; omega
  by_cases e1 : n ≤ i + 1
  · rw [if_pos e1] at hX
    have e2 : (n : Int) ≤ (i : Int) + 1 := by omega
    clear e1
    subst hX
    go_enter Tryd.func68, Tryd.ntmps68
    go_wp2_with fail
    repeat (go_region; try go_wp2_with fail)
    refine bodyPost_end (results_none rfl _ _ _) rfl ⟨rfl, ?_, ?_⟩
    · unfold StX
      with_reducible first | refine st_of HS.out ?_ | refine st_of (bk_store HS.out _ _) ?_ | refine st_of (bk_store (bk_store HS.out _ _) _ _) ?_ | refine st_of (bk_store (bk_store (bk_store HS.out _ _) _ _) _ _) ?_ | refine st_of (bk_store (bk_store (bk_store (bk_store HS.out _ _) _ _) _ _) _ _) ?_ | refine st_of (bk_store (bk_store (bk_store (bk_store (bk_store HS.out _ _) _ _) _ _) _ _) _ _) ?_ | refine st_of (bk_drew HS.out) ?_ | refine st_of (bk_drew (bk_store HS.out _ _)) ?_ | refine st_of (bk_drew (bk_store (bk_store HS.out _ _) _ _)) ?_ | refine st_of (bk_drew (bk_store (bk_store (bk_store HS.out _ _) _ _) _ _)) ?_ | refine st_of (bk_drew (bk_store (bk_store (bk_store (bk_store HS.out _ _) _ _) _ _) _ _)) ?_ | refine st_of (bk_drew (bk_store (bk_store (bk_store (bk_store (bk_store HS.out _ _) _ _) _ _) _ _) _ _)) ?_ | refine st_of (bk_drew (bk_drew HS.out)) ?_ | refine st_of (bk_drew (bk_drew (bk_store HS.out _ _))) ?_ | refine st_of (bk_drew (bk_drew (bk_store (bk_store HS.out _ _) _ _))) ?_ | refine st_of (bk_drew (bk_drew (bk_store (bk_store (bk_store HS.out _ _) _ _) _ _))) ?_ | refine st_of (bk_drew (bk_drew (bk_store (bk_store (bk_store (bk_store HS.out _ _) _ _) _ _) _ _))) ?_ | refine st_of (bk_drew (bk_drew (bk_store (bk_store (bk_store (bk_store (bk_store HS.out _ _) _ _) _ _) _ _) _ _))) ?_
      rfl
    · repeat' (first | with_reducible exact Only.refl _ _ | with_reducible refine Only.drew ?_ | with_reducible refine only_set ?_ _ _)
  · rw [if_neg e1] at hX
    have e2 : ¬ (n : Int) ≤ (i : Int) + 1 := by omega
    clear e1
    subst hX
    go_enter Tryd.func68, Tryd.ntmps68
    go_wp2_with fail
    repeat (go_region; try go_wp2_with fail)
    refine bodyPost_end (results_none rfl _ _ _) rfl ⟨rfl, ?_, ?_⟩
    · unfold StX
      with_reducible first | refine st_of HS.out ?_ | refine st_of (bk_store HS.out _ _) ?_ | refine st_of (bk_store (bk_store HS.out _ _) _ _) ?_ | refine st_of (bk_store (bk_store (bk_store HS.out _ _) _ _) _ _) ?_ | refine st_of (bk_store (bk_store (bk_store (bk_store HS.out _ _) _ _) _ _) _ _) ?_ | refine st_of (bk_store (bk_store (bk_store (bk_store (bk_store HS.out _ _) _ _) _ _) _ _) _ _) ?_ | refine st_of (bk_drew HS.out) ?_ | refine st_of (bk_drew (bk_store HS.out _ _)) ?_ | refine st_of (bk_drew (bk_store (bk_store HS.out _ _) _ _)) ?_ | refine st_of (bk_drew (bk_store (bk_store (bk_store HS.out _ _) _ _) _ _)) ?_ | refine st_of (bk_drew (bk_store (bk_store (bk_store (bk_store HS.out _ _) _ _) _ _) _ _)) ?_ | refine st_of (bk_drew (bk_store (bk_store (bk_store (bk_store (bk_store HS.out _ _) _ _) _ _) _ _) _ _)) ?_ | refine st_of (bk_drew (bk_drew HS.out)) ?_ | refine st_of (bk_drew (bk_drew (bk_store HS.out _ _))) ?_ | refine st_of (bk_drew (bk_drew (bk_store (bk_store HS.out _ _) _ _))) ?_ | refine st_of (bk_drew (bk_drew (bk_store (bk_store (bk_store HS.out _ _) _ _) _ _))) ?_ | refine st_of (bk_drew (bk_drew (bk_store (bk_store (bk_store (bk_store HS.out _ _) _ _) _ _) _ _))) ?_ | refine st_of (bk_drew (bk_drew (bk_store (bk_store (bk_store (bk_store (bk_store HS.out _ _) _ _) _ _) _ _) _ _))) ?_
      rfl
    · repeat' (first | with_reducible exact Only.refl _ _ | with_reducible refine Only.drew ?_ | with_reducible refine only_set ?_ _ _)
set_option maxRecDepth 100000 in
set_option maxHeartbeats 8000000 in
theorem pMoreRoom_any (c : Cf) (L : Value) (g : Nat) (f : Ds) (rk rv : Nat) (t : Bool) (hi : 1 ≤ f.i) (hi2 : f.i < 256) (w : World) (hs : StX c L g f rk rv t w) :
    Calls Tryd.prog 65 #[.pointer (some ⟨g, 0, none⟩)] w (TurnX c L g (if f.i - 1 ≤ f.p then { f with i := f.i - 1, pc := 7 } else { f with i := f.i - 1, pc := 5 }) rk rv t w) := by
  obtain ⟨X, hX⟩ : ∃ X, (if f.i - 1 ≤ f.p then { f with i := f.i - 1, pc := 7 } else { f with i := f.i - 1, pc := 5 }) = X := ⟨_, rfl⟩
  rw [hX]
  unfold StX stO at hs
  have HS := Lib.hid hs
  have q0 := (Array.getElem?_eq_some_iff.1 hs).1
  obtain ⟨⟨r0, r1, r2, r3, r4, r5, r6, r7, r8, r9, r10, r11, r12, r13, r14, r15, r16, r17⟩, hf⟩ := cells18 hs
  clear hs
  obtain ⟨tg, k, seq, kind, a, b, pc, i, j, n, p, h, x, y⟩ := f
  simp only at * 
  obtain ⟨m, rfl⟩ : ∃ m, i = m + 1 := ⟨i - 1, by omega⟩
  have p1 : IntKind.u8.wrap (((m + 1 : Nat) : Int) - 1) = (m : Int) := by rw [IntKind.wrap_u8]; omega
  rw [Nat.add_sub_cancel] at hX
  by_cases e1 : m ≤ p
  · rw [if_pos e1] at hX
    have e2 : (m : Int) ≤ (p : Int) := by omega
    clear e1
    subst hX
    go_enter Tryd.func65, Tryd.ntmps65
    go_wp2_with fail
    repeat (go_region; try go_wp2_with fail)
    refine bodyPost_end (results_none rfl _ _ _) rfl ⟨rfl, ?_, ?_⟩
    · unfold StX
      with_reducible first | refine st_of HS.out ?_ | refine st_of (bk_store HS.out _ _) ?_ | refine st_of (bk_store (bk_store HS.out _ _) _ _) ?_ | refine st_of (bk_store (bk_store (bk_store HS.out _ _) _ _) _ _) ?_ | refine st_of (bk_store (bk_store (bk_store (bk_store HS.out _ _) _ _) _ _) _ _) ?_ | refine st_of (bk_store (bk_store (bk_store (bk_store (bk_store HS.out _ _) _ _) _ _) _ _) _ _) ?_ | refine st_of (bk_drew HS.out) ?_ | refine st_of (bk_drew (bk_store HS.out _ _)) ?_ | refine st_of (bk_drew (bk_store (bk_store HS.out _ _) _ _)) ?_ | refine st_of (bk_drew (bk_store (bk_store (bk_store HS.out _ _) _ _) _ _)) ?_ | refine st_of (bk_drew (bk_store (bk_store (bk_store (bk_store HS.out _ _) _ _) _ _) _ _)) ?_ | refine st_of (bk_drew (bk_store (bk_store (bk_store (bk_store (bk_store HS.out _ _) _ _) _ _) _ _) _ _)) ?_ | refine st_of (bk_drew (bk_drew HS.out)) ?_ | refine st_of (bk_drew (bk_drew (bk_store HS.out _ _))) ?_ | refine st_of (bk_drew (bk_drew (bk_store (bk_store HS.out _ _) _ _))) ?_ | refine st_of (bk_drew (bk_drew (bk_store (bk_store (bk_store HS.out _ _) _ _) _ _))) ?_ | refine st_of (bk_drew (bk_drew (bk_store (bk_store (bk_store (bk_store HS.out _ _) _ _) _ _) _ _))) ?_ | refine st_of (bk_drew (bk_drew (bk_store (bk_store (bk_store (bk_store (bk_store HS.out _ _) _ _) _ _) _ _) _ _))) ?_
      rfl
    · repeat' (first | with_reducible exact Only.refl _ _ | with_reducible refine Only.drew ?_ | with_reducible refine only_set ?_ _ _)
  · rw [if_neg e1] at hX
    have e2 : ¬ (m : Int) ≤ (p : Int) := by omega
    clear e1
    subst hX
    go_enter Tryd.func65, Tryd.ntmps65
    go_wp2_with fail
    repeat (go_region; try go_wp2_with fail)
    refine bodyPost_end (results_none rfl _ _ _) rfl ⟨rfl, ?_, ?_⟩
    · unfold StX
      with_reducible first | refine st_of HS.out ?_ | refine st_of (bk_store HS.out _ _) ?_ | refine st_of (bk_store (bk_store HS.out _ _) _ _) ?_ | refine st_of (bk_store (bk_store (bk_store HS.out _ _) _ _) _ _) ?_ | refine st_of (bk_store (bk_store (bk_store (bk_store HS.out _ _) _ _) _ _) _ _) ?_ | refine st_of (bk_store (bk_store (bk_store (bk_store (bk_store HS.out _ _) _ _) _ _) _ _) _ _) ?_ | refine st_of (bk_drew HS.out) ?_ | refine st_of (bk_drew (bk_store HS.out _ _)) ?_ | refine st_of (bk_drew (bk_store (bk_store HS.out _ _) _ _)) ?_ | refine st_of (bk_drew (bk_store (bk_store (bk_store HS.out _ _) _ _) _ _)) ?_ | refine st_of (bk_drew (bk_store (bk_store (bk_store (bk_store HS.out _ _) _ _) _ _) _ _)) ?_ | refine st_of (bk_drew (bk_store (bk_store (bk_store (bk_store (bk_store HS.out _ _) _ _) _ _) _ _) _ _)) ?_ | refine st_of (bk_drew (bk_drew HS.out)) ?_ | refine st_of (bk_drew (bk_drew (bk_store HS.out _ _))) ?_ | refine st_of (bk_drew (bk_drew (bk_store (bk_store HS.out _ _) _ _))) ?_ | refine st_of (bk_drew (bk_drew (bk_store (bk_store (bk_store HS.out _ _) _ _) _ _))) ?_ | refine st_of (bk_drew (bk_drew (bk_store (bk_store (bk_store (bk_store HS.out _ _) _ _) _ _) _ _))) ?_ | refine st_of (bk_drew (bk_drew (bk_store (bk_store (bk_store (bk_store (bk_store HS.out _ _) _ _) _ _) _ _) _ _))) ?_
      rfl
    · repeat' (first | with_reducible exact Only.refl _ _ | with_reducible refine Only.drew ?_ | with_reducible refine only_set ?_ _ _)
end Go.Proofs.YtmkehailohgebaaDoor
