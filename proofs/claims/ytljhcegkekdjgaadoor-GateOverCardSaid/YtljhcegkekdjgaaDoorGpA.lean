/- The program of a set of access rules, the program's own: a step that is turned in place, its small turns. -/
import Derived.Test.YtljhcegkekdjgaaDoorGtMay
import Derived.Test.YtljhcegkekdjgaaDoorGBk
import Derived.BigRegion
import Derived.BigQuiet
import Derived.Deep.DeepCutAuto
namespace Go.Proofs.YtljhcegkekdjgaaDoor
open Go.RowKit Go.Lib Pt Opn

theorem cells12f {w : World} {g : Nat} {a0 a1 a2 a3 a4 a5 a6 a7 a8 a9 a10 a11 : Value} {t : TypeId} (hh : w.heap[g]? = some (.cells #[a0, a1, a2, a3, a4, a5, a6, a7, a8, a9, a10, a11] t (0, 0))) :
    (w.cell? ⟨g, 0, none⟩ = some a0 ∧ w.cell? ⟨g, 1, none⟩ = some a1 ∧ w.cell? ⟨g, 2, none⟩ = some a2 ∧ w.cell? ⟨g, 3, none⟩ = some a3 ∧ w.cell? ⟨g, 4, none⟩ = some a4 ∧ w.cell? ⟨g, 5, none⟩ = some a5 ∧ w.cell? ⟨g, 6, none⟩ = some a6 ∧ w.cell? ⟨g, 7, none⟩ = some a7 ∧ w.cell? ⟨g, 8, none⟩ = some a8 ∧ w.cell? ⟨g, 9, none⟩ = some a9 ∧ w.cell? ⟨g, 10, none⟩ = some a10 ∧ w.cell? ⟨g, 11, none⟩ = some a11) ∧ (∀ j : Nat, w.frozen? ⟨g, j, none⟩ = false) := by
  refine ⟨⟨?_, ?_, ?_, ?_, ?_, ?_, ?_, ?_, ?_, ?_, ?_, ?_⟩, ?_⟩ <;> simp [World.cell?, World.frozen?, hh]

/-- A step, in block g. -/
abbrev stG (C : Int) (kind a b pc i j n p h x y : Int) : Obj := .cells #[.int .i64 C, .int .u8 kind, .int .u32 a, .int .u32 b, .int .u8 pc, .int .u8 i, .int .u8 j, .int .u8 n, .int .u8 p, .int .u8 h, .int .u32 x, .int .u32 y] 74 (0, 0)
def StG (C : Int) (g : Nat) (f : Ds) (W : World) : Prop := W.heap[g]? = some (stG C f.kind f.a f.b f.pc f.i f.j f.n f.p f.h f.x f.y)
/-- A call that turns the step alone. -/
def TurnG (C : Int) (g : Nat) (f : Ds) (w : World) (e : Ending) (w' : World) : Prop := e = .returned (.tuple #[]) ∧ StG C g f w' ∧ Only (fun k => k = g) w w'
/-- Where nothing is left to be read. -/
def endG (f : Ds) : Ds := if f.kind = 9 then { f with x := 0, pc := if f.h = 1 then 2 else 22 } else if f.kind = 10 then { f with pc := 21 } else { f with pc := 20 }
def goOnG (C : Int) (f : Ds) : Ds := if (f.i : Int) + 1 < C then { f with i := f.i + 1 } else endG f
theorem over_goOn {c : Cf} {f : Ds} (hk : f.kind = 9 ∨ f.kind = 10) : overG c f = goOnG c.cap f := by
  unfold overG goOnG endG
  by_cases h1 : (f.i : Int) + 1 < c.cap
  · rw [if_pos h1, if_pos h1]
  · rw [if_neg h1, if_neg h1]
    rcases hk with e | e
    · rw [if_neg (show ¬ f.kind = 10 by omega), if_pos e]
    · rw [if_pos e, if_neg (show ¬ f.kind = 9 by omega), if_pos e]
theorem on_goOn {c : Cf} {f : Ds} (hk : f.kind = 11) (hi : (f.i : Int) < c.cap) : onG c f = goOnG c.cap f := by
  unfold onG goOnG endG
  by_cases e : (f.i : Int) + 1 = c.cap
  · rw [if_pos e, if_neg (by omega), if_neg (by omega), if_neg (by omega)]
  · rw [if_neg e, if_pos (by omega)]

set_option maxRecDepth 100000 in
set_option maxHeartbeats 8000000 in
theorem pEnd_any (C : Int) (g : Nat) (f : Ds) (hk : f.kind = 9 ∨ f.kind = 10 ∨ f.kind = 11) (hh : f.h ≤ 1) (w : World) (hs : StG C g f w) :
    Calls Tryd.prog 83 #[.pointer (some ⟨g, 0, none⟩)] w (TurnG C g (endG f) w) := by
  obtain ⟨X, hX⟩ : ∃ X, endG f = X := ⟨_, rfl⟩
  rw [hX]
  unfold endG at hX
  unfold StG stG at hs
  have HS := Lib.hid hs
  have q0 := (Array.getElem?_eq_some_iff.1 hs).1
  obtain ⟨⟨r0, r1, r2, r3, r4, r5, r6, r7, r8, r9, r10, r11⟩, hf⟩ := cells12f hs
  clear hs
  obtain ⟨tg, k, seq, kind, a, b, pc, i, j, n, p, h, x, y⟩ := f
  simp only at *
  have hc : (kind = 9 ∧ h = 1) ∨ (kind = 9 ∧ h = 0) ∨ kind = 10 ∨ kind = 11 := by omega
  clear hk hh
  rcases hc with ⟨rfl, rfl⟩ | ⟨rfl, rfl⟩ | rfl | rfl
  all_goals
    simp at hX
    subst hX
    simp only [show ((0 : Nat) : Int) = 0 from rfl, show ((1 : Nat) : Int) = 1 from rfl, show ((9 : Nat) : Int) = 9 from rfl, show ((10 : Nat) : Int) = 10 from rfl, show ((11 : Nat) : Int) = 11 from rfl] at *
    go_enter Tryd.func83, Tryd.ntmps83
    go_wp2_with fail
    repeat (go_region; try go_wp2_with fail)
    refine bodyPost_end (results_none rfl _ _ _) rfl ⟨rfl, ?_, ?_⟩
    · unfold StG
      with_reducible first | refine st_of HS.out ?_ | refine st_of (bk_store HS.out _ _) ?_ | refine st_of (bk_store (bk_store HS.out _ _) _ _) ?_ | refine st_of (bk_store (bk_store (bk_store HS.out _ _) _ _) _ _) ?_ | refine st_of (bk_store (bk_store (bk_store (bk_store HS.out _ _) _ _) _ _) _ _) ?_ | refine st_of (bk_store (bk_store (bk_store (bk_store (bk_store HS.out _ _) _ _) _ _) _ _) _ _) ?_ | refine st_of (bk_drew HS.out) ?_ | refine st_of (bk_drew (bk_store HS.out _ _)) ?_ | refine st_of (bk_drew (bk_store (bk_store HS.out _ _) _ _)) ?_ | refine st_of (bk_drew (bk_store (bk_store (bk_store HS.out _ _) _ _) _ _)) ?_ | refine st_of (bk_drew (bk_store (bk_store (bk_store (bk_store HS.out _ _) _ _) _ _) _ _)) ?_ | refine st_of (bk_drew (bk_store (bk_store (bk_store (bk_store (bk_store HS.out _ _) _ _) _ _) _ _) _ _)) ?_ | refine st_of (bk_drew (bk_drew HS.out)) ?_ | refine st_of (bk_drew (bk_drew (bk_store HS.out _ _))) ?_ | refine st_of (bk_drew (bk_drew (bk_store (bk_store HS.out _ _) _ _))) ?_ | refine st_of (bk_drew (bk_drew (bk_store (bk_store (bk_store HS.out _ _) _ _) _ _))) ?_ | refine st_of (bk_drew (bk_drew (bk_store (bk_store (bk_store (bk_store HS.out _ _) _ _) _ _) _ _))) ?_ | refine st_of (bk_drew (bk_drew (bk_store (bk_store (bk_store (bk_store (bk_store HS.out _ _) _ _) _ _) _ _) _ _))) ?_
      rfl
    · repeat' (first | with_reducible exact Only.refl _ _ | with_reducible refine Only.drew ?_ | with_reducible refine only_set ?_ _ _)
set_option maxRecDepth 100000 in
set_option maxHeartbeats 8000000 in
theorem pGoOn_any (C : Int) (g : Nat) (f : Ds) (hk : f.kind = 9 ∨ f.kind = 10 ∨ f.kind = 11) (hh : f.h ≤ 1) (hi : f.i ≤ 31) (w : World) (hs : StG C g f w) :
    Calls Tryd.prog 63 #[.pointer (some ⟨g, 0, none⟩)] w (TurnG C g (goOnG C f) w) := by
  by_cases hl : (f.i : Int) + 1 < C
  · have hX : goOnG C f = { f with i := f.i + 1 } := by unfold goOnG; rw [if_pos hl]
    rw [hX]
    unfold StG stG at hs
    have HS := Lib.hid hs
    have q0 := (Array.getElem?_eq_some_iff.1 hs).1
    obtain ⟨⟨r0, r1, r2, r3, r4, r5, r6, r7, r8, r9, r10, r11⟩, hf⟩ := cells12f hs
    clear hs
    obtain ⟨tg, k, seq, kind, a, b, pc, i, j, n, p, h, x, y⟩ := f
    simp only at *
    have i1 : IntKind.i64.wrap (i : Int) = (i : Int) := by rw [IntKind.wrap_i64]; omega
    have i2 : IntKind.u8.wrap ((i : Int) + 1) = ((i + 1 : Nat) : Int) := by rw [IntKind.wrap_u8]; omega
    have i3 : IntKind.i64.wrap ((i : Int) + 1) = (i : Int) + 1 := by rw [IntKind.wrap_i64]; omega
    clear hX hk hh
    go_enter Tryd.func63, Tryd.ntmps63
    go_wp2_with fail
    repeat (go_region; try go_wp2_with fail)
    refine bodyPost_ret (results_none rfl _ _ _) rfl ⟨rfl, ?_, ?_⟩
    · unfold StG
      with_reducible first | refine st_of HS.out ?_ | refine st_of (bk_store HS.out _ _) ?_ | refine st_of (bk_store (bk_store HS.out _ _) _ _) ?_ | refine st_of (bk_store (bk_store (bk_store HS.out _ _) _ _) _ _) ?_ | refine st_of (bk_store (bk_store (bk_store (bk_store HS.out _ _) _ _) _ _) _ _) ?_ | refine st_of (bk_store (bk_store (bk_store (bk_store (bk_store HS.out _ _) _ _) _ _) _ _) _ _) ?_ | refine st_of (bk_drew HS.out) ?_ | refine st_of (bk_drew (bk_store HS.out _ _)) ?_ | refine st_of (bk_drew (bk_store (bk_store HS.out _ _) _ _)) ?_ | refine st_of (bk_drew (bk_store (bk_store (bk_store HS.out _ _) _ _) _ _)) ?_ | refine st_of (bk_drew (bk_store (bk_store (bk_store (bk_store HS.out _ _) _ _) _ _) _ _)) ?_ | refine st_of (bk_drew (bk_store (bk_store (bk_store (bk_store (bk_store HS.out _ _) _ _) _ _) _ _) _ _)) ?_ | refine st_of (bk_drew (bk_drew HS.out)) ?_ | refine st_of (bk_drew (bk_drew (bk_store HS.out _ _))) ?_ | refine st_of (bk_drew (bk_drew (bk_store (bk_store HS.out _ _) _ _))) ?_ | refine st_of (bk_drew (bk_drew (bk_store (bk_store (bk_store HS.out _ _) _ _) _ _))) ?_ | refine st_of (bk_drew (bk_drew (bk_store (bk_store (bk_store (bk_store HS.out _ _) _ _) _ _) _ _))) ?_ | refine st_of (bk_drew (bk_drew (bk_store (bk_store (bk_store (bk_store (bk_store HS.out _ _) _ _) _ _) _ _) _ _))) ?_
      rfl
    · repeat' (first | with_reducible exact Only.refl _ _ | with_reducible refine Only.drew ?_ | with_reducible refine only_set ?_ _ _)
  · have hX : goOnG C f = endG f := by unfold goOnG; rw [if_neg hl]
    rw [hX]
    have HE := Lib.hid (fun W hs => pEnd_any C g f hk hh W hs)
    have HST := Lib.hid hs
    clear hX hk hh
    unfold StG stG at hs
    have HS := Lib.hid hs
    have q0 := (Array.getElem?_eq_some_iff.1 hs).1
    obtain ⟨⟨r0, r1, r2, r3, r4, r5, r6, r7, r8, r9, r10, r11⟩, hf⟩ := cells12f hs
    clear hs
    have i1 : IntKind.i64.wrap (f.i : Int) = (f.i : Int) := by rw [IntKind.wrap_i64]; omega
    have i3 : IntKind.i64.wrap ((f.i : Int) + 1) = (f.i : Int) + 1 := by rw [IntKind.wrap_i64]; omega
    go_enter Tryd.func63, Tryd.ntmps63
    go_wp2_with fail
    go_region
    go_wp2_with fail
    refine (HE.out w.drew HST.out).mono ?_
    rintro e w1 ⟨rfl, h1, h2⟩
    go_wp2_with fail
    exact bodyPost_end (results_none rfl _ _ _) rfl ⟨rfl, h1, (Only.drew (Only.refl _ _)).trans h2⟩
end Go.Proofs.YtljhcegkekdjgaaDoor
