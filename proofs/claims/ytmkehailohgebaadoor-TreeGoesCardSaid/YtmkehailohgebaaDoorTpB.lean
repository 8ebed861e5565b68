/- The program of an index, the program's own: what a step finds. -/
import Derived.Test.YtmkehailohgebaaDoorTpA
import Derived.Test.YtmkehailohgebaaDoorGTeR
import Derived.BigRegion
import Derived.BigQuiet
import Derived.Deep.DeepCutAuto
namespace Go.Proofs.YtmkehailohgebaaDoor
open Go.RowKit Go.Lib Pt Opn

set_option maxRecDepth 100000 in
set_option maxHeartbeats 8000000 in
theorem pTellX_any (c : Cf) (L : Value) (g : Nat) (f : Ds) (rk rv : Nat) (t : Bool) (hx : f.x < 4294967296) (hy : f.y < 4294967296) (w : World) (hs : StX c L g f rk rv t w) :
    Calls Tryd.prog 64 #[.pointer (some ⟨g, 0, none⟩)] w (TurnX c L g (f) f.x f.y true w) := by
  obtain ⟨X, hX⟩ : ∃ X, (f) = X := ⟨_, rfl⟩
  rw [hX]
  unfold StX stO at hs
  have HS := Lib.hid hs
  have q0 := (Array.getElem?_eq_some_iff.1 hs).1
  obtain ⟨⟨r0, r1, r2, r3, r4, r5, r6, r7, r8, r9, r10, r11, r12, r13, r14, r15, r16, r17⟩, hf⟩ := cells18 hs
  clear hs
  obtain ⟨tg, k, seq, kind, a, b, pc, i, j, n, p, h, x, y⟩ := f
  simp only at * 
  have x1 : IntKind.u64.wrap (x : Int) = (x : Int) := by rw [IntKind.wrap_u64]; omega
  have y1 : IntKind.u64.wrap (y : Int) = (y : Int) := by rw [IntKind.wrap_u64]; omega
  subst hX
  go_enter Tryd.func64, Tryd.ntmps64
  go_region
  refine bodyPost_end (results_none rfl _ _ _) rfl ⟨rfl, ?_, ?_⟩
  · unfold StX
    with_reducible first | refine st_of HS.out ?_ | refine st_of (bk_store HS.out _ _) ?_ | refine st_of (bk_store (bk_store HS.out _ _) _ _) ?_ | refine st_of (bk_store (bk_store (bk_store HS.out _ _) _ _) _ _) ?_ | refine st_of (bk_store (bk_store (bk_store (bk_store HS.out _ _) _ _) _ _) _ _) ?_ | refine st_of (bk_store (bk_store (bk_store (bk_store (bk_store HS.out _ _) _ _) _ _) _ _) _ _) ?_ | refine st_of (bk_drew HS.out) ?_ | refine st_of (bk_drew (bk_store HS.out _ _)) ?_ | refine st_of (bk_drew (bk_store (bk_store HS.out _ _) _ _)) ?_ | refine st_of (bk_drew (bk_store (bk_store (bk_store HS.out _ _) _ _) _ _)) ?_ | refine st_of (bk_drew (bk_store (bk_store (bk_store (bk_store HS.out _ _) _ _) _ _) _ _)) ?_ | refine st_of (bk_drew (bk_store (bk_store (bk_store (bk_store (bk_store HS.out _ _) _ _) _ _) _ _) _ _)) ?_ | refine st_of (bk_drew (bk_drew HS.out)) ?_ | refine st_of (bk_drew (bk_drew (bk_store HS.out _ _))) ?_ | refine st_of (bk_drew (bk_drew (bk_store (bk_store HS.out _ _) _ _))) ?_ | refine st_of (bk_drew (bk_drew (bk_store (bk_store (bk_store HS.out _ _) _ _) _ _))) ?_ | refine st_of (bk_drew (bk_drew (bk_store (bk_store (bk_store (bk_store HS.out _ _) _ _) _ _) _ _))) ?_ | refine st_of (bk_drew (bk_drew (bk_store (bk_store (bk_store (bk_store (bk_store HS.out _ _) _ _) _ _) _ _) _ _))) ?_
    rfl
  · repeat' (first | with_reducible exact Only.refl _ _ | with_reducible refine Only.drew ?_ | with_reducible refine only_set ?_ _ _)
set_option maxRecDepth 100000 in
set_option maxHeartbeats 8000000 in
theorem pTakeX_any (c : Cf) (L : Value) (g : Nat) (f : Ds) (rk rv : Nat) (t : Bool) (tt A B C : Nat) (w : World) (hs : StX c L g f rk rv t w) :
    Calls Tryd.prog 63 #[.pointer (some ⟨g, 0, none⟩), cvT tt A B C] w (TurnX c L g (overX f A B) rk rv t w) := by
  obtain ⟨X, hX⟩ : ∃ X, (overX f A B) = X := ⟨_, rfl⟩
  rw [hX]
  unfold overX at hX
  unfold cvT
  unfold StX stO at hs
  have HS := Lib.hid hs
  have q0 := (Array.getElem?_eq_some_iff.1 hs).1
  obtain ⟨⟨r0, r1, r2, r3, r4, r5, r6, r7, r8, r9, r10, r11, r12, r13, r14, r15, r16, r17⟩, hf⟩ := cells18 hs
  clear hs
  obtain ⟨tg, k, seq, kind, a, b, pc, i, j, n, p, h, x, y⟩ := f
  simp only at * 
  have e1 : IntKind.u32.wrap (A : Int) = ((A % 4294967296 : Nat) : Int) := by rw [IntKind.wrap_u32]; omega
  have e2 : IntKind.u32.wrap (B : Int) = ((B % 4294967296 : Nat) : Int) := by rw [IntKind.wrap_u32]; omega
  generalize A % 4294967296 = u1 at *
  generalize B % 4294967296 = u2 at *
  subst hX
  go_enter Tryd.func63, Tryd.ntmps63
  go_upto_region 1 with fail
  refine enter1 fun W hb g0 qq => ?_
  have HG := Lib.hid (blk_below HS.out hb)
  have HB := Lib.hid (Only.of_below (fun k => k = g) hb)
  have hne : w.heap.size ≠ g := by omega
  have hG := HG.out
  clear r0 r1 r2 r3 r4 r5 r6 r7 r8 r9 r10 r11 r12 r13 r14 r15 r16 r17 hf hb
  obtain ⟨⟨r0, r1, r2, r3, r4, r5, r6, r7, r8, r9, r10, r11, r12, r13, r14, r15, r16, r17⟩, hf⟩ := cells18 hG
  clear hG
  have q1 : g < W.heap.size := by omega
  obtain ⟨u0, u1, u2, u3⟩ := cells4p g0
  clear g0
  go_region
  go_wp2_with fail
  refine bodyPost_end (results_none rfl _ _ _) rfl ⟨rfl, ?_, ?_⟩
  · unfold StX
    with_reducible first | refine st_of HG.out ?_ | refine st_of (bk_store HG.out _ _) ?_ | refine st_of (bk_store (bk_store HG.out _ _) _ _) ?_ | refine st_of (bk_store (bk_store (bk_store HG.out _ _) _ _) _ _) ?_ | refine st_of (bk_store (bk_store (bk_store (bk_store HG.out _ _) _ _) _ _) _ _) ?_ | refine st_of (bk_store (bk_store (bk_store (bk_store (bk_store HG.out _ _) _ _) _ _) _ _) _ _) ?_ | refine st_of (bk_drew HG.out) ?_ | refine st_of (bk_drew (bk_store HG.out _ _)) ?_ | refine st_of (bk_drew (bk_store (bk_store HG.out _ _) _ _)) ?_ | refine st_of (bk_drew (bk_store (bk_store (bk_store HG.out _ _) _ _) _ _)) ?_ | refine st_of (bk_drew (bk_store (bk_store (bk_store (bk_store HG.out _ _) _ _) _ _) _ _)) ?_ | refine st_of (bk_drew (bk_store (bk_store (bk_store (bk_store (bk_store HG.out _ _) _ _) _ _) _ _) _ _)) ?_ | refine st_of (bk_drew (bk_drew HG.out)) ?_ | refine st_of (bk_drew (bk_drew (bk_store HG.out _ _))) ?_ | refine st_of (bk_drew (bk_drew (bk_store (bk_store HG.out _ _) _ _))) ?_ | refine st_of (bk_drew (bk_drew (bk_store (bk_store (bk_store HG.out _ _) _ _) _ _))) ?_ | refine st_of (bk_drew (bk_drew (bk_store (bk_store (bk_store (bk_store HG.out _ _) _ _) _ _) _ _))) ?_ | refine st_of (bk_drew (bk_drew (bk_store (bk_store (bk_store (bk_store (bk_store HG.out _ _) _ _) _ _) _ _) _ _))) ?_
    rfl
  · repeat' (first | with_reducible exact HB.out | with_reducible refine Only.drew ?_ | with_reducible refine only_set ?_ _ _)
set_option maxRecDepth 100000 in
set_option maxHeartbeats 8000000 in
theorem pPutIn_any (c : Cf) (L : Value) (g : Nat) (f : Ds) (rk rv : Nat) (t : Bool) (hn : f.n < 256) (w : World) (hs : StX c L g f rk rv t w) :
    Calls Tryd.prog 141 #[.pointer (some ⟨g, 0, none⟩)] w (TurnX c L g (freshX c f) rk rv t w) := by
  obtain ⟨X, hX⟩ : ∃ X, (freshX c f) = X := ⟨_, rfl⟩
  rw [hX]
  unfold freshX at hX
  unfold StX stO at hs
  have HS := Lib.hid hs
  have q0 := (Array.getElem?_eq_some_iff.1 hs).1
  obtain ⟨⟨r0, r1, r2, r3, r4, r5, r6, r7, r8, r9, r10, r11, r12, r13, r14, r15, r16, r17⟩, hf⟩ := cells18 hs
  clear hs
  obtain ⟨tg, k, seq, kind, a, b, pc, i, j, n, p, h, x, y⟩ := f
  simp only at * 
  by_cases e1 : c.cap ≤ (n : Int)
  · rw [if_pos e1] at hX
    subst hX
    go_enter Tryd.func141, Tryd.ntmps141
    go_wp2_with fail
    repeat (go_region; try go_wp2_with fail)
    refine bodyPost_end (results_none rfl _ _ _) rfl ⟨rfl, ?_, ?_⟩
    · unfold StX
      with_reducible first | refine st_of HS.out ?_ | refine st_of (bk_store HS.out _ _) ?_ | refine st_of (bk_store (bk_store HS.out _ _) _ _) ?_ | refine st_of (bk_store (bk_store (bk_store HS.out _ _) _ _) _ _) ?_ | refine st_of (bk_store (bk_store (bk_store (bk_store HS.out _ _) _ _) _ _) _ _) ?_ | refine st_of (bk_store (bk_store (bk_store (bk_store (bk_store HS.out _ _) _ _) _ _) _ _) _ _) ?_ | refine st_of (bk_drew HS.out) ?_ | refine st_of (bk_drew (bk_store HS.out _ _)) ?_ | refine st_of (bk_drew (bk_store (bk_store HS.out _ _) _ _)) ?_ | refine st_of (bk_drew (bk_store (bk_store (bk_store HS.out _ _) _ _) _ _)) ?_ | refine st_of (bk_drew (bk_store (bk_store (bk_store (bk_store HS.out _ _) _ _) _ _) _ _)) ?_ | refine st_of (bk_drew (bk_store (bk_store (bk_store (bk_store (bk_store HS.out _ _) _ _) _ _) _ _) _ _)) ?_ | refine st_of (bk_drew (bk_drew HS.out)) ?_ | refine st_of (bk_drew (bk_drew (bk_store HS.out _ _))) ?_ | refine st_of (bk_drew (bk_drew (bk_store (bk_store HS.out _ _) _ _))) ?_ | refine st_of (bk_drew (bk_drew (bk_store (bk_store (bk_store HS.out _ _) _ _) _ _))) ?_ | refine st_of (bk_drew (bk_drew (bk_store (bk_store (bk_store (bk_store HS.out _ _) _ _) _ _) _ _))) ?_ | refine st_of (bk_drew (bk_drew (bk_store (bk_store (bk_store (bk_store (bk_store HS.out _ _) _ _) _ _) _ _) _ _))) ?_
      rfl
    · repeat' (first | with_reducible exact Only.refl _ _ | with_reducible refine Only.drew ?_ | with_reducible refine only_set ?_ _ _)
  · rw [if_neg e1] at hX
    by_cases e2 : n ≤ p
    · rw [if_pos e2] at hX
      have e3 : (n : Int) ≤ (p : Int) := by omega
      clear e2
      subst hX
      go_enter Tryd.func141, Tryd.ntmps141
      go_wp2_with fail
      repeat (go_region; try go_wp2_with fail)
      refine bodyPost_end (results_none rfl _ _ _) rfl ⟨rfl, ?_, ?_⟩
      · unfold StX
        with_reducible first | refine st_of HS.out ?_ | refine st_of (bk_store HS.out _ _) ?_ | refine st_of (bk_store (bk_store HS.out _ _) _ _) ?_ | refine st_of (bk_store (bk_store (bk_store HS.out _ _) _ _) _ _) ?_ | refine st_of (bk_store (bk_store (bk_store (bk_store HS.out _ _) _ _) _ _) _ _) ?_ | refine st_of (bk_store (bk_store (bk_store (bk_store (bk_store HS.out _ _) _ _) _ _) _ _) _ _) ?_ | refine st_of (bk_drew HS.out) ?_ | refine st_of (bk_drew (bk_store HS.out _ _)) ?_ | refine st_of (bk_drew (bk_store (bk_store HS.out _ _) _ _)) ?_ | refine st_of (bk_drew (bk_store (bk_store (bk_store HS.out _ _) _ _) _ _)) ?_ | refine st_of (bk_drew (bk_store (bk_store (bk_store (bk_store HS.out _ _) _ _) _ _) _ _)) ?_ | refine st_of (bk_drew (bk_store (bk_store (bk_store (bk_store (bk_store HS.out _ _) _ _) _ _) _ _) _ _)) ?_ | refine st_of (bk_drew (bk_drew HS.out)) ?_ | refine st_of (bk_drew (bk_drew (bk_store HS.out _ _))) ?_ | refine st_of (bk_drew (bk_drew (bk_store (bk_store HS.out _ _) _ _))) ?_ | refine st_of (bk_drew (bk_drew (bk_store (bk_store (bk_store HS.out _ _) _ _) _ _))) ?_ | refine st_of (bk_drew (bk_drew (bk_store (bk_store (bk_store (bk_store HS.out _ _) _ _) _ _) _ _))) ?_ | refine st_of (bk_drew (bk_drew (bk_store (bk_store (bk_store (bk_store (bk_store HS.out _ _) _ _) _ _) _ _) _ _))) ?_
        rfl
      · repeat' (first | with_reducible exact Only.refl _ _ | with_reducible refine Only.drew ?_ | with_reducible refine only_set ?_ _ _)
    · rw [if_neg e2] at hX
      have e3 : ¬ (n : Int) ≤ (p : Int) := by omega
      clear e2
      subst hX
      go_enter Tryd.func141, Tryd.ntmps141
      go_wp2_with fail
      repeat (go_region; try go_wp2_with fail)
      refine bodyPost_end (results_none rfl _ _ _) rfl ⟨rfl, ?_, ?_⟩
      · unfold StX
        with_reducible first | refine st_of HS.out ?_ | refine st_of (bk_store HS.out _ _) ?_ | refine st_of (bk_store (bk_store HS.out _ _) _ _) ?_ | refine st_of (bk_store (bk_store (bk_store HS.out _ _) _ _) _ _) ?_ | refine st_of (bk_store (bk_store (bk_store (bk_store HS.out _ _) _ _) _ _) _ _) ?_ | refine st_of (bk_store (bk_store (bk_store (bk_store (bk_store HS.out _ _) _ _) _ _) _ _) _ _) ?_ | refine st_of (bk_drew HS.out) ?_ | refine st_of (bk_drew (bk_store HS.out _ _)) ?_ | refine st_of (bk_drew (bk_store (bk_store HS.out _ _) _ _)) ?_ | refine st_of (bk_drew (bk_store (bk_store (bk_store HS.out _ _) _ _) _ _)) ?_ | refine st_of (bk_drew (bk_store (bk_store (bk_store (bk_store HS.out _ _) _ _) _ _) _ _)) ?_ | refine st_of (bk_drew (bk_store (bk_store (bk_store (bk_store (bk_store HS.out _ _) _ _) _ _) _ _) _ _)) ?_ | refine st_of (bk_drew (bk_drew HS.out)) ?_ | refine st_of (bk_drew (bk_drew (bk_store HS.out _ _))) ?_ | refine st_of (bk_drew (bk_drew (bk_store (bk_store HS.out _ _) _ _))) ?_ | refine st_of (bk_drew (bk_drew (bk_store (bk_store (bk_store HS.out _ _) _ _) _ _))) ?_ | refine st_of (bk_drew (bk_drew (bk_store (bk_store (bk_store (bk_store HS.out _ _) _ _) _ _) _ _))) ?_ | refine st_of (bk_drew (bk_drew (bk_store (bk_store (bk_store (bk_store (bk_store HS.out _ _) _ _) _ _) _ _) _ _))) ?_
        rfl
      · repeat' (first | with_reducible exact Only.refl _ _ | with_reducible refine Only.drew ?_ | with_reducible refine only_set ?_ _ _)
set_option maxRecDepth 100000 in
set_option maxHeartbeats 8000000 in
theorem pTakeOut_any (c : Cf) (L : Value) (g : Nat) (f : Ds) (rk rv : Nat) (t : Bool) (hp : f.p < 255) (w : World) (hs : StX c L g f rk rv t w) :
    Calls Tryd.prog 142 #[.pointer (some ⟨g, 0, none⟩)] w (TurnX c L g (if f.n ≤ f.p + 1 then { f with b := (f.y + 1) % 4294967296, pc := 15 } else { f with b := (f.y + 1) % 4294967296, i := f.p + 1, pc := 13 }) rk rv t w) := by
  obtain ⟨X, hX⟩ : ∃ X, (if f.n ≤ f.p + 1 then { f with b := (f.y + 1) % 4294967296, pc := 15 } else { f with b := (f.y + 1) % 4294967296, i := f.p + 1, pc := 13 }) = X := ⟨_, rfl⟩
  rw [hX]
  unfold StX stO at hs
  have HS := Lib.hid hs
  have q0 := (Array.getElem?_eq_some_iff.1 hs).1
  obtain ⟨⟨r0, r1, r2, r3, r4, r5, r6, r7, r8, r9, r10, r11, r12, r13, r14, r15, r16, r17⟩, hf⟩ := cells18 hs
  clear hs
  obtain ⟨tg, k, seq, kind, a, b, pc, i, j, n, p, h, x, y⟩ := f
  simp only at * 
  have p1 : IntKind.u8.wrap ((p : Int) + 1) = (p : Int) + 1 := by rw [IntKind.wrap_u8]; omega
  have y1 : IntKind.u32.wrap ((y : Int) + 1) = (((y + 1) % 4294967296 : Nat) : Int) := by rw [IntKind.wrap_u32]; omega
  generalize (y + 1) % 4294967296 = z at *
  by_cases e1 : n ≤ p + 1
  · rw [if_pos e1] at hX
    have e2 : (n : Int) ≤ (p : Int) + 1 := by omega
    clear e1
    subst hX
    go_enter Tryd.func142, Tryd.ntmps142
    go_wp2_with fail
    repeat (go_region; try go_wp2_with fail)
    refine bodyPost_ret (results_none rfl _ _ _) rfl ⟨rfl, ?_, ?_⟩
    · unfold StX
      with_reducible first | refine st_of HS.out ?_ | refine st_of (bk_store HS.out _ _) ?_ | refine st_of (bk_store (bk_store HS.out _ _) _ _) ?_ | refine st_of (bk_store (bk_store (bk_store HS.out _ _) _ _) _ _) ?_ | refine st_of (bk_store (bk_store (bk_store (bk_store HS.out _ _) _ _) _ _) _ _) ?_ | refine st_of (bk_store (bk_store (bk_store (bk_store (bk_store HS.out _ _) _ _) _ _) _ _) _ _) ?_ | refine st_of (bk_drew HS.out) ?_ | refine st_of (bk_drew (bk_store HS.out _ _)) ?_ | refine st_of (bk_drew (bk_store (bk_store HS.out _ _) _ _)) ?_ | refine st_of (bk_drew (bk_store (bk_store (bk_store HS.out _ _) _ _) _ _)) ?_ | refine st_of (bk_drew (bk_store (bk_store (bk_store (bk_store HS.out _ _) _ _) _ _) _ _)) ?_ | refine st_of (bk_drew (bk_store (bk_store (bk_store (bk_store (bk_store HS.out _ _) _ _) _ _) _ _) _ _)) ?_ | refine st_of (bk_drew (bk_drew HS.out)) ?_ | refine st_of (bk_drew (bk_drew (bk_store HS.out _ _))) ?_ | refine st_of (bk_drew (bk_drew (bk_store (bk_store HS.out _ _) _ _))) ?_ | refine st_of (bk_drew (bk_drew (bk_store (bk_store (bk_store HS.out _ _) _ _) _ _))) ?_ | refine st_of (bk_drew (bk_drew (bk_store (bk_store (bk_store (bk_store HS.out _ _) _ _) _ _) _ _))) ?_ | refine st_of (bk_drew (bk_drew (bk_store (bk_store (bk_store (bk_store (bk_store HS.out _ _) _ _) _ _) _ _) _ _))) ?_
      rfl
    · repeat' (first | with_reducible exact Only.refl _ _ | with_reducible refine Only.drew ?_ | with_reducible refine only_set ?_ _ _)
  · rw [if_neg e1] at hX
    have e2 : ¬ (n : Int) ≤ (p : Int) + 1 := by omega
    clear e1
    subst hX
    go_enter Tryd.func142, Tryd.ntmps142
    go_wp2_with fail
    repeat (go_region; try go_wp2_with fail)
    refine bodyPost_end (results_none rfl _ _ _) rfl ⟨rfl, ?_, ?_⟩
    · unfold StX
      with_reducible first | refine st_of HS.out ?_ | refine st_of (bk_store HS.out _ _) ?_ | refine st_of (bk_store (bk_store HS.out _ _) _ _) ?_ | refine st_of (bk_store (bk_store (bk_store HS.out _ _) _ _) _ _) ?_ | refine st_of (bk_store (bk_store (bk_store (bk_store HS.out _ _) _ _) _ _) _ _) ?_ | refine st_of (bk_store (bk_store (bk_store (bk_store (bk_store HS.out _ _) _ _) _ _) _ _) _ _) ?_ | refine st_of (bk_drew HS.out) ?_ | refine st_of (bk_drew (bk_store HS.out _ _)) ?_ | refine st_of (bk_drew (bk_store (bk_store HS.out _ _) _ _)) ?_ | refine st_of (bk_drew (bk_store (bk_store (bk_store HS.out _ _) _ _) _ _)) ?_ | refine st_of (bk_drew (bk_store (bk_store (bk_store (bk_store HS.out _ _) _ _) _ _) _ _)) ?_ | refine st_of (bk_drew (bk_store (bk_store (bk_store (bk_store (bk_store HS.out _ _) _ _) _ _) _ _) _ _)) ?_ | refine st_of (bk_drew (bk_drew HS.out)) ?_ | refine st_of (bk_drew (bk_drew (bk_store HS.out _ _))) ?_ | refine st_of (bk_drew (bk_drew (bk_store (bk_store HS.out _ _) _ _))) ?_ | refine st_of (bk_drew (bk_drew (bk_store (bk_store (bk_store HS.out _ _) _ _) _ _))) ?_ | refine st_of (bk_drew (bk_drew (bk_store (bk_store (bk_store (bk_store HS.out _ _) _ _) _ _) _ _))) ?_ | refine st_of (bk_drew (bk_drew (bk_store (bk_store (bk_store (bk_store (bk_store HS.out _ _) _ _) _ _) _ _) _ _))) ?_
      rfl
    · repeat' (first | with_reducible exact Only.refl _ _ | with_reducible refine Only.drew ?_ | with_reducible refine only_set ?_ _ _)
theorem nextOne_x (f : Ds) : (nextOne f).x = f.x := by unfold nextOne; split <;> rfl
theorem nextOne_y (f : Ds) : (nextOne f).y = f.y := by unfold nextOne; split <;> rfl
set_option maxRecDepth 100000 in
set_option maxHeartbeats 8000000 in
theorem pScanX_any (c : Cf) (L : Value) (g : Nat) (f : Ds)  (hn : f.n < 256) (hp : f.p < 255) (hj : f.j < 255) (hx : f.x < 4294967296) (hy : f.y < 4294967296) (w : World) (hs : StX c L g f 0 0 false w) :
    Calls Tryd.prog 70 #[.pointer (some ⟨g, 0, none⟩)] w (TurnX c L g (onX c f).1 (toldX (onX c f)).1 (toldX (onX c f)).2 (onX c f).2 w) := by
  obtain ⟨X, hX⟩ : ∃ X, (onX c f) = X := ⟨_, rfl⟩
  rw [hX]
  unfold onX at hX
  unfold StX stO at hs
  have HS := Lib.hid hs
  have q0 := (Array.getElem?_eq_some_iff.1 hs).1
  obtain ⟨⟨r0, r1, r2, r3, r4, r5, r6, r7, r8, r9, r10, r11, r12, r13, r14, r15, r16, r17⟩, hf⟩ := cells18 hs
  clear hs
  obtain ⟨tg, k, seq, kind, a, b, pc, i, j, n, p, h, x, y⟩ := f
  simp only at * 
  have j1 : IntKind.u8.wrap ((j : Int) + 1) = (j : Int) + 1 := by rw [IntKind.wrap_u8]; omega
  by_cases e1 : b < x
  · rw [if_pos e1] at hX
    have e2 : (b : Int) < (x : Int) := by omega
    clear e1
    subst hX
    go_enter Tryd.func70, Tryd.ntmps70
    go_wp2_with fail
    repeat (go_region; try go_wp2_with fail)
    refine bodyPost_ret (results_none rfl _ _ _) rfl ⟨rfl, ?_, ?_⟩
    · unfold StX
      with_reducible first | refine st_of HS.out ?_ | refine st_of (bk_store HS.out _ _) ?_ | refine st_of (bk_store (bk_store HS.out _ _) _ _) ?_ | refine st_of (bk_store (bk_store (bk_store HS.out _ _) _ _) _ _) ?_ | refine st_of (bk_store (bk_store (bk_store (bk_store HS.out _ _) _ _) _ _) _ _) ?_ | refine st_of (bk_store (bk_store (bk_store (bk_store (bk_store HS.out _ _) _ _) _ _) _ _) _ _) ?_ | refine st_of (bk_drew HS.out) ?_ | refine st_of (bk_drew (bk_store HS.out _ _)) ?_ | refine st_of (bk_drew (bk_store (bk_store HS.out _ _) _ _)) ?_ | refine st_of (bk_drew (bk_store (bk_store (bk_store HS.out _ _) _ _) _ _)) ?_ | refine st_of (bk_drew (bk_store (bk_store (bk_store (bk_store HS.out _ _) _ _) _ _) _ _)) ?_ | refine st_of (bk_drew (bk_store (bk_store (bk_store (bk_store (bk_store HS.out _ _) _ _) _ _) _ _) _ _)) ?_ | refine st_of (bk_drew (bk_drew HS.out)) ?_ | refine st_of (bk_drew (bk_drew (bk_store HS.out _ _))) ?_ | refine st_of (bk_drew (bk_drew (bk_store (bk_store HS.out _ _) _ _))) ?_ | refine st_of (bk_drew (bk_drew (bk_store (bk_store (bk_store HS.out _ _) _ _) _ _))) ?_ | refine st_of (bk_drew (bk_drew (bk_store (bk_store (bk_store (bk_store HS.out _ _) _ _) _ _) _ _))) ?_ | refine st_of (bk_drew (bk_drew (bk_store (bk_store (bk_store (bk_store (bk_store HS.out _ _) _ _) _ _) _ _) _ _))) ?_
      rfl
    · repeat' (first | with_reducible exact Only.refl _ _ | with_reducible refine Only.drew ?_ | with_reducible refine only_set ?_ _ _)
  · rw [if_neg e1] at hX
    have e2 : ¬ (b : Int) < (x : Int) := by omega
    clear e1
    by_cases e2 : c.chunk ≤ (j + 1 : Int)
    · rw [if_pos e2] at hX
      subst hX
      go_enter Tryd.func70, Tryd.ntmps70
      go_wp2_with fail
      repeat (go_region; try go_wp2_with fail)
      go_wp2_with (go_at_call 64; refine (pTellX_any c L g ⟨tg, k, seq, kind, a, b, pc, i, j, n, p, h, x, y⟩ 0 0 false hx hy _ (by unfold StX; (with_reducible first | refine st_of HS.out ?_ | refine st_of (bk_store HS.out _ _) ?_ | refine st_of (bk_store (bk_store HS.out _ _) _ _) ?_ | refine st_of (bk_store (bk_store (bk_store HS.out _ _) _ _) _ _) ?_ | refine st_of (bk_store (bk_store (bk_store (bk_store HS.out _ _) _ _) _ _) _ _) ?_ | refine st_of (bk_drew HS.out) ?_ | refine st_of (bk_drew (bk_store HS.out _ _)) ?_ | refine st_of (bk_drew (bk_store (bk_store HS.out _ _) _ _)) ?_ | refine st_of (bk_drew (bk_store (bk_store (bk_store HS.out _ _) _ _) _ _)) ?_ | refine st_of (bk_drew (bk_store (bk_store (bk_store (bk_store HS.out _ _) _ _) _ _) _ _)) ?_); rfl)).mono ?_; rintro e W1 ⟨rfl, h1, o1⟩; have HO1 := Lib.hid (Only.trans (C := fun k => k = g) (A := w) (by repeat' (first | with_reducible exact Only.refl _ _ | with_reducible refine Only.drew ?_ | with_reducible refine only_set ?_ _ _)) o1); unfold StX stO at h1; have HS1 := Lib.hid h1; simp only at h1; obtain ⟨⟨s1_0, s1_1, s1_2, s1_3, s1_4, s1_5, s1_6, s1_7, s1_8, s1_9, s1_10, s1_11, s1_12, s1_13, s1_14, s1_15, s1_16, s1_17⟩, hf1⟩ := cells18 h1; clear h1 o1; have q1 : g < W1.heap.size := (Array.getElem?_eq_some_iff.1 HS1.out).1)
      repeat (go_region; try go_wp2_with fail)
      refine bodyPost_ret (results_none rfl _ _ _) rfl ⟨rfl, ?_, ?_⟩
      · unfold StX
        with_reducible first | refine st_of HS1.out ?_ | refine st_of (bk_store HS1.out _ _) ?_ | refine st_of (bk_store (bk_store HS1.out _ _) _ _) ?_ | refine st_of (bk_store (bk_store (bk_store HS1.out _ _) _ _) _ _) ?_ | refine st_of (bk_store (bk_store (bk_store (bk_store HS1.out _ _) _ _) _ _) _ _) ?_ | refine st_of (bk_store (bk_store (bk_store (bk_store (bk_store HS1.out _ _) _ _) _ _) _ _) _ _) ?_ | refine st_of (bk_drew HS1.out) ?_ | refine st_of (bk_drew (bk_store HS1.out _ _)) ?_ | refine st_of (bk_drew (bk_store (bk_store HS1.out _ _) _ _)) ?_ | refine st_of (bk_drew (bk_store (bk_store (bk_store HS1.out _ _) _ _) _ _)) ?_ | refine st_of (bk_drew (bk_store (bk_store (bk_store (bk_store HS1.out _ _) _ _) _ _) _ _)) ?_ | refine st_of (bk_drew (bk_store (bk_store (bk_store (bk_store (bk_store HS1.out _ _) _ _) _ _) _ _) _ _)) ?_ | refine st_of (bk_drew (bk_drew HS1.out)) ?_ | refine st_of (bk_drew (bk_drew (bk_store HS1.out _ _))) ?_ | refine st_of (bk_drew (bk_drew (bk_store (bk_store HS1.out _ _) _ _))) ?_ | refine st_of (bk_drew (bk_drew (bk_store (bk_store (bk_store HS1.out _ _) _ _) _ _))) ?_ | refine st_of (bk_drew (bk_drew (bk_store (bk_store (bk_store (bk_store HS1.out _ _) _ _) _ _) _ _))) ?_ | refine st_of (bk_drew (bk_drew (bk_store (bk_store (bk_store (bk_store (bk_store HS1.out _ _) _ _) _ _) _ _) _ _))) ?_
        rfl
      · repeat' (first | with_reducible exact HO1.out | with_reducible refine Only.drew ?_ | with_reducible refine only_set ?_ _ _)
    · rw [if_neg e2] at hX
      subst hX
      go_enter Tryd.func70, Tryd.ntmps70
      go_wp2_with fail
      repeat (go_region; try go_wp2_with fail)
      go_wp2_with (go_at_call 64; refine (pTellX_any c L g ⟨tg, k, seq, kind, a, b, pc, i, j, n, p, h, x, y⟩ 0 0 false hx hy _ (by unfold StX; (with_reducible first | refine st_of HS.out ?_ | refine st_of (bk_store HS.out _ _) ?_ | refine st_of (bk_store (bk_store HS.out _ _) _ _) ?_ | refine st_of (bk_store (bk_store (bk_store HS.out _ _) _ _) _ _) ?_ | refine st_of (bk_store (bk_store (bk_store (bk_store HS.out _ _) _ _) _ _) _ _) ?_ | refine st_of (bk_drew HS.out) ?_ | refine st_of (bk_drew (bk_store HS.out _ _)) ?_ | refine st_of (bk_drew (bk_store (bk_store HS.out _ _) _ _)) ?_ | refine st_of (bk_drew (bk_store (bk_store (bk_store HS.out _ _) _ _) _ _)) ?_ | refine st_of (bk_drew (bk_store (bk_store (bk_store (bk_store HS.out _ _) _ _) _ _) _ _)) ?_); rfl)).mono ?_; rintro e W1 ⟨rfl, h1, o1⟩; have HO1 := Lib.hid (Only.trans (C := fun k => k = g) (A := w) (by repeat' (first | with_reducible exact Only.refl _ _ | with_reducible refine Only.drew ?_ | with_reducible refine only_set ?_ _ _)) o1); unfold StX stO at h1; have HS1 := Lib.hid h1; simp only at h1; obtain ⟨⟨s1_0, s1_1, s1_2, s1_3, s1_4, s1_5, s1_6, s1_7, s1_8, s1_9, s1_10, s1_11, s1_12, s1_13, s1_14, s1_15, s1_16, s1_17⟩, hf1⟩ := cells18 h1; clear h1 o1; have q1 : g < W1.heap.size := (Array.getElem?_eq_some_iff.1 HS1.out).1)
      repeat (go_region; try go_wp2_with fail)
      go_wp2_with (go_at_call 69; refine (pNextRow_any c L g ⟨tg, k, seq, kind, a, b, pc, i, (j + 1), n, p, h, x, y⟩ x y true hp _ (by unfold StX; (with_reducible first | refine st_of HS1.out ?_ | refine st_of (bk_store HS1.out _ _) ?_ | refine st_of (bk_store (bk_store HS1.out _ _) _ _) ?_ | refine st_of (bk_store (bk_store (bk_store HS1.out _ _) _ _) _ _) ?_ | refine st_of (bk_store (bk_store (bk_store (bk_store HS1.out _ _) _ _) _ _) _ _) ?_ | refine st_of (bk_drew HS1.out) ?_ | refine st_of (bk_drew (bk_store HS1.out _ _)) ?_ | refine st_of (bk_drew (bk_store (bk_store HS1.out _ _) _ _)) ?_ | refine st_of (bk_drew (bk_store (bk_store (bk_store HS1.out _ _) _ _) _ _)) ?_ | refine st_of (bk_drew (bk_store (bk_store (bk_store (bk_store HS1.out _ _) _ _) _ _) _ _)) ?_); rfl)).mono ?_; rintro e W2 ⟨rfl, h2, o2⟩; have HO2 := Lib.hid (Only.trans (C := fun k => k = g) (A := w) (by repeat' (first | with_reducible exact HO1.out | with_reducible refine Only.drew ?_ | with_reducible refine only_set ?_ _ _)) o2); have HT2 := Lib.hid h2; clear h2 o2)
      refine bodyPost_end (results_none rfl _ _ _) rfl ⟨rfl, ?_, ?_⟩
      · show StX c L g (nextOne ⟨tg, k, seq, kind, a, b, pc, i, (j + 1), n, p, h, x, y⟩) (nextOne ⟨tg, k, seq, kind, a, b, pc, i, (j + 1), n, p, h, x, y⟩).x (nextOne ⟨tg, k, seq, kind, a, b, pc, i, (j + 1), n, p, h, x, y⟩).y true W2
        rw [nextOne_x, nextOne_y]
        exact HT2.out
      · exact HO2.out
/-- Where no entry has the key. -/
def missX (c : Cf) (f : Ds) : Ds := if f.kind = 4 then freshX c f else if f.kind = 8 then { f with pc := 20 } else if f.kind = 7 ∧ 0 < f.p then { f with pc := 3 } else { f with pc := 21 }
theorem noneX_miss (c : Cf) (f : Ds) : noneX c f = missX c { f with p := f.n } := rfl
theorem found_miss {c : Cf} {f : Ds} (hk : f.kind = 4 ∨ f.kind = 5 ∨ f.kind = 6 ∨ f.kind = 7) (hx : f.x ≠ f.a) : foundX c f = (missX c f, false) := by
  unfold foundX missX
  rcases hk with e | e | e | e <;> simp only [e, if_neg hx] <;> simp <;> split <;> rfl
set_option maxRecDepth 100000 in
set_option maxHeartbeats 8000000 in
theorem pMiss_any (c : Cf) (L : Value) (g : Nat) (f : Ds) (rk rv : Nat) (t : Bool) (hk : f.kind = 4 ∨ f.kind = 5 ∨ f.kind = 6 ∨ f.kind = 7 ∨ f.kind = 8) (hn : f.n < 256) (w : World) (hs : StX c L g f rk rv t w) :
    Calls Tryd.prog 126 #[.pointer (some ⟨g, 0, none⟩)] w (TurnX c L g (missX c f) rk rv t w) := by
  obtain ⟨X, hX⟩ : ∃ X, (missX c f) = X := ⟨_, rfl⟩
  rw [hX]
  unfold missX at hX
  unfold StX stO at hs
  have HS := Lib.hid hs
  have q0 := (Array.getElem?_eq_some_iff.1 hs).1
  obtain ⟨⟨r0, r1, r2, r3, r4, r5, r6, r7, r8, r9, r10, r11, r12, r13, r14, r15, r16, r17⟩, hf⟩ := cells18 hs
  clear hs
  obtain ⟨tg, k, seq, kind, a, b, pc, i, j, n, p, h, x, y⟩ := f
  simp only at * 
  rcases hk with rfl | rfl | rfl | rfl | rfl
  · rw [if_pos rfl] at hX
    subst hX
    have qk : ((4 : Nat) : Int) = 4 := rfl
    rw [qk] at *
    clear qk
    go_enter Tryd.func126, Tryd.ntmps126
    go_wp2_with fail
    go_wp2_with (go_at_call 141; refine (pPutIn_any c L g ⟨tg, k, seq, 4, a, b, pc, i, j, n, p, h, x, y⟩ rk rv t hn _ (by unfold StX; (with_reducible first | refine st_of HS.out ?_ | refine st_of (bk_store HS.out _ _) ?_ | refine st_of (bk_store (bk_store HS.out _ _) _ _) ?_ | refine st_of (bk_store (bk_store (bk_store HS.out _ _) _ _) _ _) ?_ | refine st_of (bk_store (bk_store (bk_store (bk_store HS.out _ _) _ _) _ _) _ _) ?_ | refine st_of (bk_drew HS.out) ?_ | refine st_of (bk_drew (bk_store HS.out _ _)) ?_ | refine st_of (bk_drew (bk_store (bk_store HS.out _ _) _ _)) ?_ | refine st_of (bk_drew (bk_store (bk_store (bk_store HS.out _ _) _ _) _ _)) ?_ | refine st_of (bk_drew (bk_store (bk_store (bk_store (bk_store HS.out _ _) _ _) _ _) _ _)) ?_); rfl)).mono ?_; rintro e W1 ⟨rfl, h1, o1⟩; have HO1 := Lib.hid (Only.trans (C := fun k => k = g) (A := w) (by repeat' (first | with_reducible exact Only.refl _ _ | with_reducible refine Only.drew ?_ | with_reducible refine only_set ?_ _ _)) o1); have HT1 := Lib.hid h1; clear h1 o1)
    refine bodyPost_end (results_none rfl _ _ _) rfl ⟨rfl, ?_, ?_⟩
    · exact HT1.out
    · exact HO1.out
  · rw [if_neg (by decide), if_neg (by decide), if_neg (fun e => absurd e.1 (by decide))] at hX
    subst hX
    have qk : ((5 : Nat) : Int) = 5 := rfl
    rw [qk] at *
    clear qk
    go_enter Tryd.func126, Tryd.ntmps126
    go_wp2_with fail
    refine bodyPost_end (results_none rfl _ _ _) rfl ⟨rfl, ?_, ?_⟩
    · unfold StX
      with_reducible first | refine st_of HS.out ?_ | refine st_of (bk_store HS.out _ _) ?_ | refine st_of (bk_store (bk_store HS.out _ _) _ _) ?_ | refine st_of (bk_store (bk_store (bk_store HS.out _ _) _ _) _ _) ?_ | refine st_of (bk_store (bk_store (bk_store (bk_store HS.out _ _) _ _) _ _) _ _) ?_ | refine st_of (bk_store (bk_store (bk_store (bk_store (bk_store HS.out _ _) _ _) _ _) _ _) _ _) ?_ | refine st_of (bk_drew HS.out) ?_ | refine st_of (bk_drew (bk_store HS.out _ _)) ?_ | refine st_of (bk_drew (bk_store (bk_store HS.out _ _) _ _)) ?_ | refine st_of (bk_drew (bk_store (bk_store (bk_store HS.out _ _) _ _) _ _)) ?_ | refine st_of (bk_drew (bk_store (bk_store (bk_store (bk_store HS.out _ _) _ _) _ _) _ _)) ?_ | refine st_of (bk_drew (bk_store (bk_store (bk_store (bk_store (bk_store HS.out _ _) _ _) _ _) _ _) _ _)) ?_ | refine st_of (bk_drew (bk_drew HS.out)) ?_ | refine st_of (bk_drew (bk_drew (bk_store HS.out _ _))) ?_ | refine st_of (bk_drew (bk_drew (bk_store (bk_store HS.out _ _) _ _))) ?_ | refine st_of (bk_drew (bk_drew (bk_store (bk_store (bk_store HS.out _ _) _ _) _ _))) ?_ | refine st_of (bk_drew (bk_drew (bk_store (bk_store (bk_store (bk_store HS.out _ _) _ _) _ _) _ _))) ?_ | refine st_of (bk_drew (bk_drew (bk_store (bk_store (bk_store (bk_store (bk_store HS.out _ _) _ _) _ _) _ _) _ _))) ?_
      rfl
    · repeat' (first | with_reducible exact Only.refl _ _ | with_reducible refine Only.drew ?_ | with_reducible refine only_set ?_ _ _)
  · rw [if_neg (by decide), if_neg (by decide), if_neg (fun e => absurd e.1 (by decide))] at hX
    subst hX
    have qk : ((6 : Nat) : Int) = 6 := rfl
    rw [qk] at *
    clear qk
    go_enter Tryd.func126, Tryd.ntmps126
    go_wp2_with fail
    refine bodyPost_end (results_none rfl _ _ _) rfl ⟨rfl, ?_, ?_⟩
    · unfold StX
      with_reducible first | refine st_of HS.out ?_ | refine st_of (bk_store HS.out _ _) ?_ | refine st_of (bk_store (bk_store HS.out _ _) _ _) ?_ | refine st_of (bk_store (bk_store (bk_store HS.out _ _) _ _) _ _) ?_ | refine st_of (bk_store (bk_store (bk_store (bk_store HS.out _ _) _ _) _ _) _ _) ?_ | refine st_of (bk_store (bk_store (bk_store (bk_store (bk_store HS.out _ _) _ _) _ _) _ _) _ _) ?_ | refine st_of (bk_drew HS.out) ?_ | refine st_of (bk_drew (bk_store HS.out _ _)) ?_ | refine st_of (bk_drew (bk_store (bk_store HS.out _ _) _ _)) ?_ | refine st_of (bk_drew (bk_store (bk_store (bk_store HS.out _ _) _ _) _ _)) ?_ | refine st_of (bk_drew (bk_store (bk_store (bk_store (bk_store HS.out _ _) _ _) _ _) _ _)) ?_ | refine st_of (bk_drew (bk_store (bk_store (bk_store (bk_store (bk_store HS.out _ _) _ _) _ _) _ _) _ _)) ?_ | refine st_of (bk_drew (bk_drew HS.out)) ?_ | refine st_of (bk_drew (bk_drew (bk_store HS.out _ _))) ?_ | refine st_of (bk_drew (bk_drew (bk_store (bk_store HS.out _ _) _ _))) ?_ | refine st_of (bk_drew (bk_drew (bk_store (bk_store (bk_store HS.out _ _) _ _) _ _))) ?_ | refine st_of (bk_drew (bk_drew (bk_store (bk_store (bk_store (bk_store HS.out _ _) _ _) _ _) _ _))) ?_ | refine st_of (bk_drew (bk_drew (bk_store (bk_store (bk_store (bk_store (bk_store HS.out _ _) _ _) _ _) _ _) _ _))) ?_
      rfl
    · repeat' (first | with_reducible exact Only.refl _ _ | with_reducible refine Only.drew ?_ | with_reducible refine only_set ?_ _ _)
  · rw [if_neg (by decide), if_neg (by decide)] at hX
    by_cases e1 : 0 < p
    · rw [if_pos ⟨rfl, e1⟩] at hX
      subst hX
      have e2 : ((p : Int) == 0) = false := by simp; omega
      clear e1
      have qk : ((7 : Nat) : Int) = 7 := rfl
      rw [qk] at *
      clear qk
      go_enter Tryd.func126, Tryd.ntmps126
      go_wp2_with fail
      refine bodyPost_end (results_none rfl _ _ _) rfl ⟨rfl, ?_, ?_⟩
      · unfold StX
        with_reducible first | refine st_of HS.out ?_ | refine st_of (bk_store HS.out _ _) ?_ | refine st_of (bk_store (bk_store HS.out _ _) _ _) ?_ | refine st_of (bk_store (bk_store (bk_store HS.out _ _) _ _) _ _) ?_ | refine st_of (bk_store (bk_store (bk_store (bk_store HS.out _ _) _ _) _ _) _ _) ?_ | refine st_of (bk_store (bk_store (bk_store (bk_store (bk_store HS.out _ _) _ _) _ _) _ _) _ _) ?_ | refine st_of (bk_drew HS.out) ?_ | refine st_of (bk_drew (bk_store HS.out _ _)) ?_ | refine st_of (bk_drew (bk_store (bk_store HS.out _ _) _ _)) ?_ | refine st_of (bk_drew (bk_store (bk_store (bk_store HS.out _ _) _ _) _ _)) ?_ | refine st_of (bk_drew (bk_store (bk_store (bk_store (bk_store HS.out _ _) _ _) _ _) _ _)) ?_ | refine st_of (bk_drew (bk_store (bk_store (bk_store (bk_store (bk_store HS.out _ _) _ _) _ _) _ _) _ _)) ?_ | refine st_of (bk_drew (bk_drew HS.out)) ?_ | refine st_of (bk_drew (bk_drew (bk_store HS.out _ _))) ?_ | refine st_of (bk_drew (bk_drew (bk_store (bk_store HS.out _ _) _ _))) ?_ | refine st_of (bk_drew (bk_drew (bk_store (bk_store (bk_store HS.out _ _) _ _) _ _))) ?_ | refine st_of (bk_drew (bk_drew (bk_store (bk_store (bk_store (bk_store HS.out _ _) _ _) _ _) _ _))) ?_ | refine st_of (bk_drew (bk_drew (bk_store (bk_store (bk_store (bk_store (bk_store HS.out _ _) _ _) _ _) _ _) _ _))) ?_
        rfl
      · repeat' (first | with_reducible exact Only.refl _ _ | with_reducible refine Only.drew ?_ | with_reducible refine only_set ?_ _ _)
    · rw [if_neg (fun e => e1 e.2)] at hX
      subst hX
      obtain rfl : p = 0 := by omega
      clear e1
      have qk : ((7 : Nat) : Int) = 7 := rfl
      rw [qk] at *
      clear qk
      have qz : ((0 : Nat) : Int) = 0 := rfl
      rw [qz] at *
      clear qz
      go_enter Tryd.func126, Tryd.ntmps126
      go_wp2_with fail
      refine bodyPost_end (results_none rfl _ _ _) rfl ⟨rfl, ?_, ?_⟩
      · unfold StX
        with_reducible first | refine st_of HS.out ?_ | refine st_of (bk_store HS.out _ _) ?_ | refine st_of (bk_store (bk_store HS.out _ _) _ _) ?_ | refine st_of (bk_store (bk_store (bk_store HS.out _ _) _ _) _ _) ?_ | refine st_of (bk_store (bk_store (bk_store (bk_store HS.out _ _) _ _) _ _) _ _) ?_ | refine st_of (bk_store (bk_store (bk_store (bk_store (bk_store HS.out _ _) _ _) _ _) _ _) _ _) ?_ | refine st_of (bk_drew HS.out) ?_ | refine st_of (bk_drew (bk_store HS.out _ _)) ?_ | refine st_of (bk_drew (bk_store (bk_store HS.out _ _) _ _)) ?_ | refine st_of (bk_drew (bk_store (bk_store (bk_store HS.out _ _) _ _) _ _)) ?_ | refine st_of (bk_drew (bk_store (bk_store (bk_store (bk_store HS.out _ _) _ _) _ _) _ _)) ?_ | refine st_of (bk_drew (bk_store (bk_store (bk_store (bk_store (bk_store HS.out _ _) _ _) _ _) _ _) _ _)) ?_ | refine st_of (bk_drew (bk_drew HS.out)) ?_ | refine st_of (bk_drew (bk_drew (bk_store HS.out _ _))) ?_ | refine st_of (bk_drew (bk_drew (bk_store (bk_store HS.out _ _) _ _))) ?_ | refine st_of (bk_drew (bk_drew (bk_store (bk_store (bk_store HS.out _ _) _ _) _ _))) ?_ | refine st_of (bk_drew (bk_drew (bk_store (bk_store (bk_store (bk_store HS.out _ _) _ _) _ _) _ _))) ?_ | refine st_of (bk_drew (bk_drew (bk_store (bk_store (bk_store (bk_store (bk_store HS.out _ _) _ _) _ _) _ _) _ _))) ?_
        rfl
      · repeat' (first | with_reducible exact Only.refl _ _ | with_reducible refine Only.drew ?_ | with_reducible refine only_set ?_ _ _)
  · rw [if_neg (by decide), if_pos rfl] at hX
    subst hX
    have qk : ((8 : Nat) : Int) = 8 := rfl
    rw [qk] at *
    clear qk
    go_enter Tryd.func126, Tryd.ntmps126
    go_wp2_with fail
    refine bodyPost_end (results_none rfl _ _ _) rfl ⟨rfl, ?_, ?_⟩
    · unfold StX
      with_reducible first | refine st_of HS.out ?_ | refine st_of (bk_store HS.out _ _) ?_ | refine st_of (bk_store (bk_store HS.out _ _) _ _) ?_ | refine st_of (bk_store (bk_store (bk_store HS.out _ _) _ _) _ _) ?_ | refine st_of (bk_store (bk_store (bk_store (bk_store HS.out _ _) _ _) _ _) _ _) ?_ | refine st_of (bk_store (bk_store (bk_store (bk_store (bk_store HS.out _ _) _ _) _ _) _ _) _ _) ?_ | refine st_of (bk_drew HS.out) ?_ | refine st_of (bk_drew (bk_store HS.out _ _)) ?_ | refine st_of (bk_drew (bk_store (bk_store HS.out _ _) _ _)) ?_ | refine st_of (bk_drew (bk_store (bk_store (bk_store HS.out _ _) _ _) _ _)) ?_ | refine st_of (bk_drew (bk_store (bk_store (bk_store (bk_store HS.out _ _) _ _) _ _) _ _)) ?_ | refine st_of (bk_drew (bk_store (bk_store (bk_store (bk_store (bk_store HS.out _ _) _ _) _ _) _ _) _ _)) ?_ | refine st_of (bk_drew (bk_drew HS.out)) ?_ | refine st_of (bk_drew (bk_drew (bk_store HS.out _ _))) ?_ | refine st_of (bk_drew (bk_drew (bk_store (bk_store HS.out _ _) _ _))) ?_ | refine st_of (bk_drew (bk_drew (bk_store (bk_store (bk_store HS.out _ _) _ _) _ _))) ?_ | refine st_of (bk_drew (bk_drew (bk_store (bk_store (bk_store (bk_store HS.out _ _) _ _) _ _) _ _))) ?_ | refine st_of (bk_drew (bk_drew (bk_store (bk_store (bk_store (bk_store (bk_store HS.out _ _) _ _) _ _) _ _) _ _))) ?_
      rfl
    · repeat' (first | with_reducible exact Only.refl _ _ | with_reducible refine Only.drew ?_ | with_reducible refine only_set ?_ _ _)
set_option maxRecDepth 100000 in
set_option maxHeartbeats 8000000 in
theorem pHit_any (c : Cf) (L : Value) (g : Nat) (f : Ds)  (hk : f.kind = 4 ∨ f.kind = 5 ∨ f.kind = 6 ∨ f.kind = 7) (hx : f.x = f.a) (hp : f.p < 255) (hxx : f.x < 4294967296) (hy : f.y < 4294967296) (w : World) (hs : StX c L g f 0 0 false w) :
    Calls Tryd.prog 127 #[.pointer (some ⟨g, 0, none⟩)] w (TurnX c L g (foundX c f).1 (toldX (foundX c f)).1 (toldX (foundX c f)).2 (foundX c f).2 w) := by
  obtain ⟨X, hX⟩ : ∃ X, (foundX c f) = X := ⟨_, rfl⟩
  rw [hX]
  unfold foundX at hX
  unfold StX stO at hs
  have HS := Lib.hid hs
  have q0 := (Array.getElem?_eq_some_iff.1 hs).1
  obtain ⟨⟨r0, r1, r2, r3, r4, r5, r6, r7, r8, r9, r10, r11, r12, r13, r14, r15, r16, r17⟩, hf⟩ := cells18 hs
  clear hs
  obtain ⟨tg, k, seq, kind, a, b, pc, i, j, n, p, h, x, y⟩ := f
  simp only at * 
  subst hx
  rcases hk with rfl | rfl | rfl | rfl
  · rw [if_neg (by decide), if_neg (by decide), if_neg (by decide), if_pos rfl, if_pos rfl] at hX
    subst hX
    have qk : ((4 : Nat) : Int) = 4 := rfl
    rw [qk] at *
    clear qk
    go_enter Tryd.func127, Tryd.ntmps127
    go_wp2_with fail
    refine bodyPost_end (results_none rfl _ _ _) rfl ⟨rfl, ?_, ?_⟩
    · unfold StX
      with_reducible first | refine st_of HS.out ?_ | refine st_of (bk_store HS.out _ _) ?_ | refine st_of (bk_store (bk_store HS.out _ _) _ _) ?_ | refine st_of (bk_store (bk_store (bk_store HS.out _ _) _ _) _ _) ?_ | refine st_of (bk_store (bk_store (bk_store (bk_store HS.out _ _) _ _) _ _) _ _) ?_ | refine st_of (bk_store (bk_store (bk_store (bk_store (bk_store HS.out _ _) _ _) _ _) _ _) _ _) ?_ | refine st_of (bk_drew HS.out) ?_ | refine st_of (bk_drew (bk_store HS.out _ _)) ?_ | refine st_of (bk_drew (bk_store (bk_store HS.out _ _) _ _)) ?_ | refine st_of (bk_drew (bk_store (bk_store (bk_store HS.out _ _) _ _) _ _)) ?_ | refine st_of (bk_drew (bk_store (bk_store (bk_store (bk_store HS.out _ _) _ _) _ _) _ _)) ?_ | refine st_of (bk_drew (bk_store (bk_store (bk_store (bk_store (bk_store HS.out _ _) _ _) _ _) _ _) _ _)) ?_ | refine st_of (bk_drew (bk_drew HS.out)) ?_ | refine st_of (bk_drew (bk_drew (bk_store HS.out _ _))) ?_ | refine st_of (bk_drew (bk_drew (bk_store (bk_store HS.out _ _) _ _))) ?_ | refine st_of (bk_drew (bk_drew (bk_store (bk_store (bk_store HS.out _ _) _ _) _ _))) ?_ | refine st_of (bk_drew (bk_drew (bk_store (bk_store (bk_store (bk_store HS.out _ _) _ _) _ _) _ _))) ?_ | refine st_of (bk_drew (bk_drew (bk_store (bk_store (bk_store (bk_store (bk_store HS.out _ _) _ _) _ _) _ _) _ _))) ?_
      rfl
    · repeat' (first | with_reducible exact Only.refl _ _ | with_reducible refine Only.drew ?_ | with_reducible refine only_set ?_ _ _)
  · rw [if_neg (by decide), if_neg (by decide), if_neg (by decide), if_neg (by decide), if_pos rfl, if_pos rfl] at hX
    by_cases e1 : n ≤ p + 1
    · rw [if_pos e1] at hX
      subst hX
      have HC := Lib.hid (fun W hs => pTakeOut_any c L g ⟨tg, k, seq, 5, x, b, pc, i, j, n, p, h, x, y⟩ 0 0 false hp W hs)
      simp only [if_pos e1] at HC
      clear e1
      have qk : ((5 : Nat) : Int) = 5 := rfl
      rw [qk] at *
      clear qk
      go_enter Tryd.func127, Tryd.ntmps127
      go_wp2_with fail
      go_wp2_with (go_at_call 142; refine (HC.out _ (by unfold StX; (with_reducible first | refine st_of HS.out ?_ | refine st_of (bk_store HS.out _ _) ?_ | refine st_of (bk_store (bk_store HS.out _ _) _ _) ?_ | refine st_of (bk_store (bk_store (bk_store HS.out _ _) _ _) _ _) ?_ | refine st_of (bk_store (bk_store (bk_store (bk_store HS.out _ _) _ _) _ _) _ _) ?_ | refine st_of (bk_drew HS.out) ?_ | refine st_of (bk_drew (bk_store HS.out _ _)) ?_ | refine st_of (bk_drew (bk_store (bk_store HS.out _ _) _ _)) ?_ | refine st_of (bk_drew (bk_store (bk_store (bk_store HS.out _ _) _ _) _ _)) ?_ | refine st_of (bk_drew (bk_store (bk_store (bk_store (bk_store HS.out _ _) _ _) _ _) _ _)) ?_); rfl)).mono ?_; rintro e W1 ⟨rfl, h1, o1⟩; have HO1 := Lib.hid (Only.trans (C := fun k => k = g) (A := w) (by repeat' (first | with_reducible exact Only.refl _ _ | with_reducible refine Only.drew ?_ | with_reducible refine only_set ?_ _ _)) o1); have HT1 := Lib.hid h1; clear h1 o1)
      refine bodyPost_end (results_none rfl _ _ _) rfl ⟨rfl, ?_, ?_⟩
      · exact HT1.out
      · exact HO1.out
    · rw [if_neg e1] at hX
      subst hX
      have HC := Lib.hid (fun W hs => pTakeOut_any c L g ⟨tg, k, seq, 5, x, b, pc, i, j, n, p, h, x, y⟩ 0 0 false hp W hs)
      simp only [if_neg e1] at HC
      clear e1
      have qk : ((5 : Nat) : Int) = 5 := rfl
      rw [qk] at *
      clear qk
      go_enter Tryd.func127, Tryd.ntmps127
      go_wp2_with fail
      go_wp2_with (go_at_call 142; refine (HC.out _ (by unfold StX; (with_reducible first | refine st_of HS.out ?_ | refine st_of (bk_store HS.out _ _) ?_ | refine st_of (bk_store (bk_store HS.out _ _) _ _) ?_ | refine st_of (bk_store (bk_store (bk_store HS.out _ _) _ _) _ _) ?_ | refine st_of (bk_store (bk_store (bk_store (bk_store HS.out _ _) _ _) _ _) _ _) ?_ | refine st_of (bk_drew HS.out) ?_ | refine st_of (bk_drew (bk_store HS.out _ _)) ?_ | refine st_of (bk_drew (bk_store (bk_store HS.out _ _) _ _)) ?_ | refine st_of (bk_drew (bk_store (bk_store (bk_store HS.out _ _) _ _) _ _)) ?_ | refine st_of (bk_drew (bk_store (bk_store (bk_store (bk_store HS.out _ _) _ _) _ _) _ _)) ?_); rfl)).mono ?_; rintro e W1 ⟨rfl, h1, o1⟩; have HO1 := Lib.hid (Only.trans (C := fun k => k = g) (A := w) (by repeat' (first | with_reducible exact Only.refl _ _ | with_reducible refine Only.drew ?_ | with_reducible refine only_set ?_ _ _)) o1); have HT1 := Lib.hid h1; clear h1 o1)
      refine bodyPost_end (results_none rfl _ _ _) rfl ⟨rfl, ?_, ?_⟩
      · exact HT1.out
      · exact HO1.out
  · rw [if_pos rfl, if_pos rfl] at hX
    subst hX
    have qk : ((6 : Nat) : Int) = 6 := rfl
    rw [qk] at *
    clear qk
    go_enter Tryd.func127, Tryd.ntmps127
    go_wp2_with fail
    refine bodyPost_end (results_none rfl _ _ _) rfl ⟨rfl, ?_, ?_⟩
    · unfold StX
      with_reducible first | refine st_of HS.out ?_ | refine st_of (bk_store HS.out _ _) ?_ | refine st_of (bk_store (bk_store HS.out _ _) _ _) ?_ | refine st_of (bk_store (bk_store (bk_store HS.out _ _) _ _) _ _) ?_ | refine st_of (bk_store (bk_store (bk_store (bk_store HS.out _ _) _ _) _ _) _ _) ?_ | refine st_of (bk_store (bk_store (bk_store (bk_store (bk_store HS.out _ _) _ _) _ _) _ _) _ _) ?_ | refine st_of (bk_drew HS.out) ?_ | refine st_of (bk_drew (bk_store HS.out _ _)) ?_ | refine st_of (bk_drew (bk_store (bk_store HS.out _ _) _ _)) ?_ | refine st_of (bk_drew (bk_store (bk_store (bk_store HS.out _ _) _ _) _ _)) ?_ | refine st_of (bk_drew (bk_store (bk_store (bk_store (bk_store HS.out _ _) _ _) _ _) _ _)) ?_ | refine st_of (bk_drew (bk_store (bk_store (bk_store (bk_store (bk_store HS.out _ _) _ _) _ _) _ _) _ _)) ?_ | refine st_of (bk_drew (bk_drew HS.out)) ?_ | refine st_of (bk_drew (bk_drew (bk_store HS.out _ _))) ?_ | refine st_of (bk_drew (bk_drew (bk_store (bk_store HS.out _ _) _ _))) ?_ | refine st_of (bk_drew (bk_drew (bk_store (bk_store (bk_store HS.out _ _) _ _) _ _))) ?_ | refine st_of (bk_drew (bk_drew (bk_store (bk_store (bk_store (bk_store HS.out _ _) _ _) _ _) _ _))) ?_ | refine st_of (bk_drew (bk_drew (bk_store (bk_store (bk_store (bk_store (bk_store HS.out _ _) _ _) _ _) _ _) _ _))) ?_
      rfl
    · repeat' (first | with_reducible exact Only.refl _ _ | with_reducible refine Only.drew ?_ | with_reducible refine only_set ?_ _ _)
  · rw [if_neg (by decide), if_pos rfl, if_pos rfl] at hX
    subst hX
    have qk : ((7 : Nat) : Int) = 7 := rfl
    rw [qk] at *
    clear qk
    go_enter Tryd.func127, Tryd.ntmps127
    go_wp2_with fail
    go_wp2_with (go_at_call 64; refine (pTellX_any c L g ⟨tg, k, seq, 7, x, b, pc, i, j, n, p, h, x, y⟩ 0 0 false hxx hy _ (by unfold StX; (with_reducible first | refine st_of HS.out ?_ | refine st_of (bk_store HS.out _ _) ?_ | refine st_of (bk_store (bk_store HS.out _ _) _ _) ?_ | refine st_of (bk_store (bk_store (bk_store HS.out _ _) _ _) _ _) ?_ | refine st_of (bk_store (bk_store (bk_store (bk_store HS.out _ _) _ _) _ _) _ _) ?_ | refine st_of (bk_drew HS.out) ?_ | refine st_of (bk_drew (bk_store HS.out _ _)) ?_ | refine st_of (bk_drew (bk_store (bk_store HS.out _ _) _ _)) ?_ | refine st_of (bk_drew (bk_store (bk_store (bk_store HS.out _ _) _ _) _ _)) ?_ | refine st_of (bk_drew (bk_store (bk_store (bk_store (bk_store HS.out _ _) _ _) _ _) _ _)) ?_); rfl)).mono ?_; rintro e W1 ⟨rfl, h1, o1⟩; have HO1 := Lib.hid (Only.trans (C := fun k => k = g) (A := w) (by repeat' (first | with_reducible exact Only.refl _ _ | with_reducible refine Only.drew ?_ | with_reducible refine only_set ?_ _ _)) o1); unfold StX stO at h1; have HS1 := Lib.hid h1; simp only at h1; obtain ⟨⟨s1_0, s1_1, s1_2, s1_3, s1_4, s1_5, s1_6, s1_7, s1_8, s1_9, s1_10, s1_11, s1_12, s1_13, s1_14, s1_15, s1_16, s1_17⟩, hf1⟩ := cells18 h1; clear h1 o1; have q1 : g < W1.heap.size := (Array.getElem?_eq_some_iff.1 HS1.out).1)
    refine bodyPost_end (results_none rfl _ _ _) rfl ⟨rfl, ?_, ?_⟩
    · unfold StX
      with_reducible first | refine st_of HS1.out ?_ | refine st_of (bk_store HS1.out _ _) ?_ | refine st_of (bk_store (bk_store HS1.out _ _) _ _) ?_ | refine st_of (bk_store (bk_store (bk_store HS1.out _ _) _ _) _ _) ?_ | refine st_of (bk_store (bk_store (bk_store (bk_store HS1.out _ _) _ _) _ _) _ _) ?_ | refine st_of (bk_store (bk_store (bk_store (bk_store (bk_store HS1.out _ _) _ _) _ _) _ _) _ _) ?_ | refine st_of (bk_drew HS1.out) ?_ | refine st_of (bk_drew (bk_store HS1.out _ _)) ?_ | refine st_of (bk_drew (bk_store (bk_store HS1.out _ _) _ _)) ?_ | refine st_of (bk_drew (bk_store (bk_store (bk_store HS1.out _ _) _ _) _ _)) ?_ | refine st_of (bk_drew (bk_store (bk_store (bk_store (bk_store HS1.out _ _) _ _) _ _) _ _)) ?_ | refine st_of (bk_drew (bk_store (bk_store (bk_store (bk_store (bk_store HS1.out _ _) _ _) _ _) _ _) _ _)) ?_ | refine st_of (bk_drew (bk_drew HS1.out)) ?_ | refine st_of (bk_drew (bk_drew (bk_store HS1.out _ _))) ?_ | refine st_of (bk_drew (bk_drew (bk_store (bk_store HS1.out _ _) _ _))) ?_ | refine st_of (bk_drew (bk_drew (bk_store (bk_store (bk_store HS1.out _ _) _ _) _ _))) ?_ | refine st_of (bk_drew (bk_drew (bk_store (bk_store (bk_store (bk_store HS1.out _ _) _ _) _ _) _ _))) ?_ | refine st_of (bk_drew (bk_drew (bk_store (bk_store (bk_store (bk_store (bk_store HS1.out _ _) _ _) _ _) _ _) _ _))) ?_
      rfl
    · repeat' (first | with_reducible exact HO1.out | with_reducible refine Only.drew ?_ | with_reducible refine only_set ?_ _ _)
end Go.Proofs.YtmkehailohgebaaDoor
