/- The program of a table of routes, the program's own: a node is counted in, and out. -/
import Derived.Test.YtjhgccfnihbokaaDoorTrPg
namespace Go.Proofs.YtjhgccfnihbokaaDoor
open Go.RowKit Go.Lib Pt Opn

/-- A whole struct is loaded in a region that draws its order. -/
theorem wpQuiet_load_row {P : Program} {ops : Array Oper} {C : World → Prop} {T : Act → Prop} {o : Oper} {l : List Oper} {a : Act} (hgd : o.guard = none) (ty : TypeId) (x : Operand) (ho : o.op = .load ty x)
    (g : Nat) (hx : a.eval x = .pointer (some ⟨g, 0, none⟩)) (t : TypeId) (cs : Array Value) (fr : Nat × Nat) (d : TypeDesc) (hg : ∀ w, C w → w.heap[g]? = some (.cells cs t fr))
    (hu : P.underlying ty = some d) (hd : (match d with | .struct _ | .array _ _ => true | _ => false) = true) (hi : (P.info? ty).map (·.size) = some cs.size)
    (h : wpQuiet P ops C T l (a.put o.dst (.agg cs))) : wpQuiet P ops C T (o :: l) a := by
  unfold wpQuiet
  rw [if_pos (by simp [Region.wanted, hgd])]
  refine ⟨.agg cs, fun w hw => ?_, h⟩
  unfold Oper.quietAt
  have hrun : (execOp a.eval o).run P w = .ok (.value (.agg cs)) w := by
    unfold execOp
    simp only [ho, hx, Instr.loadAt, Instr.sureAddr, Sem.run_bind, Sem.run_pure, Result.andThen_ok, run_loadVar_row w g t ty cs fr d (hg w hw) hu hd hi]
  rw [hrun]
  exact ⟨rfl, rfl⟩

set_option maxRecDepth 100000 in
set_option maxHeartbeats 8000000 in
theorem pOut_any (c : Cf) (f : Ds) (t A B C : Nat) (hb : 0 ≤ c.bits) (hf : f.b < 4294967296) (ht : topT c f ≤ 6) (ha : f.a < 2 ^ topT c f) (hh : f.h ≤ topT c f) (hn : f.n < 256) (hx : f.x < 4294967296) (w : World) :
    Calls Tryd.prog 72 #[stV c f t A B C] w (Ret2 (acv ⟨2, deepT c f, if f.h = topT c f then 0 else f.x, (f.n + 63) % 64, 0, 0, 0⟩) (frv (if f.h = topT c f then { f with pc := 6 } else { f with h := f.h + 1, pc := 2 })) w) := by
  have HC := Lib.hid (fun W => pCount_any c f t A B C 63 0 hb hf ht ha hh hn hx (by omega) W)
  obtain ⟨x', hx'⟩ : ∃ q, (⟨2, deepT c f, if f.h = topT c f then 0 else f.x, (f.n + 63) % 64, 0, 0, 0⟩ : Ac) = q := ⟨_, rfl⟩
  obtain ⟨f', hf'⟩ : ∃ q, (if f.h = topT c f then { f with pc := 6 } else { f with h := f.h + 1, pc := 2 }) = q := ⟨_, rfl⟩
  rw [hx', hf'] at HC ⊢
  clear hx' hf' hb hf ht ha hh hn hx
  unfold acv frv at HC ⊢
  unfold stV at HC ⊢
  push_cast at HC
  go_enter Tryd.func72, Tryd.ntmps72
  go_upto_region 1 with fail
  refine enter3 fun W hb g0 g1 g2 q0 q1 q2 => ?_
  refine wp_region_list ?_
  refine wpList_load_row rfl 76 (.tmp 1) rfl w.heap.size rfl _ _ _ _ g0 Tryd.underlying76 rfl (by kernel_rfl) ?_
  go_wp2_with (go_at_call 95; refine (HC.out _).mono ?_; rintro e w1 ⟨rfl, hb1⟩; have G1 := blk_below g1 hb1; have G2 := blk_below g2 hb1; obtain ⟨u0, v0, u1, v1, u2, v2, u3, v3, u4, v4, u5, v5, u6, v6⟩ := cells7 G1; obtain ⟨o0, s0, o1, s1, o2, s2, o3, s3, o4, s4, o5, s5, o6, s6, o7, s7, o8, s8, o9, s9, o10, s10⟩ := cells11 G2; clear G1 G2)
  have HB := Lib.hid (below_then hb hb1)
  refine bodyPost_ret ?_ rfl ⟨rfl, ?_⟩
  · simp [results, Tryd.results72, go_sem, u0, u1, u2, u3, u4, u5, u6, o0, o1, o2, o3, o4, o5, o6, o7, o8, o9, o10]
  · (repeat' (first | with_reducible exact HB.out | (with_reducible refine Below.setCell ?_ ?_ _))) <;> (simp; try omega)

set_option maxRecDepth 100000 in
set_option maxHeartbeats 8000000 in
theorem pIn_any (c : Cf) (f : Ds) (t A B C : Nat) (hb : 0 ≤ c.bits) (hf : f.b < 4294967296) (ht : topT c f ≤ 6) (ha : f.a < 2 ^ topT c f) (hh : f.h ≤ topT c f) (hn : f.n < 256) (hx : f.x < 4294967296) (hy : f.y < 4294967296) (w : World) :
    Calls Tryd.prog 67 #[stV c f t A B C] w (Ret2 (acv ⟨2, deepT c f, if f.h = topT c f then f.y + 1 else f.x, (f.n + 1) % 64, 0, 0, 0⟩) (frv (if f.h = topT c f then { f with pc := 6 } else { f with h := f.h + 1, pc := 2 })) w) := by
  have HC := Lib.hid (fun W => pCount_any c f t A B C 1 (f.y + 1) hb hf ht ha hh hn hx (by omega) W)
  have HH := Lib.hid (fun W => pHop_any f hy W)
  obtain ⟨x', hx'⟩ : ∃ q, (⟨2, deepT c f, if f.h = topT c f then f.y + 1 else f.x, (f.n + 1) % 64, 0, 0, 0⟩ : Ac) = q := ⟨_, rfl⟩
  obtain ⟨f', hf'⟩ : ∃ q, (if f.h = topT c f then { f with pc := 6 } else { f with h := f.h + 1, pc := 2 }) = q := ⟨_, rfl⟩
  obtain ⟨y', hy'⟩ : ∃ q, f.y + 1 = q := ⟨_, rfl⟩
  rw [hx', hf'] at HC
  rw [hy'] at HC HH
  rw [hx', hf']
  clear hx' hf' hy' hb hf ht ha hh hn hx hy
  unfold acv frv at HC ⊢
  unfold frv at HH
  unfold stV at HC ⊢
  rw [show ((1 : Nat) : Int) = 1 from rfl] at HC
  go_enter Tryd.func67, Tryd.ntmps67
  go_upto_region 1 with fail
  refine enter3 fun W hb g0 g1 g2 q0 q1 q2 => ?_
  go_wp2_with fail
  have hbl : ∀ w', (∃ p : Regrown, w' = Go.Sort.grow (redrawn W p.d) p.os) → w'.heap[w.heap.size]? = _ := fun w' hw' => blk_below g0 (regrown_reads hw').1
  obtain ⟨r0, r1, r2, r3, r4, r5, r6, r7, r8, r9, r10, r11, r12, r13, r14, r15, r16, r17, r18, r19, r20, r21, r22, r23, r24, r25, r26⟩ := cells27 g0
  refine wp_region_tail_reads 7 (by kernel_rfl) (by kernel_rfl) fun HR => ?_
  simp only [List.take_succ_cons, List.take_zero, List.drop_succ_cons, List.drop_zero]
  refine wpQuiet_load_row rfl 76 (.tmp 1) rfl w.heap.size rfl _ _ _ _ hbl Tryd.underlying76 rfl (by kernel_rfl) ?_
  simp only [Act.put, List.setIfInBounds_toArray, List.set_cons_succ, List.set_cons_zero]
  repeat (go_big_quiet_step (first | exact Calls.regrown_of (HH.out _) | exact Calls.regrown_of (HC.out _)))
  refine wpQuiet_nil ?_
  intro W3 hw'
  obtain ⟨hb3, hX3, hY3⟩ := regrown_reads hw'
  clear hX3 hY3 hw' HR hbl r0 r1 r2 r3 r4 r5 r6 r7 r8 r9 r10 r11 r12 r13 r14 r15 r16 r17 r18 r19 r20 r21 r22 r23 r24 r25 r26
  have HB := Lib.hid (below_then hb hb3)
  have G1 := blk_below g1 hb3
  have G2 := blk_below g2 hb3
  clear g0 g1 g2 hb hb3
  obtain ⟨u0, v0, u1, v1, u2, v2, u3, v3, u4, v4, u5, v5, u6, v6⟩ := cells7 G1
  obtain ⟨o0, s0, o1, s1, o2, s2, o3, s3, o4, s4, o5, s5, o6, s6, o7, s7, o8, s8, o9, s9, o10, s10⟩ := cells11 G2
  clear G1 G2
  go_wp2
  refine bodyPost_ret ?_ rfl ⟨rfl, ?_⟩
  · simp [results, Tryd.results67, go_sem, u0, u1, u2, u3, u4, u5, u6, o0, o1, o2, o3, o4, o5, o6, o7, o8, o9, o10]
  · (repeat' (first | with_reducible exact HB.out | (with_reducible refine Below.setCell ?_ ?_ _))) <;> (simp; try omega)
end Go.Proofs.YtjhgccfnihbokaaDoor
