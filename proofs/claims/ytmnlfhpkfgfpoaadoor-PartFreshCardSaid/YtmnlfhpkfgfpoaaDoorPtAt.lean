/- Package part: sizes, and where a place stands. -/
import Derived.Test.YtmnlfhpkfgfpoaaDoorPtCount
import Derived.Test.YtmnlfhpkfgfpoaaDoorPtSeek
namespace Go.Proofs.YtmnlfhpkfgfpoaaDoor.Pt
def szA (c : Cf) : Int := if okB c then (sz c : Nat) else 0
def allA (c : Cf) : Int := if okB c then (all c : Nat) else 0
/-- Where a place stands, and whether. -/
def atV (c : Cf) (p : Pl) : Int := if okB c then (((find (bl c) p).getD 0 : Nat) : Int) else 0
def atE (c : Cf) (p : Pl) : Int := if okB c then (if (find (bl c) p).isSome then 0 else 2) else 40
theorem at_some {c : Cf} {p : Pl} {a : Nat} (h : okB c = true) (hf : find (bl c) p = some a) : atV c p = a ∧ atE c p = 0 := by
  unfold atV atE
  rw [if_pos h, if_pos h, hf]
  exact ⟨rfl, rfl⟩
theorem at_none {c : Cf} {p : Pl} (h : okB c = true) (hf : find (bl c) p = none) : atV c p = 0 ∧ atE c p = 2 := by
  unfold atV atE
  rw [if_pos h, if_pos h, hf]
  exact ⟨rfl, rfl⟩
end Go.Proofs.YtmnlfhpkfgfpoaaDoor.Pt
namespace Go.Proofs.YtmnlfhpkfgfpoaaDoor
open Go.RowKit Go.Shelf Pt
attribute [local go_sem] Oper.semAt_some

theorem below_four (w : World) (o o' o'' p : Obj) : Below w.heap.size w ((((w.alloc o).alloc o').alloc o'').alloc p) := (below_three w o o' o'').alloc (by simp; omega) _
theorem small_any {c : Cf} (h : Ok c) (i : Nat) (x : Blk) (hx : (bl c)[i]? = some x) : Small x := by
  by_cases hl : i < hN c
  · rw [bl_head hl] at hx
    exact small_head h hx
  · have hlen : i < (bl c).length := (List.getElem?_eq_some_iff.1 hx).1
    rw [bl_length] at hlen
    obtain ⟨n, hn⟩ : ∃ n, i = hN c + 2 * n ∨ i = hN c + 2 * n + 1 := ⟨(i - hN c) / 2, by omega⟩
    rcases hn with rfl | rfl
    · have hn : n < c.inst.toNat := by omega
      rw [(bl_inst hn).1] at hx
      obtain rfl := Option.some.inj hx
      exact small_desc h hn
    · have hn : n < c.inst.toNat := by omega
      rw [(bl_inst hn).2] at hx
      obtain rfl := Option.some.inj hx
      exact small_obj h hn

/-- Two cells of two blocks are laid anew. -/
theorem set_two {W : World} {a b : Nat} {u v x y : Value} (hne : a ≠ b) (ha : W.cell? ⟨a, 0, none⟩ = some u) (hb : W.cell? ⟨b, 0, none⟩ = some v) :
    ((W.setCell ⟨a, 0, none⟩ x).setCell ⟨b, 0, none⟩ y).cell? ⟨a, 0, none⟩ = some x ∧ ((W.setCell ⟨a, 0, none⟩ x).setCell ⟨b, 0, none⟩ y).cell? ⟨b, 0, none⟩ = some y := by
  have h1 : (W.setCell ⟨a, 0, none⟩ x).cell? ⟨a, 0, none⟩ = some x := World.cell?_setCell_same' _ _ _ (by rw [ha]; rfl)
  have h2 : (W.setCell ⟨a, 0, none⟩ x).cell? ⟨b, 0, none⟩ = some v := (World.cell?_of_block (w := W) (Below.heap_setCell W ⟨a, 0, none⟩ x b (by simpa using hne.symm))).trans hb
  exact ⟨(World.cell?_of_block (Below.heap_setCell _ ⟨b, 0, none⟩ y a (by simpa using hne))).trans h1, World.cell?_setCell_same' _ _ _ (by rw [h2]; rfl)⟩

set_option maxHeartbeats 1000000 in
theorem size_any (c : Cf) (w : World) (hp : Pow w) : Calls Tryd.prog 9 #[cfv c] w (Ret2 (.int .i64 (szA c)) (.int .i64 (Pt.err (okB c))) w) := by
  have hk := check_any c
  unfold szA
  cases e : okB c with
  | true =>
    have hs := fun W hW => sizeOf_any c (ok_of e) W hW
    have HP := Lib.hid hp
    rw [e, show Pt.err true = 0 from rfl] at hk
    clear hp
    unfold cfv at hk hs ⊢
    go_enter Tryd.func9, Tryd.ntmps9
    go_wp2_with (first
      | (go_at_call 12; refine (hk _).mono ?_; rintro e w1 ⟨rfl, hb1⟩; have hb01 := below_b1 hb1; obtain ⟨hc1, hf1⟩ := bcell hb1)
      | (go_at_call 23; refine (hs _ (HP.out.below hb01)).mono ?_; rintro e w2 ⟨rfl, hb2⟩))
    go_ret2
    exact Ret2.mk rfl rfl (below_then hb01 hb2)
  | false =>
    rw [e, show Pt.err false = 40 from rfl] at hk
    unfold cfv at hk ⊢
    go_enter Tryd.func9, Tryd.ntmps9
    go_wp2_with (go_at_call 12; refine (hk _).mono ?_; rintro e w1 ⟨rfl, hb1⟩)
    go_ret2
    exact Ret2.mk rfl rfl (below_b1 hb1)

set_option maxHeartbeats 1000000 in
theorem cells_any (c : Cf) (w : World) (hp : Pow w) : Calls Tryd.prog 15 #[cfv c] w (Ret2 (.int .i64 (allA c)) (.int .i64 (Pt.err (okB c))) w) := by
  have hk := check_any c
  unfold allA
  cases e : okB c with
  | true =>
    have hs := fun W hW => count_cfg c (ok_of e) W hW
    have HP := Lib.hid hp
    rw [e, show Pt.err true = 0 from rfl] at hk
    clear hp
    unfold cfv at hk hs ⊢
    go_enter Tryd.func15, Tryd.ntmps15
    go_wp2_with (first
      | (go_at_call 12; refine (hk _).mono ?_; rintro e w1 ⟨rfl, hb1⟩; have hb01 := below_b1 hb1; obtain ⟨hc1, hf1⟩ := bcell hb1)
      | (go_at_call 29; refine (hs _ (HP.out.below hb01)).mono ?_; rintro e w2 ⟨rfl, hb2⟩))
    go_ret2
    exact Ret2.mk rfl rfl (below_then hb01 hb2)
  | false =>
    rw [e, show Pt.err false = 40 from rfl] at hk
    unfold cfv at hk ⊢
    go_enter Tryd.func15, Tryd.ntmps15
    go_wp2_with (go_at_call 12; refine (hk _).mono ?_; rintro e w1 ⟨rfl, hb1⟩)
    go_ret2
    exact Ret2.mk rfl rfl (below_b1 hb1)

set_option maxHeartbeats 1000000 in
theorem at_bad (c : Cf) (p : Pl) (h : okB c = false) (w : World) : Calls Tryd.prog 10 #[cfv c, plv p] w (Ret2 (.int .i64 0) (.int .i64 40) w) := by
  have hk := check_any c
  rw [h, show Pt.err false = 40 from rfl] at hk
  clear h
  refine (callsIn_wide (n := 9)).1 ?_
  refine callsIn_of_wp_marks Tryd.func10 rfl trivial ?_ rfl
  simp only [Tryd.ntmps10, List.size_toArray, List.length_cons, List.length_nil, Nat.reduceAdd, Nat.reduceSub, Array.replicate_succ, Array.replicate_zero, List.push_toArray, List.append_toArray, List.nil_append, List.cons_append]
  have hfw : ∀ f, Fence.wide.fn f := fun _ => trivial
  unfold cfv plv at *
  gi_wp2_with (gi_at_call 12; refine (callsIn_wide.2 (hk _)).mono ?_; rintro e w1 ⟨rfl, hb1⟩; obtain ⟨hc1, hf1⟩ := bcell hb1)
  have hz : w.heap.size + 3 < w1.heap.size := by have := hb1.size; simp at this; omega
  have c2 : w1.cell? ⟨w.heap.size + 1 + 1, 0, none⟩ = some (.int .i64 0) := by rw [hc1 _ _ (by simp)]; simp [go_sem]
  have c3 : w1.cell? ⟨w.heap.size + 1 + 1 + 1, 0, none⟩ = some (.int .i64 0) := by rw [hc1 _ _ (by simp)]; simp [go_sem]
  obtain ⟨s0, s1⟩ := set_two (x := .int .i64 0) (y := .int .i64 40) (by omega) c2 c3
  refine plain_ret (v := .tuple #[.int .i64 0, .int .i64 40]) ?_ ⟨rfl, ?_⟩
  · simp [results, Tryd.results10, go_sem, s0, s1]
  · exact (((below_four w _ _ _ _).trans (hb1.mono (by simp; omega))).setCell (by simp; omega) _).setCell (by simp; omega) _

theorem IsPl.lt {w : World} {q : Nat} {y : Pl} (h : IsPl w q y) : q < w.heap.size := World.block_lt_of_cell? _ _ h.1
theorem IsPl.same {w w' : World} {q : Nat} {y : Pl} (h : IsPl w q y) (hs : w'.heap[q]? = w.heap[q]?) : IsPl w' q y :=
  ⟨(World.cell?_of_block (w := w) hs).trans h.1, (World.cell?_of_block (w := w) hs).trans h.2.1, (World.cell?_of_block (w := w) hs).trans h.2.2⟩
/-- A cell that may be written. -/
def Cell1 (A : World) (q : Nat) (v : Value) : Prop := A.cell? ⟨q, 0, none⟩ = some v ∧ A.frozen? ⟨q, 0, none⟩ = false
theorem Cell1.lt {w : World} {q : Nat} {v : Value} (h : Cell1 w q v) : q < w.heap.size := World.block_lt_of_cell? _ _ h.1
theorem Cell1.same {w w' : World} {q : Nat} {v : Value} (h : Cell1 w q v) (hs : w'.heap[q]? = w.heap[q]?) : Cell1 w' q v :=
  ⟨(World.cell?_of_block (w := w) hs).trans h.1, (World.frozen?_of_block (w := w) (a := ⟨q, 0, none⟩) hs).trans h.2⟩
/-- What a look-up keeps from round to round: p lies in block r + 1, the results in r + 2 and r + 3, what is ahead in q. -/
structure AtI (c : Cf) (p : Pl) (r q : Nat) (w : World) (i : Nat) (A : World) : Prop where
  ahead : Cell1 A q (.int .i64 (pre (bl c) i : Nat))
  place : IsPl A (r + 1) p
  res0 : Cell1 A (r + 1 + 1) (.int .i64 0)
  res1 : Cell1 A (r + 1 + 1 + 1) (.int .i64 0)
  below : Below r w A
  asked : Asked (bl c) p i
theorem AtI.only {c : Cf} {p : Pl} {r q : Nat} {w : World} {i : Nat} {A A' : World} {C : Nat → Prop} (h : AtI c p r q w i A) (ho : Only C A A') (h1 : r ≤ w.heap.size) (hC : ∀ k, C k → r + 3 < k ∧ k ≠ q) : AtI c p r q w i A' :=
  ⟨h.ahead.same (ho.block _ h.ahead.lt fun hc => (hC _ hc).2 rfl), h.place.same (ho.block _ h.place.lt fun hc => by have := (hC _ hc).1; omega), h.res0.same (ho.block _ h.res0.lt fun hc => by have := (hC _ hc).1; omega),
    h.res1.same (ho.block _ h.res1.lt fun hc => by have := (hC _ hc).1; omega), Only.then_below h1 h.below ho (fun k hk => by have := (hC _ hk).1; omega), h.asked⟩

set_option maxHeartbeats 2000000 in
theorem at_ok (c : Cf) (p : Pl) (h : okB c = true) (w : World) (hp : Pow w) : Calls Tryd.prog 10 #[cfv c, plv p] w (Ret2 (.int .i64 (atV c p)) (.int .i64 (atE c p)) w) := by
  have hk := check_any c
  rw [h, show Pt.err true = 0 from rfl] at hk
  have HB := Lib.hid h
  have hok := ok_of h
  have hall := (all_bounds hok).2
  have hgl : 0 < w.heap.size := World.block_lt_of_cell? _ _ (hp 0 (by omega))
  have HP := Lib.hid hp
  have Hok := Lib.hid hok
  have hpc := parts_any c
  have HSm : Hid (∀ i x, (bl c)[i]? = some x → Small x) := Lib.hid (small_any hok)
  clear h hp hok
  refine (callsIn_wide (n := 9)).1 ?_
  refine callsIn_of_wp_marks Tryd.func10 rfl trivial ?_ rfl
  simp only [Tryd.ntmps10, List.size_toArray, List.length_cons, List.length_nil, Nat.reduceAdd, Nat.reduceSub, Array.replicate_succ, Array.replicate_zero, List.push_toArray, List.append_toArray, List.nil_append, List.cons_append]
  have hfw : ∀ f, Fence.wide.fn f := fun _ => trivial
  unfold cfv at *
  unfold plv
  gi_wp2_with fail
  refine (callsIn_wide.2 (hk _)).mono ?_
  rintro e w1 ⟨rfl, hb1⟩
  obtain ⟨hc1, hf1⟩ := bcell hb1
  have I1 : IsCf w1 w.heap.size c := (((((cf_lit w c _ rfl).same (Below.heap_alloc _ _ _ (by simp))).same (Below.heap_alloc _ _ _ (by simp; omega))).same (Below.heap_alloc _ _ _ (by simp; omega))).same (hb1.block _ (by simp; omega)))
  have p0 : w1.cell? ⟨w.heap.size + 1, 0, none⟩ = some (.int .u8 p.p) := by rw [hc1 _ _ (by simp)]; simp [go_sem]
  have p1 : w1.cell? ⟨w.heap.size + 1, 1, none⟩ = some (.int .i64 p.a) := by rw [hc1 _ _ (by simp)]; simp [go_sem]
  have p2 : w1.cell? ⟨w.heap.size + 1, 2, none⟩ = some (.int .i64 p.b) := by rw [hc1 _ _ (by simp)]; simp [go_sem]
  have c2 : w1.cell? ⟨w.heap.size + 1 + 1, 0, none⟩ = some (.int .i64 0) := by rw [hc1 _ _ (by simp)]; simp [go_sem]
  have c3 : w1.cell? ⟨w.heap.size + 1 + 1 + 1, 0, none⟩ = some (.int .i64 0) := by rw [hc1 _ _ (by simp)]; simp [go_sem]
  have z2 : w1.frozen? ⟨w.heap.size + 1 + 1, 0, none⟩ = false := by rw [hf1 _ _ (by simp)]; simp [go_sem]
  have z3 : w1.frozen? ⟨w.heap.size + 1 + 1 + 1, 0, none⟩ = false := by rw [hf1 _ _ (by simp)]; simp [go_sem]
  have hz : w.heap.size + 3 < w1.heap.size := by have := hb1.size; simp at this; omega
  have hb := (below_four w _ _ _ _).trans (hb1.mono (by simp; omega))
  obtain ⟨r, hr⟩ : ∃ r, w.heap.size = r := ⟨_, rfl⟩
  rw [hr] at I1 p0 p1 p2 c2 c3 z2 z3 hz hb hgl ⊢
  have f0 := I1 0 _ rfl
  have f1 := I1 1 _ rfl
  have f2 := I1 2 _ rfl
  have f3 := I1 3 _ rfl
  have f4 := I1 4 _ rfl
  have f5 := I1 5 _ rfl
  have f6 := I1 6 _ rfl
  have f7 := I1 7 _ rfl
  have f8 := I1 8 _ rfl
  have f9 := I1 9 _ rfl
  have f10 := I1 10 _ rfl
  have f11 := I1 11 _ rfl
  have hr1 : r < w1.heap.size := by omega
  clear hc1 hf1 hb1 I1
  gi_wp2_with (gi_at_call 24; refine (callsIn_wide.2 (hpc _)).mono ?_; rintro e w' ⟨rfl, hw'⟩)
  rw [← hw']
  obtain ⟨q, hq⟩ : ∃ q, w1.heap.size = q := ⟨_, rfl⟩
  have hz2 : w'.heap.size = q + 2 := by rw [hw', ← hq]; simp
  have b0 : Below w1.heap.size w1 w' := by rw [hw']; exact below_two _ _ _
  have i0 : IsCf w' (q + 1) c := by rw [hw', ← hq]; exact cf_lit _ c _ (by simp)
  have a0 : Cell1 w' q (.int .i64 0) := by rw [hw', ← hq]; exact ⟨by simp [go_sem], by simp [go_sem]⟩
  have hb2 : Below r w w' := hb.trans (b0.mono (by omega))
  have q0 : Pow w' := HP.out.below (by rw [hr]; exact hb2)
  have st : AtI c p r q w 0 w' := ⟨by rw [pre_zero]; exact a0, IsPl.same ⟨p0, p1, p2⟩ (b0.block _ (by omega)), Cell1.same ⟨c2, z2⟩ (b0.block _ (by omega)), Cell1.same ⟨c3, z3⟩ (b0.block _ (by omega)), hb2, asked_zero _ _⟩
  rw [hq] at hz ⊢
  clear hw' hpc HP hk b0 a0 hb2 p0 p1 p2 c2 c3 z2 z3 hb f0 f1 f2 f3 f4 f5 f6 f7 f8 f9 f10 f11 hr1
  refine wpIn_rangeR (gf := 37) (lb := #[.pointer (some ⟨q + 1, 0, none⟩)]) rfl (enters_of Tryd.func37 (by kernel_rfl) rfl)
    (parts_iter 8 (by omega) c Hok.out (q + 1) (fun k => k = q + 1 ∨ k = 0) w' (.inl rfl) (.inr rfl) i0 q0) ?hcap ?hps (fun k => k = r + 1 + 1 ∨ k = r + 1 + 1 + 1 ∨ k = q) ?hC
    (AtI c p r q w) (fun e i A => e = .ret ∧ A.cell? ⟨r + 1 + 1, 0, none⟩ = some (.int .i64 (atV c p)) ∧ A.cell? ⟨r + 1 + 1 + 1, 0, none⟩ = some (.int .i64 (atE c p)) ∧ Below r w A) ?hI ?hIx ?h0 ?round ?done ?stop
  case hcap => intro k hk; exact ⟨by omega, rfl⟩
  case hps => rintro B i args A ⟨q, x, _, rfl, _⟩; rfl
  case hC => rintro k hk; omega
  case hI => intro i A A' h ho; exact h.only ho (by omega) fun k hk => by omega
  case hIx =>
    rintro e i A A' ⟨h1, h2, h3, h4⟩ ho
    exact ⟨h1, ho.cell h2 (by show ¬ (_ ∧ _); simp only; omega), ho.cell h3 (by show ¬ (_ ∧ _); simp only; omega), Only.then_below (by omega) h4 ho (by omega)⟩
  case h0 => exact st
  case round =>
    rintro l i args A hi hI ⟨b, x, hx, rfl, hqB, hqA⟩ hlt
    have HX := Lib.hid hx
    have hle := pre_le (bl c) (i + 1)
    rw [pre_succ hx] at hle
    have e : total (bl c) = all c := rfl
    rw [e] at hle
    clear st i0 q0 hx e
    gi_wp2
    refine ⟨Only.refl _ A, fun W₂ ho => ?_⟩
    have hI2 := hI.only ho (by omega) (fun k hk => by omega)
    have B2 := hqA.same (ho.block b hqA.lt (by omega))
    have hl2 := ho.size
    clear hI hqA ho
    obtain ⟨⟨k0, k1⟩, ⟨k2, k3, k4⟩, ⟨k5, k6⟩, ⟨k7, k8⟩, k9, k10⟩ := hI2
    have hsk := seek_any x (HSm.out i x HX.out) p b W₂ B2
    have H10 := Lib.hid k10
    clear k10
    unfold plv at hsk
    gi_wp2_with fail
    refine (CallsIn.inRound l (callsIn_wide.2 hsk)).mono ?_
    rintro e W3 ⟨j, rfl, hj, hb3⟩
    obtain ⟨hc3, hf3⟩ := bcell hb3
    have d0 : W3.cell? ⟨q, 0, none⟩ = some (.int .i64 (pre (bl c) i : Nat)) := (hc3 _ _ (World.block_lt_of_cell? _ _ k0)).trans k0
    have d1 : W3.frozen? ⟨q, 0, none⟩ = false := (hf3 _ _ (World.block_lt_of_cell? _ _ k0)).trans k1
    have d2 : IsPl W3 (r + 1) p := IsPl.same ⟨k2, k3, k4⟩ (hb3.block _ (World.block_lt_of_cell? _ _ k2))
    have d5 : W3.cell? ⟨r + 1 + 1, 0, none⟩ = some (.int .i64 0) := (hc3 _ _ (World.block_lt_of_cell? _ _ k5)).trans k5
    have d6 : W3.frozen? ⟨r + 1 + 1, 0, none⟩ = false := (hf3 _ _ (World.block_lt_of_cell? _ _ k5)).trans k6
    have d7 : W3.cell? ⟨r + 1 + 1 + 1, 0, none⟩ = some (.int .i64 0) := (hc3 _ _ (World.block_lt_of_cell? _ _ k7)).trans k7
    have d8 : W3.frozen? ⟨r + 1 + 1 + 1, 0, none⟩ = false := (hf3 _ _ (World.block_lt_of_cell? _ _ k7)).trans k8
    have d9 : Below r w W3 := k9.trans (hb3.mono (by omega))
    have D2 := Lib.hid d2
    have D3 := Lib.hid (Only.of_below (fun k => k = r + 1 + 1 ∨ k = r + 1 + 1 + 1 ∨ k = q) hb3)
    clear k0 k1 k2 k3 k4 k5 k6 k7 k8 k9 hc3 hf3 hb3 hsk d2 B2
    by_cases hh : x.Has p
    · have hA := asked_hit H10.out HX.out hh
      have hix := (Blk.has_ix hh).1
      have hF := Lib.hid (at_some HB.out hA)
      obtain rfl := hj hh
      rw [decide_eq_true hh]
      clear hA hj hh
      gi_wp2
      obtain ⟨s0, s1⟩ := set_two (x := .int .i64 (atV c p)) (y := .int .i64 0) (by omega) d5 d7
      rw [hF.out.1] at s0 s1
      refine ⟨(D3.out.setCell (p := ⟨r + 1 + 1, 0, none⟩) (.inl (by simp)) _).setCell (p := ⟨r + 1 + 1 + 1, 0, none⟩) (.inl (by simp)) _, rfl, ?_, ?_, (d9.setCell (by simp; omega) _).setCell (by simp; omega) _⟩
      · rw [hF.out.1]; exact s0
      · rw [hF.out.2]; exact s1
    · have hA := Lib.hid (asked_miss H10.out HX.out hh)
      have hps := pre_succ HX.out
      rw [decide_eq_false hh]
      clear hj hh
      gi_wp2
      have O3 := (Only.refl (fun k => k = q) W3).setCell (p := ⟨q, 0, none⟩) (.inl rfl) (.int .i64 ((pre (bl c) i : Nat) + (x.cnt : Nat)))
      refine ⟨D3.out.setCell (p := ⟨q, 0, none⟩) (.inl (by simp)) _, ⟨⟨?_, ?_⟩, D2.out.same (O3.block _ D2.out.lt (by omega)), Cell1.same ⟨d5, d6⟩ (O3.block _ (World.block_lt_of_cell? _ _ d5) (by omega)), Cell1.same ⟨d7, d8⟩ (O3.block _ (World.block_lt_of_cell? _ _ d7) (by omega)), d9.setCell (by simp; omega) _, hA.out⟩⟩
      · rw [World.cell?_setCell_same' _ _ _ (by rw [d0]; rfl), hps]; congr 2
      · simp [go_sem, d1]
  case done =>
    intro A hI hK
    obtain ⟨⟨k0, k1⟩, _, ⟨k5, k6⟩, ⟨k7, k8⟩, k9, k10⟩ := hI
    have HF := Lib.hid (at_none HB.out (asked_end k10))
    have HK := Lib.hid hK
    clear hK k10 st i0 q0
    gi_wp2
    obtain ⟨s0, s1⟩ := set_two (x := .int .i64 0) (y := .int .i64 2) (by omega) k5 k7
    have HK2 := ((Below.heap_setCell _ ⟨r + 1 + 1 + 1, 0, none⟩ (.int .i64 2) _ (by simp only; omega)).trans ((Below.heap_setCell A ⟨r + 1 + 1, 0, none⟩ (.int .i64 0) _ (by simp only; omega)).trans HK.out))
    refine marks_ret (v := .tuple #[.int .i64 0, .int .i64 2]) HK2 ?_ ⟨by rw [HF.out.1, HF.out.2], ?_⟩
    · have t0 := cell_putObj (D := w'.heap.size) (o' := .deferred none) (by simp only; omega) s0
      have t1 := cell_putObj (D := w'.heap.size) (o' := .deferred none) (by simp only; omega) s1
      simp [results, Tryd.results10, go_sem, t0, t1]
    · rw [hr]; exact below_putObj ((k9.setCell (by simp; omega) _).setCell (by simp; omega) _) (by omega) _
  case stop =>
    rintro e i A hi ⟨rfl, h1, h2, h3⟩ hK
    have HK := Lib.hid hK
    clear hK st i0 q0
    gi_wp2
    refine marks_ret (v := .tuple #[.int .i64 (atV c p), .int .i64 (atE c p)]) HK.out ?_ ⟨rfl, ?_⟩
    · have t0 := cell_putObj (D := w'.heap.size) (o' := .deferred none) (by simp only; omega) h1
      have t1 := cell_putObj (D := w'.heap.size) (o' := .deferred none) (by simp only; omega) h2
      simp [results, Tryd.results10, go_sem, t0, t1]
    · rw [hr]; exact below_putObj h3 (by omega) _

theorem at_any (c : Cf) (p : Pl) (w : World) (hp : Pow w) : Calls Tryd.prog 10 #[cfv c, plv p] w (Ret2 (.int .i64 (atV c p)) (.int .i64 (atE c p)) w) := by
  cases e : okB c with
  | true => exact at_ok c p e w hp
  | false =>
    have e1 : atV c p = 0 := by unfold atV; rw [e]; rfl
    have e2 : atE c p = 40 := by unfold atE; rw [e]; rfl
    rw [e1, e2]
    exact at_bad c p e w
end Go.Proofs.YtmnlfhpkfgfpoaaDoor
