/- One access to a memory. -/
import Derived.Test.YtiaimenngmfnmaaCeTurn
import Derived.Deep.RegionHeld3
namespace Go.Proofs.Ytiaimenngmfnmaa
open Go.RowKit Ce

/-- An access that is refused. -/
def Refused (w : World) (e : Ending) (w' : World) : Prop := e = .returned (.tuple #[sv C4.zero false, .int .i64 2]) ∧ Below w.heap.size w w'
/-- An access that was done. -/
def Did (gm gr : Nat) (A : Option Addr) (n c : Nat) (cf : Nat → C4) (x : C4) (d : Bool) (w : World) (e : Ending) (w' : World) : Prop :=
  e = .returned (.tuple #[sv x d, .int .i64 0]) ∧ Mem w' gm gr A n c cf ∧ Only (fun k => k = gr) w w'

theorem refused5 {w w1 : World} {o1 o2 : Obj} {v0 v1 v2 v3 v4 : Value} (hb : Below ((w.alloc o1).alloc o2).heap.size ((w.alloc o1).alloc o2) w1) :
    Below w.heap.size w (((((w1.setCell ⟨w.heap.size + 1, 0, none⟩ v0).setCell ⟨w.heap.size + 1, 1, none⟩ v1).setCell ⟨w.heap.size + 1, 2, none⟩ v2).setCell ⟨w.heap.size + 1, 3, none⟩ v3).setCell ⟨w.heap.size + 1, 4, none⟩ v4) := by
  have h := below_then (below_two w o1 o2) hb
  exact ((((h.setCell (p := ⟨w.heap.size + 1, 0, none⟩) (by simp) _).setCell (p := ⟨w.heap.size + 1, 1, none⟩) (by simp) _).setCell (p := ⟨w.heap.size + 1, 2, none⟩) (by simp) _).setCell (p := ⟨w.heap.size + 1, 3, none⟩) (by simp) _).setCell (p := ⟨w.heap.size + 1, 4, none⟩) (by simp) _

set_option maxHeartbeats 1000000 in
theorem do_nil (a : Acc) (w : World) : Calls Try.prog 9 #[.pointer none, av a] w (Refused w) := by
  unfold av
  go_enter Try.func9, Try.ntmps9
  go_wp2_with (go_at_call 19; refine (has_nil _ _).mono ?_; rintro e w1 ⟨rfl, hb1⟩; obtain ⟨hc1, hf1⟩ := bcell hb1)
  exact bodyPost_ret (v := .tuple #[.agg #[.int .u64 0, .int .u64 0, .int .u64 0, .int .u64 0, .bool false], .int .i64 2]) (by simp [results, Try.results9, go_sem, hc1]) rfl ⟨rfl, refused5 hb1⟩

set_option maxHeartbeats 1000000 in
theorem do_low (gm : Nat) (a : Acc) (h : a.i < 0) (w : World) : Calls Try.prog 9 #[.pointer (some ⟨gm, 0, none⟩), av a] w (Refused w) := by
  have HH := Lib.hid h
  clear h
  unfold av
  go_enter Try.func9, Try.ntmps9
  go_wp2_with (go_at_call 19; refine (has_low _ _ HH.out _).mono ?_; rintro e w1 ⟨rfl, hb1⟩; obtain ⟨hc1, hf1⟩ := bcell hb1)
  exact bodyPost_ret (v := .tuple #[.agg #[.int .u64 0, .int .u64 0, .int .u64 0, .int .u64 0, .bool false], .int .i64 2]) (by simp [results, Try.results9, go_sem, hc1]) rfl ⟨rfl, refused5 hb1⟩

set_option maxHeartbeats 1000000 in
theorem do_high (gm : Nat) (A : Option Addr) (n c : Nat) (a : Acc) (h0 : 0 ≤ a.i) (h : decide (a.i < (n : Int)) = false) (w : World) (hc : w.cell? ⟨gm, 0, none⟩ = some (.slice A n c)) : Calls Try.prog 9 #[.pointer (some ⟨gm, 0, none⟩), av a] w (Refused w) := by
  have HH := Lib.hid h
  have HC := Lib.hid hc
  have H0 := Lib.hid h0
  clear h hc h0
  unfold av
  go_enter Try.func9, Try.ntmps9
  go_wp2_with (go_at_call 19; refine (has_any gm A n c _ false H0.out HH.out _ (((below_two w _ _).cell (World.block_lt_of_cell? _ _ HC.out)).trans HC.out)).mono ?_; rintro e w1 ⟨rfl, hb1⟩; obtain ⟨hc1, hf1⟩ := bcell hb1)
  exact bodyPost_ret (v := .tuple #[.agg #[.int .u64 0, .int .u64 0, .int .u64 0, .int .u64 0, .bool false], .int .i64 2]) (by simp [results, Try.results9, go_sem, hc1]) rfl ⟨rfl, refused5 hb1⟩

theorem fn_nil (W : World) : (binOp .eql 56 .nilFunc .nilFunc).run Try.prog W = .ok (.bool true) W := by kernel_rfl
theorem fn_some (f : FuncId) (p : Value) (W : World) : (binOp .eql 56 (.func (.func f) #[p] #[]) .nilFunc).run Try.prog W = .ok (.bool false) W := by kernel_rfl

set_option maxHeartbeats 1000000 in
theorem do_kind (gm : Nat) (A : Option Addr) (n c : Nat) (a : Acc) (h0 : 0 ≤ a.i) (h : decide (a.i < (n : Int)) = true) (hk : ¬ (1 ≤ a.k ∧ a.k ≤ 4)) (w : World) (hc : w.cell? ⟨gm, 0, none⟩ = some (.slice A n c)) : Calls Try.prog 9 #[.pointer (some ⟨gm, 0, none⟩), av a] w (Refused w) := by
  have HH := Lib.hid h
  have HC := Lib.hid hc
  have H0 := Lib.hid h0
  have HT : turnV a.k (.pointer (some ⟨gm, 0, none⟩)) = .nilFunc := by unfold turnV; rw [if_neg (by omega), if_neg (by omega), if_neg (by omega), if_neg (by omega)]
  have HV := Lib.hid HT
  have hq := fn_nil
  clear h hc h0 hk HT
  unfold av
  go_enter Try.func9, Try.ntmps9
  go_wp2_with (first
    | (go_at_call 19; refine (has_any gm A n c _ true H0.out HH.out _ (((below_two w _ _).cell (World.block_lt_of_cell? _ _ HC.out)).trans HC.out)).mono ?_; rintro e w1 ⟨rfl, hb1⟩; obtain ⟨hc1, hf1⟩ := bcell hb1; have hz1 : w.heap.size + 1 < w1.heap.size := by have := hb1.size; simp at this; omega)
    | (go_at_call 20; refine (turn_any _ gm _ HV.out _).mono ?_; rintro e w2 ⟨rfl, hb2⟩; obtain ⟨hc2, hf2⟩ := bcell hb2))
  exact bodyPost_ret (v := .tuple #[.agg #[.int .u64 0, .int .u64 0, .int .u64 0, .int .u64 0, .bool false], .int .i64 2]) (by simp [results, Try.results9, go_sem, hc1, hc2, hz1]) rfl ⟨rfl, refused5 (below_then hb1 hb2)⟩

theorem Ce.Mem.drew {w : World} {gm gr : Nat} {A : Option Addr} {n c : Nat} {cf : Nat → C4} (h : Mem w gm gr A n c cf) : Mem w.drew gm gr A n c cf := h.same fun _ _ => rfl
theorem row4 (w : World) (x : C4) : (w.alloc (.cells #[.int .u64 x.t, .int .u64 x.a, .int .u64 x.b, .int .u64 x.c] 25)).drew.rowIs w.heap.size 25 4 (fun j => if j = 0 then .int .u64 x.t else if j = 1 then .int .u64 x.a else if j = 2 then .int .u64 x.b else .int .u64 x.c) := by
  refine ⟨#[.int .u64 x.t, .int .u64 x.a, .int .u64 x.b, .int .u64 x.c], heap_alloc_new w _, rfl, fun j hj => ?_⟩
  match j, hj with
  | 0, _ => rfl
  | 1, _ => rfl
  | 2, _ => rfl
  | 3, _ => rfl

theorem Ce.Mem.apart {w w' : World} {gm gr : Nat} {A : Option Addr} {n c : Nat} {cf : Nat → C4} (h : Mem w gm gr A n c cf) (hs : ∀ k, k = gm ∨ k = gr → w'.heap[k]? = w.heap[k]?) : Mem w' gm gr A n c cf := by
  obtain ⟨h0, h1, h2, h3, h4⟩ := h
  refine ⟨(World.cell?_of_block (w := w) (hs gm (.inl rfl))).trans h0, h1, h2, h3, fun hn => ?_⟩
  obtain ⟨e, m, F, hr, hm, hF⟩ := h4 hn
  exact ⟨e, m, F, hr.of_block (hs gr (.inr rfl)), hm, hF⟩
theorem Ce.Mem.setCell {w : World} {gm gr : Nat} {A : Option Addr} {n c : Nat} {cf : Nat → C4} {g j : Nat} {v : Value} (h : Mem w gm gr A n c cf) (h1 : g ≠ gm) (h2 : g ≠ gr) : Mem (w.setCell ⟨g, j, none⟩ v) gm gr A n c cf :=
  h.apart fun k hk => Below.heap_setCell w _ v k (by rcases hk with rfl | rfl <;> intro e <;> simp at e <;> omega)
theorem did5 {w w4 : World} {gm gr : Nat} {A : Option Addr} {n c : Nat} {cf : Nat → C4} {v0 v1 v2 v3 v4 : Value} (h : Mem w4 gm gr A n c cf) (h1 : w.heap.size + 1 ≠ gm) (h2 : ¬ (w.heap.size + 1 = gr)) (hO : Only (fun k => k = gr) w w4) :
    Mem (((((w4.setCell ⟨w.heap.size + 1, 0, none⟩ v0).setCell ⟨w.heap.size + 1, 1, none⟩ v1).setCell ⟨w.heap.size + 1, 2, none⟩ v2).setCell ⟨w.heap.size + 1, 3, none⟩ v3).setCell ⟨w.heap.size + 1, 4, none⟩ v4) gm gr A n c cf ∧
    Only (fun k => k = gr) w (((((w4.setCell ⟨w.heap.size + 1, 0, none⟩ v0).setCell ⟨w.heap.size + 1, 1, none⟩ v1).setCell ⟨w.heap.size + 1, 2, none⟩ v2).setCell ⟨w.heap.size + 1, 3, none⟩ v3).setCell ⟨w.heap.size + 1, 4, none⟩ v4) := by
  refine ⟨((((h.setCell h1 h2).setCell h1 h2).setCell h1 h2).setCell h1 h2).setCell h1 h2, ?_⟩
  exact ((((hO.setCell (p := ⟨w.heap.size + 1, 0, none⟩) (.inr (by simp)) _).setCell (p := ⟨w.heap.size + 1, 1, none⟩) (.inr (by simp)) _).setCell (p := ⟨w.heap.size + 1, 2, none⟩) (.inr (by simp)) _).setCell (p := ⟨w.heap.size + 1, 3, none⟩) (.inr (by simp)) _).setCell (p := ⟨w.heap.size + 1, 4, none⟩) (.inr (by simp)) _

/-- What lies in the two blocks that Do lays first. -/
abbrev boxC : Obj := .cells #[.int .u64 0, .int .u64 0, .int .u64 0, .int .u64 0] 25
abbrev boxS : Obj := .cells #[.int .u64 0, .int .u64 0, .int .u64 0, .int .u64 0, .bool false] 27
theorem do_ahead {w w2 : World} {k i : Int} {o x : C4} (hb : Below ((w.alloc (boxA k i o x)).alloc boxS).heap.size ((w.alloc (boxA k i o x)).alloc boxS) w2) :
    (∀ j u, (l10 ⟨k, i, o, x⟩)[j]? = some u → w2.cell? ⟨w.heap.size, j, none⟩ = some u) ∧ w2.rowIs (w.heap.size + 1) 27 5 (fun j => if j = 4 then .bool false else .int .u64 0) ∧ w.heap.size + 2 ≤ w2.heap.size ∧ Below w.heap.size w w2 := by
  have hs : ((w.alloc (boxA k i o x)).alloc boxS).heap.size = w.heap.size + 2 := by simp
  refine ⟨fun j u hu => ?_, ?_, by have := hb.size; omega, below_then (below_two _ _ _) hb⟩
  · have h1 := boxed w k i o x j u hu
    have h2 := ((below_one (w.alloc (boxA k i o x)) boxS).cell (World.block_lt_of_cell? _ _ h1)).trans h1
    exact (hb.cell (World.block_lt_of_cell? _ _ h2)).trans h2
  · refine World.rowIs.of_block (w := (w.alloc (boxA k i o x)).alloc boxS) ?_ (hb.block _ (by omega))
    refine ⟨#[.int .u64 0, .int .u64 0, .int .u64 0, .int .u64 0, .bool false], ?_, rfl, fun j hj => ?_⟩
    · have := heap_alloc_new (w.alloc (boxA k i o x)) boxS
      simpa using this
    · match j, hj with
      | 0, _ => rfl
      | 1, _ => rfl
      | 2, _ => rfl
      | 3, _ => rfl
      | 4, _ => rfl

set_option maxHeartbeats 2000000 in
theorem do_turn (f : FuncId) (gm gr : Nat) (A : Option Addr) (n c : Nat) (cf cg : Nat → C4) (k : Int) (i : Nat) (o x : C4) (d : Bool) (hi : i < n) (w : World) (hM : Mem w gm gr A n c cf) (hcf : ∀ args W, (callFunc f args).run Try.prog W = .ok (.enter f args) W) (hT : turnV k (.pointer (some ⟨gm, 0, none⟩)) = .func (.func f) #[.pointer (some ⟨gm, 0, none⟩)] #[])
    (hf : ∀ W, Mem W gm gr A n c cf → Calls Try.prog f #[.pointer (some ⟨gm, 0, none⟩), av ⟨k, i, o, x⟩] W (Turned gm gr A n c cg d W)) :
    Calls Try.prog 9 #[.pointer (some ⟨gm, 0, none⟩), av ⟨k, i, o, x⟩] w (Did gm gr A n c cg (cf i) d w) := by
  have HM := Lib.hid hM
  have HV := Lib.hid hT
  have HI := Lib.hid (show decide ((i : Int) < (n : Int)) = true by simp; exact hi)
  have H0 := Lib.hid (show (0 : Int) ≤ (i : Int) by omega)
  have HFF := Lib.hid hf
  have hq := fun W => fn_some f (.pointer (some ⟨gm, 0, none⟩)) W
  clear hM hT hf
  unfold av
  go_enter Try.func9, Try.ntmps9
  go_wp2_with (first
    | (go_at_call 19; refine (has_any gm A n c _ true H0.out HI.out _ (((below_two w _ _).cell (World.block_lt_of_cell? _ _ HM.out.1)).trans HM.out.1)).mono ?_; rintro e w1 ⟨rfl, hb1⟩; obtain ⟨hc1, hf1⟩ := bcell hb1; have hz1 : w.heap.size + 1 < w1.heap.size := by have := hb1.size; simp at this; omega)
    | (go_at_call 20; refine (turn_any _ gm _ HV.out _).mono ?_; rintro e w2 ⟨rfl, hb2⟩; obtain ⟨hc2, hf2⟩ := bcell hb2))
  obtain ⟨hB, hS, hz, hb⟩ := do_ahead (o := o) (x := x) (below_then hb1 hb2)
  have hM2 := HM.out.same hb.block
  obtain ⟨m, F, rfl, hne, _, hm, hF, hlt, _⟩ := ahead (k := k) (o := o) (x := x) hi HM.out
  obtain ⟨h0, _, _, _, hM3⟩ := hM2
  obtain ⟨_, m2, F2, hr2, hm2, hF2⟩ := hM3 (by omega)
  obtain ⟨c0, c1, c2, c3⟩ := at4_of hr2 (o := i * 4) (by omega) (hF2 i hi)
  have b1 := hB 1 _ rfl
  have hA1 := fun a v (h : w2.cell? a = some v) => ((below_one w2 boxC).cell (World.block_lt_of_cell? _ _ h)).trans h
  have h0' := hA1 _ _ h0
  have c0' := hA1 _ _ c0
  have c1' := hA1 _ _ c1
  have c2' := hA1 _ _ c2
  have c3' := hA1 _ _ c3
  have b1' := hA1 _ _ b1
  clear hA1
  have i1 : (0 : Int) ≤ (i : Int) := by omega
  have i2 : (i : Int) < (n : Int) := by omega
  have g1 : ¬ (w2.heap.size = gr) := by omega
  have g2 : ¬ (w.heap.size + 1 = gr) := by omega
  have G1 := Lib.hid g1
  have HGM := Lib.hid (show w.heap.size + 1 ≠ gm by have := World.block_lt_of_cell? _ _ HM.out.1; simp at this; omega)
  have G2 := Lib.hid g2
  clear g1 g2 hc1 hf1 hc2 hf2 hz1 hM3 hm2 hF2 hr2 hF hm hlt
  have HB := Lib.hid hB
  have HS := Lib.hid hS
  have HNE := Lib.hid hne
  clear hB hS hne hb1 hb2
  go_region
  go_wp2
  obtain ⟨W3, hW3⟩ : ∃ W3, W3 = (w2.alloc (.cells #[.int .u64 (cf i).t, .int .u64 (cf i).a, .int .u64 (cf i).b, .int .u64 (cf i).c] 25)).drew := ⟨_, rfl⟩
  have hbW : Below w2.heap.size w2 W3 := by rw [hW3]; exact (below_one _ _).drew
  have hX : W3.rowIs w2.heap.size 25 4 (fun j => if j = 0 then .int .u64 (cf i).t else if j = 1 then .int .u64 (cf i).a else if j = 2 then .int .u64 (cf i).b else .int .u64 (cf i).c) := by rw [hW3]; exact row4 _ _
  rw [← hW3]
  have HM3 := Lib.hid (HM.out.same (below_then hb hbW).block)
  have hB3 := fun j u h => (hbW.cell (World.block_lt_of_cell? _ _ (HB.out j u h))).trans (HB.out j u h)
  have HX := Lib.hid hX
  have HS3 := Lib.hid (HS.out.of_block (hbW.block _ HS.out.lt))
  clear hX hW3 h0 h0' c0 c1 c2 c3 c0' c1' c2' c3' b1 b1'
  have b0 := hB3 0 _ rfl
  have b1 := hB3 1 _ rfl
  have b2 := hB3 2 _ rfl
  have b3 := hB3 3 _ rfl
  have b4 := hB3 4 _ rfl
  have b5 := hB3 5 _ rfl
  have b6 := hB3 6 _ rfl
  have b7 := hB3 7 _ rfl
  have b8 := hB3 8 _ rfl
  have b9 := hB3 9 _ rfl
  have x0 : W3.cell? ⟨w2.heap.size, 0, none⟩ = some (.int .u64 (cf i).t) := HX.out.cell (i := 0) (by omega)
  have x1 : W3.cell? ⟨w2.heap.size, 1, none⟩ = some (.int .u64 (cf i).a) := HX.out.cell (i := 1) (by omega)
  have x2 : W3.cell? ⟨w2.heap.size, 2, none⟩ = some (.int .u64 (cf i).b) := HX.out.cell (i := 2) (by omega)
  have x3 : W3.cell? ⟨w2.heap.size, 3, none⟩ = some (.int .u64 (cf i).c) := HX.out.cell (i := 3) (by omega)
  clear hB3
  go_region_with ((refine (HFF.out _ HM3.out.drew).mono ?_; rintro e w4 ⟨rfl, hM4, hO⟩; have HM4 := Lib.hid hM4; clear hM4
                   have y0 := hO.cell (p := ⟨w2.heap.size, 0, none⟩) x0 G1.out
                   have y1 := hO.cell (p := ⟨w2.heap.size, 1, none⟩) x1 G1.out
                   have y2 := hO.cell (p := ⟨w2.heap.size, 2, none⟩) x2 G1.out
                   have y3 := hO.cell (p := ⟨w2.heap.size, 3, none⟩) x3 G1.out
                   have hS4 := HS3.out.of_block (hO.block _ HS3.out.lt G2.out)
                   have s0 := hS4.cell (i := 0) (by omega)
                   have s1 := hS4.cell (i := 1) (by omega)
                   have s2 := hS4.cell (i := 2) (by omega)
                   have s3 := hS4.cell (i := 3) (by omega)
                   have s4 := hS4.cell (i := 4) (by omega)
                   have sf := hS4.frozen
                   clear hS4))
  all_goals
    go_wp2
    exact bodyPost_ret (v := .tuple #[.agg #[.int .u64 (cf i).t, .int .u64 (cf i).a, .int .u64 (cf i).b, .int .u64 (cf i).c, .bool d], .int .i64 0]) (by simp [results, Try.results9, go_sem, s0, s1, s2, s3, s4]) rfl ⟨rfl, did5 HM4.out HGM.out G2.out ((Only.of_below _ (below_then hb hbW).drew).trans hO)⟩
theorem body_load (args : Array Value) (W : World) : (callFunc 24 args).run Try.prog W = .ok (.enter 24 args) W := by kernel_rfl
theorem body_store (args : Array Value) (W : World) : (callFunc 25 args).run Try.prog W = .ok (.enter 25 args) W := by kernel_rfl
theorem body_exchange (args : Array Value) (W : World) : (callFunc 26 args).run Try.prog W = .ok (.enter 26 args) W := by kernel_rfl
theorem body_add (args : Array Value) (W : World) : (callFunc 27 args).run Try.prog W = .ok (.enter 27 args) W := by kernel_rfl

/-- An access that may be. -/
theorem do_ok (gm gr : Nat) (A : Option Addr) (n c : Nat) (cf : Nat → C4) (a : Acc) (hm : mayB n a = true) (w : World) (hM : Mem w gm gr A n c cf) :
    Calls Try.prog 9 #[.pointer (some ⟨gm, 0, none⟩), av a] w (Did gm gr A n c (upd cf a.i.toNat (becomes (cf a.i.toNat) a)) (cf a.i.toNat) (doneB (cf a.i.toNat) a) w) := by
  obtain ⟨k, j, o, x⟩ := a
  obtain ⟨h1, h2, h3, h4⟩ := may_true hm
  simp only at h1 h2 h3 h4
  obtain ⟨i, rfl⟩ := Int.eq_ofNat_of_zero_le h3
  have hi : i < n := by omega
  simp only [Int.toNat_natCast]
  have hk : k = 1 ∨ k = 2 ∨ k = 3 ∨ k = 4 := by omega
  rcases hk with rfl | rfl | rfl | rfl
  · have e1 : becomes (cf i) ⟨1, i, o, x⟩ = cf i := by simp [becomes]
    have e2 : doneB (cf i) ⟨1, i, o, x⟩ = true := by simp [doneB]
    rw [e1, e2, upd_self]
    exact do_turn 24 gm gr A n c cf cf 1 i o x true hi w hM body_load rfl fun W h => load_any gm gr A n c cf ⟨1, i, o, x⟩ W h
  · have e1 : becomes (cf i) ⟨2, i, o, x⟩ = x := by simp [becomes]
    have e2 : doneB (cf i) ⟨2, i, o, x⟩ = true := by simp [doneB]
    rw [e1, e2]
    exact do_turn 25 gm gr A n c cf _ 2 i o x true hi w hM body_store rfl fun W h => store_any gm gr A n c cf 2 i o x hi W h
  · have e2 : doneB (cf i) ⟨3, i, o, x⟩ = eqB (cf i) o := by simp [doneB]
    rw [e2]
    cases he : eqB (cf i) o with
    | false =>
      have e1 : becomes (cf i) ⟨3, i, o, x⟩ = cf i := by simp [becomes, he]
      rw [e1, upd_self]
      exact do_turn 26 gm gr A n c cf cf 3 i o x false hi w hM body_exchange rfl fun W h => exchange_no gm gr A n c cf 3 i o x hi he W h
    | true =>
      have e1 : becomes (cf i) ⟨3, i, o, x⟩ = x := by simp [becomes, he]
      rw [e1]
      exact do_turn 26 gm gr A n c cf _ 3 i o x true hi w hM body_exchange rfl fun W h => exchange_yes gm gr A n c cf 3 i o x hi he W h
  · have e1 : becomes (cf i) ⟨4, i, o, x⟩ = ⟨(cf i).t, IntKind.u64.wrap ((cf i).a + x.a), (cf i).b, (cf i).c⟩ := by simp [becomes]
    have e2 : doneB (cf i) ⟨4, i, o, x⟩ = true := by simp [doneB]
    rw [e1, e2]
    exact do_turn 27 gm gr A n c cf _ 4 i o x true hi w hM body_add rfl fun W h => add_any gm gr A n c cf 4 i o x hi W h

/-- An access that may not be. -/
theorem do_bad (gm gr : Nat) (A : Option Addr) (n c : Nat) (cf : Nat → C4) (a : Acc) (hm : mayB n a = false) (w : World) (hM : Mem w gm gr A n c cf) :
    Calls Try.prog 9 #[.pointer (some ⟨gm, 0, none⟩), av a] w (Refused w) := by
  have h := may_false hm
  by_cases h0 : 0 ≤ a.i
  · by_cases h1 : a.i < (n : Int)
    · exact do_kind gm A n c a h0 (by simp [h1]) (by omega) w hM.1
    · exact do_high gm A n c a h0 (by simp; omega) w hM.1
  · exact do_low gm a (by omega) w
end Go.Proofs.Ytiaimenngmfnmaa
