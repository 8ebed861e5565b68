/- The statements' own examples. -/
import Derived.Test.YtfjpcdcaoefelaaDoorTbPAny
namespace Go.Proofs.YtfjpcdcaoefelaaDoor
open Go.RowKit Go.Lib Tb Pt Opn

/-- The examples' config. -/
def cfC : Cf := ⟨1, 2, 1, 1, 0, 3, 2, 0, 1, 0, 131072, 0⟩
set_option maxHeartbeats 1000000 in
theorem conf_any (w : World) : Calls Tryd.prog 10 #[] w (Ret (cfv cfC) w) := by
  unfold cfv cfC
  go_enter Tryd.func10, Tryd.ntmps10
  go_wp2
  refine bodyPost_ret (v := .agg #[.int .u8 1, .int .i64 2, .int .i64 1, .int .u8 1, .int .i64 0, .int .i64 3, .int .i64 2, .int .i64 0, .int .i64 1, .int .i64 0, .int .u64 131072, .int .u64 0]) ?_ rfl ⟨rfl, ?_⟩
  · simp [results, Tryd.results10, go_sem]
  · exact below_one _ _

theorem Obs.keep {W X : World} (h : Obs W) (k : W.heap.size ≤ X.heap.size ∧ ∀ b j, b < W.heap.size → X.cell? ⟨b, j, none⟩ = W.cell? ⟨b, j, none⟩) : Obs X := fun j hj =>
  (k.2 _ _ (World.block_lt_of_cell? _ _ (h j hj))).trans (h j hj)

/-- Three cells that were made ahead of a call, and ahead of two. -/
abbrev Three (w : World) (g : Nat) (a b c : Value) : Prop := w.cell? ⟨g, 0, none⟩ = some a ∧ w.frozen? ⟨g, 0, none⟩ = false ∧ w.cell? ⟨g, 1, none⟩ = some b ∧ w.frozen? ⟨g, 1, none⟩ = false ∧ w.cell? ⟨g, 2, none⟩ = some c ∧ w.frozen? ⟨g, 2, none⟩ = false
theorem three_a {W w3 w4 : World} {a b c : Value} {t : TypeId} (h3 : Below (W.alloc (.cells #[a, b, c] t)).drew.heap.size (W.alloc (.cells #[a, b, c] t)).drew w3) (h4 : Below w3.heap.size w3 w4) : Three w4 W.heap.size a b c :=
  res_cells ((h4.block _ (by have := h3.size; simp at this; omega)).trans ((h3.block W.heap.size (by simp)).trans (heap_alloc_new W _)))
theorem three_b {w3 w4 : World} {a b c : Value} {t : TypeId} (h4 : Below (w3.alloc (.cells #[a, b, c] t)).heap.size (w3.alloc (.cells #[a, b, c] t)) w4) : Three w4 w3.heap.size a b c :=
  res_cells ((h4.block _ (by simp)).trans (heap_alloc_new w3 _))
theorem three_c {W w4 : World} {a b c : Value} {t : TypeId} (h4 : Below (W.alloc (.cells #[a, b, c] t)).drew.heap.size (W.alloc (.cells #[a, b, c] t)).drew w4) : Three w4 W.heap.size a b c :=
  res_cells ((h4.block _ (by simp)).trans (heap_alloc_new W _))

/-- What stands behind the first region: the rows, and the result's block. -/
def Lf (W X : World) (u : Value) (rows : List R) (g : Nat) (x y : Int) : Prop := IsRV X u rows ∧ Below W.heap.size W X ∧ X.cell? ⟨g, 0, none⟩ = some (.int .i64 x) ∧ X.cell? ⟨g, 1, none⟩ = some (.int .u32 y) ∧ X.cell? ⟨g, 2, none⟩ = some (.slice none 0 0)
theorem below_drew (w : World) : Below w.heap.size w w.drew := ⟨rfl, rfl, rfl, Nat.le_refl _, fun _ _ => rfl⟩
theorem below_set3 {W X : World} {g : Nat} (h : Below W.heap.size W X) (hg : W.heap.size ≤ g) (a b c : Value) : Below W.heap.size W (((X.setCell ⟨g, 0, none⟩ a).setCell ⟨g, 1, none⟩ b).setCell ⟨g, 2, none⟩ c) :=
  ((h.setCell hg _).setCell hg _).setCell hg _
theorem leaf_old {W w4 : World} {B g : Nat} {u a b c : Value} {rows : List R} (x y : Int) (hm : MadeX w4 B 24 2 rowL u rows) (hg : g < B) (hT : Three w4 g a b c) (hb : Below W.heap.size W w4) (hW : W.heap.size ≤ g) :
    Lf W (((w4.setCell ⟨g, 0, none⟩ (.int .i64 x)).setCell ⟨g, 1, none⟩ (.int .u32 y)).setCell ⟨g, 2, none⟩ (.slice none 0 0)) u rows g x y := by
  obtain ⟨r0, -, r1, -, r2, -⟩ := hT
  refine ⟨IsRV.turned hm (Below.refl _ _) hg _ _ _, below_set3 hb hW _ _ _, ?_, ?_, ?_⟩ <;> simp [go_sem, r0, r1, r2]
theorem leaf_new {W w4 : World} {B : Nat} {u : Value} {rows : List R} (x y : Int) (hm : MadeX w4 B 24 2 rowL u rows) (hb : Below W.heap.size W w4) (a b c : Value) (t : TypeId) :
    Lf W ((((w4.alloc (.cells #[a, b, c] t)).setCell ⟨w4.heap.size, 0, none⟩ (.int .i64 x)).setCell ⟨w4.heap.size, 1, none⟩ (.int .u32 y)).setCell ⟨w4.heap.size, 2, none⟩ (.slice none 0 0)) u rows w4.heap.size x y := by
  refine ⟨(IsRV.of hm).below (below_set3 (below_one _ _) (Nat.le_refl _) _ _ _), below_set3 (below_then hb (below_one _ _)) hb.size _ _ _, ?_, ?_, ?_⟩ <;> simp [go_sem]

theorem leaf_lit {W w4 : World} {B : Nat} {u : Value} {rows : List R} (x y : Int) (hm : MadeX w4 B 24 2 rowL u rows) (hb : Below W.heap.size W w4) (t : TypeId) :
    Lf W (w4.alloc (.cells #[.int .i64 x, .int .u32 y, .slice none 0 0] t)) u rows w4.heap.size x y := by
  refine ⟨(IsRV.of hm).below (below_one _ _), below_then hb (below_one _ _), ?_, ?_, ?_⟩ <;> simp [go_sem]

set_option maxRecDepth 100000 in
set_option maxHeartbeats 4000000 in
theorem does_any (A : Option Addr) (l : List R) (d : Nat) (hAn : A = none → l.length = 0 ∧ d = 0) (hl : l.length ≤ 1000) (o : O) (ho : Wf o) (code v : Int) (B : Option Addr) (want : List R) (dB : Nat) (w : World) (hp : Obs w) (h : IsR w A l) (hB : IsR w B want) :
    Calls Tryd.prog 11 #[.slice A l.length d, opv o, .int .i64 code, .int .u32 v, .slice B want.length dB] w
      (Ret (.bool (decide (doE cfC l = 0 ∧ (doR cfC l o).2.1 = code ∧ (doR cfC l o).2.2 = v ∧ (doR cfC l o).1 = want))) w) := by
  obtain ⟨W, hW⟩ : ∃ W, W = w.alloc (.cells #[.int .u8 (o.k : Nat), .int .u32 (o.a : Nat), .int .u32 (o.b : Nat), .int .u32 (o.c : Nat)] 35) := ⟨_, rfl⟩
  have hbW : Below w.heap.size w W := by rw [hW]; exact below_one _ _
  have hPW := hp.below hbW
  have hLW := h.below hbW
  have HBW := Lib.hid (hB.below hbW)
  have HDo := Lib.hid (fun X (k : W.heap.size ≤ X.heap.size ∧ ∀ b j, b < W.heap.size → X.cell? ⟨b, j, none⟩ = W.cell? ⟨b, j, none⟩) => do_any cfC A l d o ho hAn (by omega) X (hPW.keep k) (hLW.keep k))
  have HCF := Lib.hid conf_any
  have a0 : W.cell? ⟨w.heap.size, 0, none⟩ = some (.int .u8 (o.k : Nat)) := by rw [hW]; simp [go_sem]
  have a1 : W.cell? ⟨w.heap.size, 1, none⟩ = some (.int .u32 (o.a : Nat)) := by rw [hW]; simp [go_sem]
  have a2 : W.cell? ⟨w.heap.size, 2, none⟩ = some (.int .u32 (o.b : Nat)) := by rw [hW]; simp [go_sem]
  have a3 : W.cell? ⟨w.heap.size, 3, none⟩ = some (.int .u32 (o.c : Nat)) := by rw [hW]; simp [go_sem]
  have hs : w.heap.size < W.heap.size := by rw [hW]; simp
  have HSR := Lib.hid (fun C c (m : List R) hm X hC hX => rSameRows_any C B m want c dB hm X hC hX)
  generalize doR cfC l o = s at *
  generalize doE cfC l = er at *
  obtain ⟨rows, x, y⟩ := s
  generalize hN : l.length = N at *
  generalize hNB : want.length = NB at *
  have HW := Lib.hid hW
  clear hW hp h hB hPW hLW hN hNB hl hAn
  unfold cfv cfC at *
  unfold opv at *
  unfold Did4 resv at HDo
  simp only at HDo ⊢
  go_enter Tryd.func11, Tryd.ntmps11
  go_wp2
  rw [← HW.out]
  obtain ⟨q, hq⟩ : ∃ q, w.heap.size = q := ⟨_, rfl⟩
  rw [hq] at a0 a1 a2 a3 hs ⊢
  have mixed : Tryd.prog.follows Departure.mixedOrders = true := by kernel_rfl
  have b0 : (W.alloc (.cells #[.int .i64 0, .int .u32 0, .slice none 0 0] 29)).cell? ⟨q, 0, none⟩ = _ := ((keep1 W _).2 q 0 hs).trans a0
  have b1 : (W.alloc (.cells #[.int .i64 0, .int .u32 0, .slice none 0 0] 29)).cell? ⟨q, 1, none⟩ = _ := ((keep1 W _).2 q 1 hs).trans a1
  have b2 : (W.alloc (.cells #[.int .i64 0, .int .u32 0, .slice none 0 0] 29)).cell? ⟨q, 2, none⟩ = _ := ((keep1 W _).2 q 2 hs).trans a2
  have b3 : (W.alloc (.cells #[.int .i64 0, .int .u32 0, .slice none 0 0] 29)).cell? ⟨q, 3, none⟩ = _ := ((keep1 W _).2 q 3 hs).trans a3
  go_cut [11, 12, 13] (fun s11 s12 s13 wx => ∃ u g, s11 = u ∧ s12 = .pointer (some ⟨g, 0, none⟩) ∧ s13 = .int .i64 er ∧ Hid (Lf W wx u rows g x y))
  case first =>
    go_region_with (first
      | (go_at_call 10; refine (HCF.out _).mono ?_; rintro e w3 ⟨rfl, hb3⟩; (first | obtain ⟨hz3, hc3⟩ := keep_below hb3 (keep1 W _) | (obtain ⟨hz3, hc3⟩ := keep_below hb3 (keep0 W); obtain ⟨hz5, hc5⟩ := keep_alloc (keep_below hb3 (keep0 W)) (.cells #[.int .i64 0, .int .u32 0, .slice none 0 0] 29))))
      | (go_at_call 9; refine (HDo.out _ ?_).mono ?_; (first | with_reducible exact keep_below hb3 (keep1 W _) | with_reducible exact keep_alloc (keep_below hb3 (keep0 W)) _ | with_reducible exact keep_below hb3 (keep0 W)); rintro e w4 ⟨u, rfl, hM4, hb4⟩; have HM4 := Lib.hid hM4; clear hM4; (first | (have hT := three_a hb3 hb4; obtain ⟨r0, f0, r1, f1, r2, f2⟩ := hT) | (have hT := three_b hb4; obtain ⟨r0, f0, r1, f1, r2, f2⟩ := hT) | skip)))
    all_goals
      go_wp2_with fail
      go_meet
      refine ⟨_, _, rfl, rfl, rfl, Lib.hid ?_⟩
      first
        | with_reducible exact leaf_lit x y HM4.out (below_then (below_then (below_drew W) hb3) hb4) _
        | with_reducible exact leaf_new x y HM4.out (below_then (below_then (below_drew W) hb3) hb4) _ _ _ _
        | with_reducible exact leaf_old x y HM4.out (by simp; done) (three_b hb4) (below_then (below_then (below_then (below_drew W) hb3) (below_one _ _)) hb4) hz3
        | with_reducible exact leaf_old x y HM4.out (Nat.lt_of_lt_of_le (by simp) hb3.size) (three_a hb3 hb4) (below_then (below_then (below_then (below_one W _) (below_drew _)) hb3) hb4) (Nat.le_refl _)
  case rest =>
    obtain ⟨u, g, rfl, rfl, rfl, HL⟩ := hcut
    obtain ⟨r3, r4, r5⟩ := HL.out.2.2
    have HBB := Lib.hid (below_then hbW HL.out.2.1)
    obtain ⟨C, c, rfl, hcd, hCn, hCR⟩ := HL.out.1
    have HSX := Lib.hid (HSR.out C c rows (by omega) wc hCR (HBW.out.below HL.out.2.1))
    clear HL hcd hCn hCR HSR HDo HCF HBW mixed
    go_wp2_with (first | (go_at_call 16; refine HSX.out.mono ?_; rintro e w5 ⟨rfl, hb5⟩))
    · go_ret
      exact Ret.mk (by simp [*]) (below_then HBB.out hb5)
    all_goals (go_ret; exact Ret.mk (by simp [*]) HBB.out)
end Go.Proofs.YtfjpcdcaoefelaaDoor
