/- The statements' own examples: what stands behind a call of Do whose answer is laid in a block; whether an operation answers so. -/
import Derived.Test.YtohllaolbebogaaDoorOrDoP
import Derived.Deep.RegionWith
import Derived.Deep.DeepCutAuto
namespace Go.Proofs.YtohllaolbebogaaDoor
open Go.RowKit Go.Lib Tb Pt Opn

/-- The examples' config. -/
def cfI : Cf := ⟨2, 2, 1, 1, 0, 0, 3, 2, 1, 1, 131072, 0⟩
set_option maxHeartbeats 1000000 in
theorem iconf_any (w : World) : Calls Tryd.prog 12 #[] w (Ret (cfv cfI) w) := by
  unfold cfv cfI
  go_enter Tryd.func12, Tryd.ntmps12
  go_wp2
  refine bodyPost_ret (v := .agg #[.int .u8 2, .int .i64 2, .int .i64 1, .int .u8 1, .int .i64 0, .int .i64 0, .int .i64 3, .int .i64 2, .int .i64 1, .int .i64 1, .int .u64 131072, .int .u64 0]) ?_ rfl ⟨rfl, ?_⟩
  · simp [results, Tryd.results12, go_sem]
  · exact below_one _ _

theorem Obs.keep {W X : World} (h : Obs W) (k : W.heap.size ≤ X.heap.size ∧ ∀ b j, b < W.heap.size → X.cell? ⟨b, j, none⟩ = W.cell? ⟨b, j, none⟩) : Obs X := fun j hj =>
  (k.2 _ _ (World.block_lt_of_cell? _ _ (h j hj))).trans (h j hj)

theorem three_a {W w3 w4 : World} {a b c : Value} {t : TypeId} (h3 : Below (W.alloc (.cells #[a, b, c] t)).drew.heap.size (W.alloc (.cells #[a, b, c] t)).drew w3) (h4 : Below w3.heap.size w3 w4) : Three w4 W.heap.size a b c :=
  res_cells ((h4.block _ (by have := h3.size; simp at this; omega)).trans ((h3.block W.heap.size (by simp)).trans (heap_alloc_new W _)))
theorem three_b {w3 w4 : World} {a b c : Value} {t : TypeId} (h4 : Below (w3.alloc (.cells #[a, b, c] t)).heap.size (w3.alloc (.cells #[a, b, c] t)) w4) : Three w4 w3.heap.size a b c :=
  res_cells ((h4.block _ (by simp)).trans (heap_alloc_new w3 _))
/-- What came first: the result's block was made ahead of the call. -/
theorem three_d {W w4 : World} {a b c : Value} {t : TypeId} (h4 : Below (W.alloc (.cells #[a, b, c] t)).drew.heap.size (W.alloc (.cells #[a, b, c] t)).drew w4) : Three w4 W.heap.size a b c :=
  res_cells ((h4.block _ (by simp)).trans (heap_alloc_new W _))

/-- What stands behind the first region: the rows, the answer's rows, and the answer's block. -/
def Lf (W X : World) (u : Value) (rows : List R) (r : Value) (res : List R) (g : Nat) (x y : Int) : Prop := IsRV X u rows ∧ IsRV X r res ∧ Below W.heap.size W X ∧ X.cell? ⟨g, 0, none⟩ = some (.int .i64 x) ∧ X.cell? ⟨g, 1, none⟩ = some (.int .u32 y) ∧ X.cell? ⟨g, 2, none⟩ = some r
theorem isrv_set3 {w : World} {v : Value} {l : List R} {g : Nat} {a c : Int} (h : IsRV w v l) (hT : Three w g (.int .i64 a) (.int .u32 c) (.slice none 0 0)) (x y z : Value) :
    IsRV (((w.setCell ⟨g, 0, none⟩ x).setCell ⟨g, 1, none⟩ y).setCell ⟨g, 2, none⟩ z) v l := by
  obtain ⟨A, c, rfl, h1, h2, h3⟩ := h
  exact ⟨A, c, rfl, h1, h2, isr_set3 h3 hT _ _ _⟩
theorem isrv_form {w : World} {v : Value} {l : List R} {n : Nat} (h : IsRV w v l) (hn : l.length = n) : ∃ A c, v = .slice A n c ∧ IsRV w (.slice A n c) l := by
  obtain ⟨A, c, rfl, h1, h2, h3⟩ := h
  exact ⟨A, c, by rw [hn], A, c, by rw [hn], h1, h2, h3⟩
theorem leaf_set {W w4 : World} {g : Nat} {u r : Value} {rows res : List R} (x y : Int) (hm : IsRV w4 u rows) (hn : IsRV w4 r res) (hT : Three w4 g (.int .i64 0) (.int .u32 0) (.slice none 0 0)) (hb : Below W.heap.size W w4) (hW : W.heap.size ≤ g) :
    Lf W (((w4.setCell ⟨g, 0, none⟩ (.int .i64 x)).setCell ⟨g, 1, none⟩ (.int .u32 y)).setCell ⟨g, 2, none⟩ r) u rows r res g x y := by
  refine ⟨isrv_set3 hm hT _ _ _, isrv_set3 hn hT _ _ _, below_set3 hb hW _ _ _, ?_⟩
  obtain ⟨r0, -, r1, -, r2, -⟩ := hT
  refine ⟨?_, ?_, ?_⟩ <;> simp [go_sem, r0, r1, r2]
theorem leaf_new {W w4 : World} {u r : Value} {rows res : List R} (x y : Int) (hm : IsRV w4 u rows) (hn : IsRV w4 r res) (hb : Below W.heap.size W w4) (t : TypeId) :
    Lf W ((((w4.alloc (.cells #[.int .i64 0, .int .u32 0, .slice none 0 0] t)).setCell ⟨w4.heap.size, 0, none⟩ (.int .i64 x)).setCell ⟨w4.heap.size, 1, none⟩ (.int .u32 y)).setCell ⟨w4.heap.size, 2, none⟩ r) u rows r res w4.heap.size x y := by
  have b := below_set3 (below_one w4 (.cells #[.int .i64 0, .int .u32 0, .slice none 0 0] t)) (Nat.le_refl _) (.int .i64 x) (.int .u32 y) r
  refine ⟨hm.below b, hn.below b, below_then hb b, ?_, ?_, ?_⟩ <;> simp [go_sem]
theorem leaf_lit {W w4 : World} {u r : Value} {rows res : List R} (x y : Int) (hm : IsRV w4 u rows) (hn : IsRV w4 r res) (hb : Below W.heap.size W w4) (t : TypeId) :
    Lf W (w4.alloc (.cells #[.int .i64 x, .int .u32 y, r] t)) u rows r res w4.heap.size x y := by
  refine ⟨hm.below (below_one _ _), hn.below (below_one _ _), below_then hb (below_one _ _), ?_, ?_, ?_⟩ <;> simp [go_sem]

set_option maxRecDepth 100000 in
set_option maxHeartbeats 8000000 in
theorem idoes_any (A : Option Addr) (l : List R) (d : Nat) (hAn : A = none → l.length = 0 ∧ d = 0) (hl : l.length ≤ 1000) (o : O) (ho : Wf o) (code v : Int) (B : Option Addr) (want : List R) (dB : Nat) (many : Nat) (w : World) (hp : Obs w) (h : IsR w A l) (hB : IsR w B want) (_ : want.length ≤ 1000000) :
    Calls Tryd.prog 13 #[.slice A l.length d, opv o, .agg #[.int .i64 code, .int .u32 v, .slice B want.length dB], .int .i64 many] w
      (Ret (.bool (decide (doOE cfI l = 0 ∧ (doOR cfI l o).2.1 = code ∧ (doOR cfI l o).2.2.1 = v ∧ (doOR cfI l o).2.2.2 = want ∧ (doOR cfI l o).1.length = many))) w) := by
  obtain ⟨nb, hnb⟩ : ∃ n, want.length = n := ⟨_, rfl⟩
  obtain ⟨W, hW⟩ : ∃ W, W = (w.alloc (.cells #[.int .u8 (o.k : Nat), .int .u32 (o.a : Nat), .int .u32 (o.b : Nat), .int .u32 (o.c : Nat)] 34)).alloc (.cells #[.int .i64 code, .int .u32 v, .slice B nb dB] 27) := ⟨_, rfl⟩
  have hbW : Below w.heap.size w W := by rw [hW]; exact below_two _ _ _
  have hPW := hp.below hbW
  have hLW := h.below hbW
  have HBW := Lib.hid (hB.below hbW)
  have HDo := Lib.hid (fun X (k : W.heap.size ≤ X.heap.size ∧ ∀ b j, b < W.heap.size → X.cell? ⟨b, j, none⟩ = W.cell? ⟨b, j, none⟩) => odo_any cfI A l d o ho hAn (by omega) X (hPW.keep k) (hLW.keep k))
  have HCF := Lib.hid iconf_any
  have a0 : W.cell? ⟨w.heap.size, 0, none⟩ = some (.int .u8 (o.k : Nat)) := by rw [hW]; simp [go_sem]
  have a1 : W.cell? ⟨w.heap.size, 1, none⟩ = some (.int .u32 (o.a : Nat)) := by rw [hW]; simp [go_sem]
  have a2 : W.cell? ⟨w.heap.size, 2, none⟩ = some (.int .u32 (o.b : Nat)) := by rw [hW]; simp [go_sem]
  have a3 : W.cell? ⟨w.heap.size, 3, none⟩ = some (.int .u32 (o.c : Nat)) := by rw [hW]; simp [go_sem]
  have a4 : W.cell? ⟨w.heap.size + 1, 0, none⟩ = some (.int .i64 code) := by rw [hW]; simp [go_sem]
  have a5 : W.cell? ⟨w.heap.size + 1, 1, none⟩ = some (.int .u32 v) := by rw [hW]; simp [go_sem]
  have a6 : W.cell? ⟨w.heap.size + 1, 2, none⟩ = some (.slice B nb dB) := by rw [hW]; simp [go_sem]
  have hs : w.heap.size < W.heap.size := by rw [hW]; simp; omega
  have hs1 : w.heap.size + 1 < W.heap.size := by rw [hW]; simp
  have HSR := Lib.hid (fun x y C c (m : List R) (hm : m.length ≤ 9223372036854775807) X hC hX => rSameRes_any x y code v C B m want c dB hm X hC hX)
  generalize doOR cfI l o = s at *
  generalize doOE cfI l = er at *
  obtain ⟨rows, x, y, res⟩ := s
  generalize hN : l.length = N at *
  rw [hnb] at HSR ⊢
  have HW := Lib.hid hW
  clear hW hp h hB hPW hLW hN hl hAn hnb
  unfold cfv cfI at *
  unfold opv at *
  unfold resv at HSR
  unfold Did7 at HDo
  simp only at HDo ⊢
  obtain ⟨nr, hnr⟩ : ∃ n, res.length = n := ⟨_, rfl⟩
  obtain ⟨na, hna⟩ : ∃ n, rows.length = n := ⟨_, rfl⟩
  have HNR := Lib.hid hnr
  have HNA := Lib.hid hna
  rw [hna]
  clear hnr hna
  obtain ⟨z, hz⟩ : ∃ z, decide (er = 0 ∧ x = code ∧ y = v ∧ res = want ∧ na = many) = z := ⟨_, rfl⟩
  rw [hz]
  have HZ := Lib.hid hz
  clear hz
  go_enter Tryd.func13, Tryd.ntmps13
  go_wp2
  rw [← HW.out]
  obtain ⟨q, hq⟩ : ∃ q, w.heap.size = q := ⟨_, rfl⟩
  rw [hq] at a0 a1 a2 a3 a4 a5 a6 hs hs1 ⊢
  have mixed : Tryd.prog.follows Departure.mixedOrders = true := by kernel_rfl
  have b0 : (W.alloc (.cells #[.int .i64 0, .int .u32 0, .slice none 0 0] 27)).cell? ⟨q, 0, none⟩ = _ := ((keep1 W _).2 q 0 hs).trans a0
  have b1 : (W.alloc (.cells #[.int .i64 0, .int .u32 0, .slice none 0 0] 27)).cell? ⟨q, 1, none⟩ = _ := ((keep1 W _).2 q 1 hs).trans a1
  have b2 : (W.alloc (.cells #[.int .i64 0, .int .u32 0, .slice none 0 0] 27)).cell? ⟨q, 2, none⟩ = _ := ((keep1 W _).2 q 2 hs).trans a2
  have b3 : (W.alloc (.cells #[.int .i64 0, .int .u32 0, .slice none 0 0] 27)).cell? ⟨q, 3, none⟩ = _ := ((keep1 W _).2 q 3 hs).trans a3
  go_cut [9, 10, 11] (fun s11 s12 s13 wx => ∃ u r g, s11 = u ∧ s12 = .pointer (some ⟨g, 0, none⟩) ∧ s13 = .int .i64 er ∧ Hid (Lf W wx u rows r res g x y))
  case first =>
    go_region_with (first
      | (go_at_call 12; refine (HCF.out _).mono ?_; rintro e w3 ⟨rfl, hb3⟩; (first | obtain ⟨hz3, hc3⟩ := keep_below hb3 (keep1 W _) | (obtain ⟨hz3, hc3⟩ := keep_below hb3 (keep0 W); obtain ⟨hz5, hc5⟩ := keep_alloc (keep_below hb3 (keep0 W)) (.cells #[.int .i64 0, .int .u32 0, .slice none 0 0] 27))))
      | (go_at_call 11; refine (HDo.out _ ?_).mono ?_; (first | with_reducible exact keep_below hb3 (keep1 W _) | with_reducible exact keep_alloc (keep_below hb3 (keep0 W)) _ | with_reducible exact keep_below hb3 (keep0 W)); rintro e w4 ⟨u, r, rfl, hM4, hN4, _, hb4⟩; have HM4 := Lib.hid (IsRV.of hM4); obtain ⟨Ar, cr, rfl, hNr⟩ := isrv_form (IsRV.of hN4) HNR.out; have HN4 := Lib.hid hNr; clear hM4 hN4 hNr; (first | (have hT := three_a hb3 hb4; obtain ⟨r0, f0, r1, f1, r2, f2⟩ := hT) | (have hT := three_b hb4; obtain ⟨r0, f0, r1, f1, r2, f2⟩ := hT) | skip)))
    all_goals
      go_wp2_with fail
      go_meet
      refine ⟨_, .slice Ar nr cr, _, rfl, rfl, rfl, Lib.hid ?_⟩
      first
        | with_reducible exact leaf_lit x y HM4.out HN4.out (below_then (below_then (below_drew W) hb3) hb4) _
        | with_reducible exact leaf_new x y HM4.out HN4.out (below_then (below_then (below_drew W) hb3) hb4) _
        | with_reducible exact leaf_set x y HM4.out HN4.out (three_b hb4) (below_then (below_then (below_then (below_drew W) hb3) (below_one _ _)) hb4) hz3
        | with_reducible exact leaf_set x y HM4.out HN4.out (three_a hb3 hb4) (below_then (below_then (below_then (below_one W _) (below_drew _)) hb3) hb4) (Nat.le_refl _)
  case rest =>
    obtain ⟨u, r, g, rfl, rfl, rfl, HL⟩ := hcut
    obtain ⟨r3, r4, r5⟩ := HL.out.2.2.2
    have hbx := HL.out.2.2.1
    have HBB := Lib.hid (below_then hbW hbx)
    obtain ⟨C, c, rfl, hCR⟩ := isrv_form HL.out.1 HNA.out
    obtain ⟨C2, c2, e2, hc2, hCn2, hCR2⟩ := HL.out.2.1
    rw [HNR.out] at e2
    subst e2
    have HSX := Lib.hid (HSR.out x y C2 c2 res (by omega) wc hCR2 (HBW.out.below hbx))
    rw [HNR.out] at HSX
    replace a4 := (hbx.cell hs1).trans a4
    replace a5 := ((bcell hbx).1 _ _ hs1).trans a5
    replace a6 := ((bcell hbx).1 _ _ hs1).trans a6
    clear HL hCR hc2 hCn2 hCR2 HSR HDo HCF HBW mixed hbx b0 b1 b2 b3 a0 a1 a2 a3
    by_cases h1 : er = 0
    · subst h1
      by_cases h2 : x = code ∧ y = v ∧ res = want
      · rw [decide_eq_true h2] at HSX
        by_cases h3 : na = many
        · have h4 : (na : Int) = (many : Int) := by omega
          have ez := Lib.hid (show z = true by rw [← HZ.out]; exact decide_eq_true ⟨rfl, h2.1, h2.2.1, h2.2.2, h3⟩)
          clear h2
          go_wp2_with (first | (go_at_call 19; refine HSX.out.mono ?_; rintro e w5 ⟨rfl, hb5⟩))
          go_ret
          exact Ret.mk (by rw [ez.out]; first | rfl | simp) (below_then HBB.out hb5)
        · have h4 : ¬ (na : Int) = (many : Int) := by omega
          have ez := Lib.hid (show z = false by rw [← HZ.out]; exact decide_eq_false fun k => h3 k.2.2.2.2)
          clear h2
          go_wp2_with (first | (go_at_call 19; refine HSX.out.mono ?_; rintro e w5 ⟨rfl, hb5⟩))
          go_ret
          exact Ret.mk (by rw [ez.out]; simp [h4]) (below_then HBB.out hb5)
      · rw [decide_eq_false h2] at HSX
        have ez := Lib.hid (show z = false by rw [← HZ.out]; exact decide_eq_false fun k => h2 ⟨k.2.1, k.2.2.1, k.2.2.2.1⟩)
        clear h2
        go_wp2_with (first | (go_at_call 19; refine HSX.out.mono ?_; rintro e w5 ⟨rfl, hb5⟩))
        go_ret
        exact Ret.mk (by rw [ez.out]; first | rfl | simp) (below_then HBB.out hb5)
    · have ez := Lib.hid (show z = false by rw [← HZ.out]; exact decide_eq_false fun k => h1 k.1)
      go_wp2
      go_ret
      exact Ret.mk (by rw [ez.out]; simp) HBB.out
end Go.Proofs.YtohllaolbebogaaDoor
