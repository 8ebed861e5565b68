/- The document's answers of layer 2: which accesses may be, what they make of a cell, one access, a row of them. -/
import Derived.Test.YtiaimenngmfnmaaCeRun
import Derived.Deep.DeepCutAuto
namespace Go.Proofs.Ytiaimenngmfnmaa
open Go.RowKit Ce

set_option maxHeartbeats 2000000 in
theorem rMay_any (n : Nat) (k i : Int) (o x : C4) (w : World) : Calls Try.prog 22 #[.int .i64 n, av ⟨k, i, o, x⟩] w (Ret (.bool (mayB n ⟨k, i, o, x⟩)) w) := by
  unfold av
  by_cases h0 : 1 ≤ k
  · by_cases h1 : k ≤ 4
    · by_cases h2 : 0 ≤ i
      · by_cases h3 : i < (n : Int)
        · rw [show mayB n ⟨k, i, o, x⟩ = true by unfold mayB; rw [decide_eq_true_iff]; exact ⟨h0, h1, h2, h3⟩]
          go_enter Try.func22, Try.ntmps22
          go_wp2
          go_ret
          exact Ret.mk rfl (below_one _ _)
        · rw [show mayB n ⟨k, i, o, x⟩ = false by unfold mayB; rw [decide_eq_false_iff_not]; exact fun h => h3 h.2.2.2]
          go_enter Try.func22, Try.ntmps22
          go_wp2
          go_ret
          exact Ret.mk rfl (below_one _ _)
      · rw [show mayB n ⟨k, i, o, x⟩ = false by unfold mayB; rw [decide_eq_false_iff_not]; exact fun h => h2 h.2.2.1]
        go_enter Try.func22, Try.ntmps22
        go_wp2
        go_ret
        exact Ret.mk rfl (below_one _ _)
    · rw [show mayB n ⟨k, i, o, x⟩ = false by unfold mayB; rw [decide_eq_false_iff_not]; exact fun h => h1 h.2.1]
      go_enter Try.func22, Try.ntmps22
      go_wp2
      go_ret
      exact Ret.mk rfl (below_one _ _)
  · rw [show mayB n ⟨k, i, o, x⟩ = false by unfold mayB; rw [decide_eq_false_iff_not]; exact fun h => h0 h.1]
    go_enter Try.func22, Try.ntmps22
    go_wp2
    go_ret
    exact Ret.mk rfl (below_one _ _)

theorem ret_four {w w1 : World} {o1 o2 o3 : Obj} {v0 v1 v2 v3 : Value} (hb : Below (((w.alloc o1).alloc o2).alloc o3).heap.size (((w.alloc o1).alloc o2).alloc o3) w1) :
    Below w.heap.size w ((((w1.setCell ⟨w.heap.size + 1 + 1, 0, none⟩ v0).setCell ⟨w.heap.size + 1 + 1, 1, none⟩ v1).setCell ⟨w.heap.size + 1 + 1, 2, none⟩ v2).setCell ⟨w.heap.size + 1 + 1, 3, none⟩ v3) := by
  have h := below_then (below_three w o1 o2 o3) hb
  exact (((h.setCell (p := ⟨w.heap.size + 1 + 1, 0, none⟩) (by simp; omega) _).setCell (p := ⟨w.heap.size + 1 + 1, 1, none⟩) (by simp; omega) _).setCell (p := ⟨w.heap.size + 1 + 1, 2, none⟩) (by simp; omega) _).setCell (p := ⟨w.heap.size + 1 + 1, 3, none⟩) (by simp; omega) _

set_option maxHeartbeats 4000000 in
theorem rBecomes_any (y : C4) (k i : Int) (o x : C4) (w : World) : Calls Try.prog 23 #[cv y, av ⟨k, i, o, x⟩] w (Ret2 (cv (becomes y ⟨k, i, o, x⟩)) (.bool (doneB y ⟨k, i, o, x⟩)) w) := by
  unfold cv av
  by_cases h2 : k = 2
  · subst h2
    go_enter Try.func23, Try.ntmps23
    go_wp2
    exact bodyPost_ret (v := .tuple #[.agg #[.int .u64 x.t, .int .u64 x.a, .int .u64 x.b, .int .u64 x.c], .bool true]) (by simp [results, Try.results23, go_sem]) rfl (Ret2.mk (by simp [becomes]) (by simp [doneB]) (below_three _ _ _ _))
  have z2 : (k == 2) = false := by simpa using h2
  by_cases h3 : k = 3
  · subst h3
    cases he : eqB y o with
    | true =>
      have HE := Lib.hid he
      clear h2
      go_enter Try.func23, Try.ntmps23
      go_wp2_with (go_at_call 16; refine (rSame_true y o (eqB_iff.1 HE.out) _).mono ?_; rintro e w1 ⟨rfl, hb1⟩; obtain ⟨hc1, hf1⟩ := bcell hb1)
      exact bodyPost_ret (v := .tuple #[.agg #[.int .u64 x.t, .int .u64 x.a, .int .u64 x.b, .int .u64 x.c], .bool true]) (by simp [results, Try.results23, go_sem, hc1]) rfl (Ret2.mk (by simp [becomes, HE.out]) (by simp [doneB, HE.out]) (ret_four hb1))
    | false =>
      have HE := Lib.hid (show y ≠ o from fun e => by rw [eqB_iff.2 e] at he; cases he)
      have HF := Lib.hid he
      clear h2 he
      go_enter Try.func23, Try.ntmps23
      go_wp2_with (go_at_call 16; refine (rSame_false y o HE.out _).mono ?_; rintro e w1 ⟨rfl, hb1⟩; obtain ⟨hc1, hf1⟩ := bcell hb1)
      exact bodyPost_ret (v := .tuple #[.agg #[.int .u64 y.t, .int .u64 y.a, .int .u64 y.b, .int .u64 y.c], .bool false]) (by simp [results, Try.results23, go_sem, hc1]) rfl (Ret2.mk (by simp [becomes, HF.out]) (by simp [doneB, HF.out]) (ret_four hb1))
  have z3 : (k == 3) = false := by simpa using h3
  by_cases h4 : k = 4
  · subst h4
    clear h2 h3
    go_enter Try.func23, Try.ntmps23
    go_wp2
    exact bodyPost_ret (v := .tuple #[.agg #[.int .u64 y.t, .int .u64 (IntKind.u64.wrap (y.a + x.a)), .int .u64 y.b, .int .u64 y.c], .bool true]) (by simp [results, Try.results23, go_sem]) rfl (Ret2.mk (by simp [becomes]) (by simp [doneB]) (below_three _ _ _ _))
  have z4 : (k == 4) = false := by simpa using h4
  go_enter Try.func23, Try.ntmps23
  go_wp2
  exact bodyPost_ret (v := .tuple #[.agg #[.int .u64 y.t, .int .u64 y.a, .int .u64 y.b, .int .u64 y.c], .bool true]) (by simp [results, Try.results23, go_sem]) rfl (Ret2.mk (by simp [becomes, h2, h3, h4]) (by simp [doneB, h3]) (below_three _ _ _ _))

/-- One access by the document: refused, the row as it came in; or done, a row of its own. -/
def RefNo (A : Option Addr) (n c : Nat) (w : World) (e : Ending) (w' : World) : Prop := e = .returned (.tuple #[.slice A n c, sv C4.zero false, .int .i64 2]) ∧ Below w.heap.size w w'
def RefYes (n : Nat) (cf : Nat → C4) (x : C4) (d : Bool) (w : World) (e : Ending) (w' : World) : Prop :=
  ∃ A c, e = .returned (.tuple #[.slice A n c, sv x d, .int .i64 0]) ∧ (A = none → n = 0 ∧ c = 0) ∧ Own w' w.heap.size 25 4 A n c (fun i => l4 (cf i)) ∧ Below w.heap.size w w'

set_option maxHeartbeats 4000000 in
theorem rDo_no (A : Option Addr) (n c : Nat) (k i : Int) (o x : C4) (hm : mayB n ⟨k, i, o, x⟩ = false) (w : World) : Calls Try.prog 15 #[.slice A n c, av ⟨k, i, o, x⟩] w (RefNo A n c w) := by
  have HM := Lib.hid hm
  clear hm
  unfold av
  go_enter Try.func15, Try.ntmps15
  go_wp2_with (go_at_call 22; refine (rMay_any n k i o x _).mono ?_; rintro e w1 ⟨rfl, hb1⟩; rw [HM.out]; obtain ⟨hc1, hf1⟩ := bcell hb1)
  exact bodyPost_ret (v := .tuple #[.slice A n c, .agg #[.int .u64 0, .int .u64 0, .int .u64 0, .int .u64 0, .bool false], .int .i64 2]) (by simp [results, Try.results15, go_sem, hc1]) rfl ⟨rfl, refused5 hb1⟩

theorem rBecomes_is (y : C4) (k i : Int) (o x Y : C4) (D : Bool) (hY : becomes y ⟨k, i, o, x⟩ = Y) (hD : doneB y ⟨k, i, o, x⟩ = D) (w : World) : Calls Try.prog 23 #[cv y, av ⟨k, i, o, x⟩] w (Ret2 (cv Y) (.bool D) w) := by
  subst hY hD; exact rBecomes_any y k i o x w

/-- A struct of four words lies in a new block; what was there is as it was. -/
def Mid (W : World) (y : C4) (g : Nat) (wx : World) : Prop := (∃ F, wx.rowIs g 25 4 F ∧ HasL F 0 (l4 y)) ∧ W.heap.size ≤ g ∧ Below W.heap.size W wx
theorem mid_first {W w3 : World} {y : C4} (hb : Below (W.alloc boxC).drew.heap.size (W.alloc boxC).drew w3) :
    Mid W y W.heap.size ((((w3.setCell ⟨W.heap.size, 0, none⟩ (.int .u64 y.t)).setCell ⟨W.heap.size, 1, none⟩ (.int .u64 y.a)).setCell ⟨W.heap.size, 2, none⟩ (.int .u64 y.b)).setCell ⟨W.heap.size, 3, none⟩ (.int .u64 y.c)) := by
  have h0 := (row4 W C4.zero).of_block (hb.block W.heap.size (by simp))
  obtain ⟨G, hG, h1, _⟩ := set4 h0 0 y
  simp only [Nat.zero_mul, Nat.zero_add] at hG h1
  have hbb : Below W.heap.size W w3 := below_then (below_one W boxC).drew hb
  exact ⟨⟨G, hG, h1⟩, Nat.le_refl _, (((hbb.setCell (p := ⟨W.heap.size, 0, none⟩) (Nat.le_refl _) _).setCell (p := ⟨W.heap.size, 1, none⟩) (Nat.le_refl _) _).setCell (p := ⟨W.heap.size, 2, none⟩) (Nat.le_refl _) _).setCell (p := ⟨W.heap.size, 3, none⟩) (Nat.le_refl _) _⟩
theorem mid_last {W w3 : World} {y : C4} (hb : Below W.drew.heap.size W.drew w3) : Mid W y w3.heap.size (w3.alloc (.cells #[.int .u64 y.t, .int .u64 y.a, .int .u64 y.b, .int .u64 y.c] 25)) := by
  have hs := hb.size
  simp at hs
  have hbb : Below W.heap.size W w3 := ⟨hb.os, hb.tape, hb.output, hb.size, hb.block⟩
  refine ⟨⟨_, row4 w3 y, fun j u hu => ?_⟩, hs, hbb.alloc hs _⟩
  match j, hu with
  | 0, hu => simpa [l4] using hu
  | 1, hu => simpa [l4] using hu
  | 2, hu => simpa [l4] using hu
  | 3, hu => simpa [l4] using hu

theorem own_block {W W' : World} {B g : Nat} {e : TypeId} {s n c : Nat} {f : Nat → List Value} (hO : Own W B e s (some ⟨g, 0, none⟩) n c f) (h : W'.heap[g]? = W.heap[g]?) : Own W' B e s (some ⟨g, 0, none⟩) n c f := by
  refine ⟨hO.1, hO.2.1, fun hn => ?_⟩
  obtain ⟨g', e', hB, m, F, hr, hm, hF⟩ := hO.2.2 hn
  cases e'
  exact ⟨g, rfl, hB, m, F, hr.of_block h, hm, hF⟩
/-- Behind the five stores of what was seen. -/
theorem done5 {w W : World} {B g q : Nat} {e : TypeId} {s n c : Nat} {f : Nat → List Value} {v0 v1 v2 v3 v4 : Value} (hne : q + 1 ≠ g) (hO : Own W B e s (some ⟨g, 0, none⟩) n c f) (hb : Below q w W) :
    Own (((((W.setCell ⟨q + 1, 0, none⟩ v0).setCell ⟨q + 1, 1, none⟩ v1).setCell ⟨q + 1, 2, none⟩ v2).setCell ⟨q + 1, 3, none⟩ v3).setCell ⟨q + 1, 4, none⟩ v4).drew B e s (some ⟨g, 0, none⟩) n c f ∧
    Below q w (((((W.setCell ⟨q + 1, 0, none⟩ v0).setCell ⟨q + 1, 1, none⟩ v1).setCell ⟨q + 1, 2, none⟩ v2).setCell ⟨q + 1, 3, none⟩ v3).setCell ⟨q + 1, 4, none⟩ v4).drew := by
  have hk : ∀ (X : World) j v, (X.setCell ⟨q + 1, j, none⟩ v).heap[g]? = X.heap[g]? := fun X j v => Below.heap_setCell X _ v g (by simp; omega)
  have hd : ∀ X : World, Own X B e s (some ⟨g, 0, none⟩) n c f → Own X.drew B e s (some ⟨g, 0, none⟩) n c f := fun X h => own_block h rfl
  exact ⟨hd _ (own_block (own_block (own_block (own_block (own_block hO (hk _ _ _)) (hk _ _ _)) (hk _ _ _)) (hk _ _ _)) (hk _ _ _)),
    (((((hb.setCell (p := ⟨q + 1, 0, none⟩) (Nat.le_succ _) _).setCell (p := ⟨q + 1, 1, none⟩) (Nat.le_succ _) _).setCell (p := ⟨q + 1, 2, none⟩) (Nat.le_succ _) _).setCell (p := ⟨q + 1, 3, none⟩) (Nat.le_succ _) _).setCell (p := ⟨q + 1, 4, none⟩) (Nat.le_succ _) _).drew⟩

set_option maxHeartbeats 4000000 in
theorem rDo_yes (A : Option Addr) (n c : Nat) (hA : A = none → n = 0 ∧ c = 0) (hn : n ≤ 100000000) (cf : Nat → C4) (k : Int) (i : Nat) (o x : C4) (hi : i < n) (hm : mayB n ⟨k, i, o, x⟩ = true) (Y : C4) (D : Bool) (hY : becomes (cf i) ⟨k, i, o, x⟩ = Y) (hD : doneB (cf i) ⟨k, i, o, x⟩ = D) (w : World) (hI : IsCells w A n cf) :
    Calls Try.prog 15 #[.slice A n c, av ⟨k, i, o, x⟩] w (RefYes n (upd cf i Y) (cf i) D w) := by
  have HBec := Lib.hid (fun W => rBecomes_is (cf i) k i o x Y D hY hD W)
  clear hY hD
  have HM := Lib.hid hm
  have HI := Lib.hid hI
  have HA := Lib.hid hA
  clear hm hI hA
  unfold av
  go_enter Try.func15, Try.ntmps15
  go_wp2_with (first
    | (go_at_call 22; refine (rMay_any n k i o x _).mono ?_; rintro e w1 ⟨rfl, hb1⟩; rw [HM.out]; obtain ⟨hB1, hS1, hz1, hbw1⟩ := do_ahead hb1; have HB1 := Lib.hid hB1; have HS1 := Lib.hid hS1; have HI1 := Lib.hid (HI.out.same hbw1.block); clear hB1 hS1)
    | (at_builtin
       refine wpList_copied (w0 := w1) rfl (.tmp 17) (.tmp 18) _ rfl Try.underlying35 cell_info rfl (by decide) (by decide) rfl (World.ownsRow_lit w1 #[] 0 (Nat.le_refl _) (by unfold maxLen; omega) rfl) rfl HA.out (flat n fun i => l4 (cf i)) (l4_len n cf) (cells_list (HI1.out.same (below_one _ _).block)) l4_one hn (Nat.le_refl _) (below_one _ _) ?_
       intro v' W2 HO hbW2 Hg))
  obtain ⟨A2, c2, rfl, hnc, hcm, _, hrow⟩ := owns_form HO.out
  obtain ⟨g2, rfl, hg2, _⟩ := hrow (by omega)
  have hO2 := Own.of (s := 4) (f := fun i => l4 (cf i)) (fun _ => rfl) HO.out
  have HO2 := Lib.hid hO2
  clear HO Hg hrow hO2
  have hB2 := fun j u h => (hbW2.cell (World.block_lt_of_cell? _ _ (HB1.out j u h))).trans (HB1.out j u h)
  obtain ⟨bA, oA, rfl, h4⟩ := HI1.out i hi
  obtain ⟨c0, c1, c2', c3⟩ := h4.same (hbW2.block _ h4.lt)
  have b0 := hB2 0 _ rfl
  have b1 := hB2 1 _ rfl
  have b2 := hB2 2 _ rfl
  have b3 := hB2 3 _ rfl
  have b4 := hB2 4 _ rfl
  have b5 := hB2 5 _ rfl
  have b6 := hB2 6 _ rfl
  have b7 := hB2 7 _ rfl
  have b8 := hB2 8 _ rfl
  have b9 := hB2 9 _ rfl
  have HS2 := Lib.hid (HS1.out.of_block (hbW2.block _ HS1.out.lt))
  have i1 : (0 : Int) ≤ (i : Int) := by omega
  have i2 : (i : Int) < (n : Int) := by omega
  clear hB2 h4 HS1 HB1 HI1
  have HBW := Lib.hid (below_then hbw1 hbW2)
  have HG2 := Lib.hid hg2
  have HZ := Lib.hid hz1
  have HBB := Lib.hid hbW2
  have HB1 := Lib.hid hbw1
  clear hb1 hbw1 hbW2 hg2 hz1
  obtain ⟨q, hq⟩ : ∃ q, w.heap.size = q := ⟨_, rfl⟩
  rw [hq] at b0 b1 b2 b3 b4 b5 b6 b7 b8 b9
  have HQ := Lib.hid hq
  rw [hq]
  clear hq
  have hA1 := fun a v (h : W2.cell? a = some v) => ((below_one W2 boxC).cell (World.block_lt_of_cell? _ _ h)).trans h
  have b0' := hA1 _ _ b0
  have b1' := hA1 _ _ b1
  have b2' := hA1 _ _ b2
  have b3' := hA1 _ _ b3
  have b4' := hA1 _ _ b4
  have b5' := hA1 _ _ b5
  have b6' := hA1 _ _ b6
  have b7' := hA1 _ _ b7
  have b8' := hA1 _ _ b8
  have b9' := hA1 _ _ b9
  have c0' := hA1 _ _ c0
  have c1' := hA1 _ _ c1
  have c2'' := hA1 _ _ c2'
  have c3' := hA1 _ _ c3
  clear hA1
  go_cut [8, 9] (fun s8 s9 wx => ∃ g : Nat, s8 = .pointer (some ⟨g, 0, none⟩) ∧ s9 = .bool D ∧ Hid (Mid W2 Y g wx))
  case first =>
    go_region_with ((refine (HBec.out _).mono ?_; rintro e w3 ⟨rfl, hb3⟩; obtain ⟨hc3, hf3⟩ := bcell hb3; have hz3 := hb3.size))
    all_goals
      go_wp2_with fail
      go_meet
      first
        | with_reducible exact ⟨_, rfl, rfl, Lib.hid (mid_first hb3)⟩
        | with_reducible exact ⟨_, rfl, rfl, Lib.hid (mid_last hb3)⟩
  case rest =>
    clear b0' b1' b2' b3' b4' b5' b6' b7' b8' b9' c0' c1' c2'' c3' b0 b2 b3 b4 b5 b6 b7 b8 b9
    obtain ⟨g, rfl, rfl, HMid⟩ := hcut
    obtain ⟨⟨FX, hFX, hLX⟩, hgW, hbx⟩ := HMid.out
    have hk := fun a v (h : W2.cell? a = some v) => (hbx.cell (World.block_lt_of_cell? _ _ h)).trans h
    obtain ⟨x0, x1, x2, x3⟩ := at4_of hFX (by omega) hLX
    simp only [Nat.zero_add] at x0 x1 x2 x3
    obtain ⟨_, _, hrow⟩ := HO2.out
    obtain ⟨_, e2, _, m2, F2, hr2, hm2, hF2⟩ := hrow (by omega)
    cases e2
    have hrx := hr2.of_block (hbx.block _ hr2.lt)
    have z0 := hrx.cell (i := i * 4) (by omega)
    have z1 := hrx.cell (i := i * 4 + 1) (by omega)
    have z2 := hrx.cell (i := i * 4 + 2) (by omega)
    have z3 := hrx.cell (i := i * 4 + 3) (by omega)
    have zf := hrx.frozen
    have p1 : wc.cell? ⟨q, 1, none⟩ = some (.int .i64 (i : Int)) := hk _ _ b1
    have hS3 := HS2.out.of_block (hbx.block _ HS2.out.lt)
    rw [HQ.out] at hS3
    obtain ⟨WS, hWS⟩ : ∃ WS, WS = ((((wc.setCell ⟨g2, i * 4, none⟩ (.int .u64 Y.t)).setCell ⟨g2, i * 4 + 1, none⟩ (.int .u64 Y.a)).setCell ⟨g2, i * 4 + 2, none⟩ (.int .u64 Y.b)).setCell ⟨g2, i * 4 + 3, none⟩ (.int .u64 Y.c)) := ⟨_, rfl⟩
    obtain ⟨G, hG, hG1, hG2⟩ := set4 hrx i Y
    rw [← hWS] at hG
    have hout : ∀ a : Addr, a.block ≠ g2 → WS.cell? a = wc.cell? a := fun a ha => by rw [hWS, far ha, far ha, far ha, far ha]
    have hblk : ∀ k, k ≠ g2 → WS.heap[k]? = wc.heap[k]? := fun k hk => by rw [hWS, Below.heap_setCell _ _ _ _ hk, Below.heap_setCell _ _ _ _ hk, Below.heap_setCell _ _ _ _ hk, Below.heap_setCell _ _ _ _ hk]
    have hqlt : q + 2 ≤ w1.heap.size := by have := HZ.out; rw [HQ.out] at this; exact this
    have hg2 : w1.heap.size ≤ g2 := HG2.out
    have hbA : bA < w1.heap.size := by
      obtain ⟨_, _, e, h4⟩ := HI.out i hi
      cases e
      have := h4.lt; rw [HQ.out] at this; omega
    have hbS : Below w1.heap.size w1 W2 := HBB.out
    have r1 := (hout ⟨q, 1, none⟩ (by simp; omega)).trans p1
    have d0 := (hout ⟨bA, oA + i * 4, none⟩ (by simp; omega)).trans (hk _ _ c0)
    have d1 := (hout ⟨bA, oA + i * 4 + 1, none⟩ (by simp; omega)).trans (hk _ _ c1)
    have d2 := (hout ⟨bA, oA + i * 4 + 2, none⟩ (by simp; omega)).trans (hk _ _ c2')
    have d3 := (hout ⟨bA, oA + i * 4 + 3, none⟩ (by simp; omega)).trans (hk _ _ c3)
    have hS4 := hS3.of_block (hblk (q + 1) (by omega))
    have s0 := hS4.cell (i := 0) (by omega)
    have s1 := hS4.cell (i := 1) (by omega)
    have s2 := hS4.cell (i := 2) (by omega)
    have s3 := hS4.cell (i := 3) (by omega)
    have s4 := hS4.cell (i := 4) (by omega)
    have sf := hS4.frozen
    simp only [Nat.reduceEqDiff, if_false, if_true] at s0 s1 s2 s3 s4
    have hbWS : Below w1.heap.size w1 WS := by
      have h1 := hbS.trans (hbx.mono hbS.size)
      rw [hWS]
      exact (((h1.setCell (p := ⟨g2, i * 4, none⟩) hg2 _).setCell (p := ⟨g2, i * 4 + 1, none⟩) hg2 _).setCell (p := ⟨g2, i * 4 + 2, none⟩) hg2 _).setCell (p := ⟨g2, i * 4 + 3, none⟩) hg2 _
    have HGr := Lib.hid (show Own WS w1.heap.size 25 4 (some ⟨g2, 0, none⟩) n c2 (fun j => l4 (upd cf i Y j)) from ⟨hnc, hcm, fun _ => ⟨g2, rfl, hg2, m2, G, hG, hm2, fun j hj => by
      show HasL G (j * 4) (l4 (upd cf i Y j))
      by_cases e : j = i
      · subst e; rw [upd_same]; exact hG1
      · rw [upd_other e]; exact hG2 j _ e (hF2 j hj) rfl⟩⟩)
    have HWS := Lib.hid hWS
    have HbWS := Lib.hid hbWS
    clear hWS hG hG1 hG2 hout hblk hS3 hS4 hbWS hrx hr2 hF2 hrow hk hFX hLX hbx hgW HMid HO2 c0 c1 c2' c3 b1 HS2 hbS
    go_wp2
    rw [← HWS.out]
    clear z0 z1 z2 z3 zf x0 x1 x2 x3 p1
    go_region
    go_wp2
    have hne : q + 1 ≠ g2 := by omega
    have hend := done5 (v0 := .int .u64 (cf i).t) (v1 := .int .u64 (cf i).a) (v2 := .int .u64 (cf i).b) (v3 := .int .u64 (cf i).c) (v4 := .bool D) hne HGr.out (by rw [← HQ.out]; exact below_then HB1.out HbWS.out)
    refine bodyPost_ret (v := .tuple #[.slice (some ⟨g2, 0, none⟩) n c2, .agg #[.int .u64 (cf i).t, .int .u64 (cf i).a, .int .u64 (cf i).b, .int .u64 (cf i).c, .bool D], .int .i64 0]) (by simp [results, Try.results15, go_sem, s0, s1, s2, s3, s4]) rfl ?_
    exact ⟨_, c2, rfl, (fun h => by cases h), hend.1.mono (by rw [HQ.out]; omega), by rw [HQ.out]; exact hend.2⟩
end Go.Proofs.Ytiaimenngmfnmaa
