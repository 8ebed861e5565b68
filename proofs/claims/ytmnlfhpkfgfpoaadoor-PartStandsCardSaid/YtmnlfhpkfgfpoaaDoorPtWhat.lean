/- Package part: which place stands somewhere. -/
import Derived.Test.YtmnlfhpkfgfpoaaDoorPtAt
namespace Go.Proofs.YtmnlfhpkfgfpoaaDoor.Pt
/-- Which place stands somewhere, and whether. -/
def whV (c : Cf) (z : Int) : Pl := if okB c = true ∧ 0 ≤ z then (what (bl c) z.toNat).getD ⟨0, 0, 0⟩ else ⟨0, 0, 0⟩
def whE (c : Cf) (z : Int) : Int := if okB c then (if 0 ≤ z ∧ (what (bl c) z.toNat).isSome = true then 0 else 2) else 40
theorem wh_some {c : Cf} {z : Nat} {y : Pl} (h : okB c = true) (hf : what (bl c) z = some y) : whV c z = y ∧ whE c z = 0 := by
  unfold whV whE
  rw [if_pos ⟨h, by omega⟩, if_pos h, Int.toNat_natCast, hf, if_pos ⟨by omega, rfl⟩]
  exact ⟨rfl, rfl⟩
theorem wh_none {c : Cf} {z : Nat} (h : okB c = true) (hf : what (bl c) z = none) : whV c z = ⟨0, 0, 0⟩ ∧ whE c z = 2 := by
  unfold whV whE
  rw [if_pos ⟨h, by omega⟩, if_pos h, Int.toNat_natCast, hf, if_neg (by simp)]
  exact ⟨rfl, rfl⟩
theorem wh_neg {c : Cf} {z : Int} (h : okB c = true) (hz : z < 0) : whV c z = ⟨0, 0, 0⟩ ∧ whE c z = 2 := by
  unfold whV whE
  rw [if_neg (by omega), if_pos h, if_neg (by omega)]
  exact ⟨rfl, rfl⟩
end Go.Proofs.YtmnlfhpkfgfpoaaDoor.Pt
namespace Go.Proofs.YtmnlfhpkfgfpoaaDoor
open Go.RowKit Go.Shelf Pt
attribute [local go_sem] Oper.semAt_some

/-- A place and a number are laid anew. -/
theorem set_place {W : World} {a b : Nat} {y y0 : Pl} {v x : Value} (hne : a ≠ b) (ha : IsPl W a y0) (hb : W.cell? ⟨b, 0, none⟩ = some v) :
    IsPl ((((W.setCell ⟨a, 0, none⟩ (.int .u8 y.p)).setCell ⟨a, 1, none⟩ (.int .i64 y.a)).setCell ⟨a, 2, none⟩ (.int .i64 y.b)).setCell ⟨b, 0, none⟩ x) a y ∧
    ((((W.setCell ⟨a, 0, none⟩ (.int .u8 y.p)).setCell ⟨a, 1, none⟩ (.int .i64 y.a)).setCell ⟨a, 2, none⟩ (.int .i64 y.b)).setCell ⟨b, 0, none⟩ x).cell? ⟨b, 0, none⟩ = some x := by
  obtain ⟨h0, h1, h2⟩ := ha
  have so : ∀ {V : World} {x y : Addr} {u t : Value}, x ≠ y → V.cell? y = some t → (V.setCell x u).cell? y = some t := fun {V} {x} {y} {u} {t} h e => by
    rw [← e]; exact World.cell?_setCell_other (w := V) (a := x) (b := y) (v := u) h
  have ss : ∀ {V : World} {x : Addr} {u t : Value}, V.cell? x = some t → (V.setCell x u).cell? x = some u := fun {V} {x} {u} {t} e => World.cell?_setCell_same' _ _ _ (by rw [e]; rfl)
  have d : ∀ i j : Nat, i ≠ j → (⟨a, i, none⟩ : Addr) ≠ ⟨a, j, none⟩ := fun i j h e => h (by injection e)
  have n1 : ∀ i : Nat, (⟨b, 0, none⟩ : Addr) ≠ ⟨a, i, none⟩ := fun i e => hne (by injection e with e; exact e.symm)
  have n2 : ∀ i : Nat, (⟨a, i, none⟩ : Addr) ≠ ⟨b, 0, none⟩ := fun i e => hne (by injection e)
  exact ⟨⟨so (n1 0) (so (d 2 0 (by omega)) (so (d 1 0 (by omega)) (ss h0))), so (n1 1) (so (d 2 1 (by omega)) (ss (so (d 0 1 (by omega)) h1))), so (n1 2) (ss (so (d 1 2 (by omega)) (so (d 0 2 (by omega)) h2)))⟩,
    ss (so (n2 2) (so (n2 1) (so (n2 0) hb)))⟩

set_option maxHeartbeats 1000000 in
theorem what_bad (c : Cf) (z : Int) (h : okB c = false) (w : World) : Calls Tryd.prog 11 #[cfv c, .int .i64 z] w (Ret2 (plv ⟨0, 0, 0⟩) (.int .i64 40) w) := by
  have hk := check_any c
  rw [h, show Pt.err false = 40 from rfl] at hk
  clear h
  refine (callsIn_wide (n := 9)).1 ?_
  refine callsIn_of_wp_marks Tryd.func11 rfl trivial ?_ rfl
  simp only [Tryd.ntmps11, List.size_toArray, List.length_cons, List.length_nil, Nat.reduceAdd, Nat.reduceSub, Array.replicate_succ, Array.replicate_zero, List.push_toArray, List.append_toArray, List.nil_append, List.cons_append]
  have hfw : ∀ f, Fence.wide.fn f := fun _ => trivial
  unfold cfv at *
  unfold plv
  gi_wp2_with (gi_at_call 12; refine (callsIn_wide.2 (hk _)).mono ?_; rintro e w1 ⟨rfl, hb1⟩; obtain ⟨hc1, hf1⟩ := bcell hb1)
  have hz : w.heap.size + 3 < w1.heap.size := by have := hb1.size; simp at this; omega
  have c2 : IsPl w1 (w.heap.size + 1 + 1) ⟨0, 0, 0⟩ := ⟨by rw [hc1 _ _ (by simp)]; simp [go_sem], by rw [hc1 _ _ (by simp)]; simp [go_sem], by rw [hc1 _ _ (by simp)]; simp [go_sem]⟩
  have c3 : w1.cell? ⟨w.heap.size + 1 + 1 + 1, 0, none⟩ = some (.int .i64 0) := by rw [hc1 _ _ (by simp)]; simp [go_sem]
  obtain ⟨⟨s0, s1, s2⟩, s3⟩ := set_place (y := ⟨0, 0, 0⟩) (x := .int .i64 40) (by omega) c2 c3
  simp only at s0 s1 s2
  refine plain_ret (v := .tuple #[.agg #[.int .u8 0, .int .i64 0, .int .i64 0], .int .i64 40]) ?_ ⟨rfl, ?_⟩
  · simp [results, Tryd.results11, go_sem, s0, s1, s2, s3]
  · have hbb := (below_four w _ _ _ _).trans (hb1.mono (by simp; omega))
    exact (((hbb.setCell (by simp only; omega) _).setCell (by simp only; omega) _).setCell (by simp only; omega) _).setCell (by simp only; omega) _

/-- What a look-up of a number keeps from round to round: what is left of the number lies in block r + 1, the results in r + 2 and r + 3. -/
structure WhI (c : Cf) (z r : Nat) (w : World) (i : Nat) (A : World) : Prop where
  left : Cell1 A (r + 1) (.int .i64 ((z - pre (bl c) i : Nat) : Int))
  res0 : IsPl A (r + 1 + 1) ⟨0, 0, 0⟩ ∧ ∀ j, A.frozen? ⟨r + 1 + 1, j, none⟩ = false
  res1 : Cell1 A (r + 1 + 1 + 1) (.int .i64 0)
  below : Below r w A
  gone : Gone (bl c) z i
theorem WhI.only {c : Cf} {z r : Nat} {w : World} {i : Nat} {A A' : World} {C : Nat → Prop} (h : WhI c z r w i A) (ho : Only C A A') (h1 : r ≤ w.heap.size) (hC : ∀ k, C k → r + 3 < k) : WhI c z r w i A' :=
  ⟨h.left.same (ho.block _ h.left.lt fun hc => by have := hC _ hc; omega),
    ⟨h.res0.1.same (ho.block _ h.res0.1.lt fun hc => by have := hC _ hc; omega), fun j => (World.frozen?_of_block (w := A) (a := ⟨r + 1 + 1, j, none⟩) (ho.block (r + 1 + 1) h.res0.1.lt fun hc => by have := hC _ hc; omega)).trans (h.res0.2 j)⟩,
    h.res1.same (ho.block _ h.res1.lt fun hc => by have := hC _ hc; omega), Only.then_below h1 h.below ho (fun k hk => by have := hC _ hk; omega), h.gone⟩

set_option maxHeartbeats 2000000 in
theorem what_neg (c : Cf) (z : Int) (hneg : z < 0) (h : okB c = true) (w : World) : Calls Tryd.prog 11 #[cfv c, .int .i64 z] w (Ret2 (plv ⟨0, 0, 0⟩) (.int .i64 2) w) := by
  have hk := check_any c
  rw [h, show Pt.err true = 0 from rfl] at hk
  clear h
  refine (callsIn_wide (n := 9)).1 ?_
  refine callsIn_of_wp_marks Tryd.func11 rfl trivial ?_ rfl
  simp only [Tryd.ntmps11, List.size_toArray, List.length_cons, List.length_nil, Nat.reduceAdd, Nat.reduceSub, Array.replicate_succ, Array.replicate_zero, List.push_toArray, List.append_toArray, List.nil_append, List.cons_append]
  have hfw : ∀ f, Fence.wide.fn f := fun _ => trivial
  unfold cfv at *
  unfold plv
  gi_wp2_with (gi_at_call 12; refine (callsIn_wide.2 (hk _)).mono ?_; rintro e w1 ⟨rfl, hb1⟩; obtain ⟨hc1, hf1⟩ := bcell hb1)
  have hz : w.heap.size + 3 < w1.heap.size := by have := hb1.size; simp at this; omega
  have c2 : IsPl w1 (w.heap.size + 1 + 1) ⟨0, 0, 0⟩ := ⟨by rw [hc1 _ _ (by simp)]; simp [go_sem], by rw [hc1 _ _ (by simp)]; simp [go_sem], by rw [hc1 _ _ (by simp)]; simp [go_sem]⟩
  have c3 : w1.cell? ⟨w.heap.size + 1 + 1 + 1, 0, none⟩ = some (.int .i64 0) := by rw [hc1 _ _ (by simp)]; simp [go_sem]
  obtain ⟨⟨s0, s1, s2⟩, s3⟩ := set_place (y := ⟨0, 0, 0⟩) (x := .int .i64 2) (by omega) c2 c3
  simp only at s0 s1 s2
  refine plain_ret (v := .tuple #[.agg #[.int .u8 0, .int .i64 0, .int .i64 0], .int .i64 2]) ?_ ⟨rfl, ?_⟩
  · simp [results, Tryd.results11, go_sem, s0, s1, s2, s3]
  · have hbb := (below_four w _ _ _ _).trans (hb1.mono (by simp; omega))
    exact (((hbb.setCell (by simp only; omega) _).setCell (by simp only; omega) _).setCell (by simp only; omega) _).setCell (by simp only; omega) _

set_option maxHeartbeats 2000000 in
theorem what_ok (c : Cf) (z : Nat) (hz0 : z ≤ 9223372036854775807) (h : okB c = true) (w : World) (hp : Pow w) : Calls Tryd.prog 11 #[cfv c, .int .i64 z] w (Ret2 (plv (whV c z)) (.int .i64 (whE c z)) w) := by
  have hk := check_any c
  rw [h, show Pt.err true = 0 from rfl] at hk
  have HB := Lib.hid h
  have hok := ok_of h
  have hall := (all_bounds hok).2
  have hgl : 0 < w.heap.size := World.block_lt_of_cell? _ _ (hp 0 (by omega))
  have HP := Lib.hid hp
  have Hok := Lib.hid hok
  have hpc := parts_any c
  have HSm : Hid (∀ i x, (bl c)[i]? = some x → Small x) := Lib.hid (small_any hok)
  clear h hp hok
  refine (callsIn_wide (n := 9)).1 ?_
  refine callsIn_of_wp_marks Tryd.func11 rfl trivial ?_ rfl
  simp only [Tryd.ntmps11, List.size_toArray, List.length_cons, List.length_nil, Nat.reduceAdd, Nat.reduceSub, Array.replicate_succ, Array.replicate_zero, List.push_toArray, List.append_toArray, List.nil_append, List.cons_append]
  have hfw : ∀ f, Fence.wide.fn f := fun _ => trivial
  unfold cfv at *
  gi_wp2_with fail
  refine (callsIn_wide.2 (hk _)).mono ?_
  rintro e w1 ⟨rfl, hb1⟩
  obtain ⟨hc1, hf1⟩ := bcell hb1
  have I1 : IsCf w1 w.heap.size c := (((((cf_lit w c _ rfl).same (Below.heap_alloc _ _ _ (by simp))).same (Below.heap_alloc _ _ _ (by simp; omega))).same (Below.heap_alloc _ _ _ (by simp; omega))).same (hb1.block _ (by simp; omega)))
  have a1 : Cell1 w1 (w.heap.size + 1) (.int .i64 z) := ⟨by rw [hc1 _ _ (by simp)]; simp [go_sem], by rw [hf1 _ _ (by simp)]; simp [go_sem]⟩
  have c2 : IsPl w1 (w.heap.size + 1 + 1) ⟨0, 0, 0⟩ := ⟨by rw [hc1 _ _ (by simp)]; simp [go_sem], by rw [hc1 _ _ (by simp)]; simp [go_sem], by rw [hc1 _ _ (by simp)]; simp [go_sem]⟩
  have z2 : ∀ j, w1.frozen? ⟨w.heap.size + 1 + 1, j, none⟩ = false := fun j => by rw [hf1 _ _ (by simp)]; simp [go_sem]
  have c3 : Cell1 w1 (w.heap.size + 1 + 1 + 1) (.int .i64 0) := ⟨by rw [hc1 _ _ (by simp)]; simp [go_sem], by rw [hf1 _ _ (by simp)]; simp [go_sem]⟩
  have hz : w.heap.size + 3 < w1.heap.size := by have := hb1.size; simp at this; omega
  have hb := (below_four w _ _ _ _).trans (hb1.mono (by simp; omega))
  obtain ⟨r, hr⟩ : ∃ r, w.heap.size = r := ⟨_, rfl⟩
  rw [hr] at I1 a1 c2 z2 c3 hz hb hgl ⊢
  have f0 := I1 0 _ rfl
  have f1 := I1 1 _ rfl
  have f2 := I1 2 _ rfl
  have f3 := I1 3 _ rfl
  have f4 := I1 4 _ rfl
  have f5 := I1 5 _ rfl
  have f6 := I1 6 _ rfl
  have f7 := I1 7 _ rfl
  have f8 := I1 8 _ rfl
  have f9 := I1 9 _ rfl
  have f10 := I1 10 _ rfl
  have f11 := I1 11 _ rfl
  have hr1 : r < w1.heap.size := by omega
  have g1 := a1.1
  clear hc1 hf1 hb1 I1
  gi_wp2_with (gi_at_call 24; refine (callsIn_wide.2 (hpc _)).mono ?_; rintro e w' ⟨rfl, hw'⟩)
  rw [← hw']
  obtain ⟨q, hq⟩ : ∃ q, w1.heap.size = q := ⟨_, rfl⟩
  have hz2 : w'.heap.size = q + 1 := by rw [hw', ← hq]; simp
  have b0 : Below w1.heap.size w1 w' := by rw [hw']; exact below_one _ _
  have i0 : IsCf w' q c := by rw [hw', ← hq]; exact cf_lit _ c _ (by simp)
  have hb2 : Below r w w' := hb.trans (b0.mono (by omega))
  have q0 : Pow w' := HP.out.below (by rw [hr]; exact hb2)
  have st : WhI c z r w 0 w' := ⟨by rw [pre_zero]; exact a1.same (b0.block _ (by omega)), ⟨c2.same (b0.block _ (by omega)), fun j => (World.frozen?_of_block (w := w1) (a := ⟨r + 1 + 1, j, none⟩) (b0.block _ (by simp only; omega))).trans (z2 j)⟩, c3.same (b0.block _ (by omega)), hb2, gone_zero _ _⟩
  rw [hq] at hz ⊢
  clear hw' hpc HP hk b0 a1 hb2 c2 z2 c3 hb f0 f1 f2 f3 f4 f5 f6 f7 f8 f9 f10 f11 hr1 g1
  refine wpIn_rangeR (gf := 37) (lb := #[.pointer (some ⟨q, 0, none⟩)]) rfl (enters_of Tryd.func37 (by kernel_rfl) rfl)
    (parts_iter 8 (by omega) c Hok.out q (fun k => k = q ∨ k = 0) w' (.inl rfl) (.inr rfl) i0 q0) ?hcap ?hps (fun k => k = r + 1 ∨ k = r + 1 + 1 ∨ k = r + 1 + 1 + 1) ?hC
    (WhI c z r w) (fun e i A => e = .ret ∧ IsPl A (r + 1 + 1) (whV c z) ∧ A.cell? ⟨r + 1 + 1 + 1, 0, none⟩ = some (.int .i64 (whE c z)) ∧ Below r w A) ?hI ?hIx ?h0 ?round ?done ?stop
  case hcap => intro k hk; exact ⟨by omega, rfl⟩
  case hps => rintro B i args A ⟨q, x, _, rfl, _⟩; rfl
  case hC => rintro k hk; omega
  case hI => intro i A A' h ho; exact h.only ho (by omega) fun k hk => by omega
  case hIx =>
    rintro e i A A' ⟨h1, h2, h3, h4⟩ ho
    exact ⟨h1, h2.same (ho.block _ h2.lt (by omega)), ho.cell h3 (by show ¬ (_ ∧ _); simp only; omega), Only.then_below (by omega) h4 ho (by omega)⟩
  case h0 => exact st
  case round =>
    rintro l i args A hi hI ⟨b, x, hx, rfl, hqB, hqA⟩ hlt
    have HX := Lib.hid hx
    have HSx := Lib.hid (HSm.out i x hx)
    clear st i0 q0 hx
    unfold plf
    gi_wp2
    refine ⟨Only.refl _ A, fun W₂ ho => ?_⟩
    have hI2 := hI.only ho (by omega) (fun k hk => by omega)
    have B2 := hqA.same (ho.block b hqA.lt (by omega))
    have hl2 := ho.size
    clear hI hqA ho
    obtain ⟨⟨k0, k1⟩, ⟨⟨k2, k3, k4⟩, kz⟩, ⟨k5, k6⟩, k9, k10⟩ := hI2
    have H10 := Lib.hid k10
    by_cases hh : z - pre (bl c) i < x.cnt
    · have hF := Lib.hid (wh_some HB.out (gone_hit k10 HX.out hh))
      have hsmall := HSx.out.2.2.2.2
      have hpl := place_any x HSx.out (z - pre (bl c) i) (by omega) b W₂ B2
      have z0 := kz 0
      have z1 := kz 1
      have z2 := kz 2
      clear k10
      unfold plv at hpl
      generalize z - pre (bl c) i = j at *
      gi_wp2_with fail
      refine (CallsIn.inRound l (callsIn_wide.2 hpl)).mono ?_
      rintro e W3 ⟨rfl, hb3⟩
      obtain ⟨hc3, hf3⟩ := bcell hb3
      have d2 : IsPl W3 (r + 1 + 1) ⟨0, 0, 0⟩ := IsPl.same ⟨k2, k3, k4⟩ (hb3.block _ (World.block_lt_of_cell? _ _ k2))
      have d5 : W3.cell? ⟨r + 1 + 1 + 1, 0, none⟩ = some (.int .i64 0) := (hc3 _ _ (World.block_lt_of_cell? _ _ k5)).trans k5
      have d6 : W3.frozen? ⟨r + 1 + 1 + 1, 0, none⟩ = false := (hf3 _ _ (World.block_lt_of_cell? _ _ k5)).trans k6
      have e0 : W3.frozen? ⟨r + 1 + 1, 0, none⟩ = false := (hf3 _ _ (World.block_lt_of_cell? _ _ k2)).trans z0
      have e1 : W3.frozen? ⟨r + 1 + 1, 1, none⟩ = false := (hf3 _ _ (World.block_lt_of_cell? _ _ k2)).trans z1
      have e2 : W3.frozen? ⟨r + 1 + 1, 2, none⟩ = false := (hf3 _ _ (World.block_lt_of_cell? _ _ k2)).trans z2
      have d9 : Below r w W3 := k9.trans (hb3.mono (by omega))
      have G := Lib.hid (set_place (y := x.at j) (x := .int .i64 0) (by omega) d2 d5)
      have D3 := Lib.hid (Only.of_below (fun k => k = r + 1 ∨ k = r + 1 + 1 ∨ k = r + 1 + 1 + 1) hb3)
      obtain ⟨l0, l1, l2⟩ := d2
      clear k0 k1 k2 k3 k4 k5 k6 k9 kz z0 z1 z2 hc3 hf3 hb3 hpl B2 H10
      gi_wp2
      refine ⟨(((D3.out.setCell (p := ⟨r + 1 + 1, 0, none⟩) (.inl (by simp)) _).setCell (p := ⟨r + 1 + 1, 1, none⟩) (.inl (by simp)) _).setCell (p := ⟨r + 1 + 1, 2, none⟩) (.inl (by simp)) _).setCell (p := ⟨r + 1 + 1 + 1, 0, none⟩) (.inl (by simp)) _, rfl, ?_, ?_,
        (((d9.setCell (by simp only; omega) _).setCell (by simp only; omega) _).setCell (by simp only; omega) _).setCell (by simp only; omega) _⟩
      · rw [hF.out.1]; exact G.out.1
      · rw [hF.out.2]; exact G.out.2
    · have hA := Lib.hid (gone_miss k10 HX.out hh)
      have hps := pre_succ HX.out
      have hle := k10.1
      have O3 := Lib.hid ((Only.refl (fun k => k = r + 1) W₂).setCell (p := ⟨r + 1, 0, none⟩) (.inl rfl) (.int .i64 (((z - pre (bl c) i : Nat) : Int) - (x.cnt : Nat))))
      have D2 := Lib.hid (show IsPl W₂ (r + 1 + 1) ⟨0, 0, 0⟩ from ⟨k2, k3, k4⟩)
      have KZ := Lib.hid kz
      clear k10 k2 k3 k4 kz
      gi_wp2
      refine ⟨((Only.refl (fun k => k = r + 1 ∨ k = r + 1 + 1 ∨ k = r + 1 + 1 + 1) W₂).setCell (p := ⟨r + 1, 0, none⟩) (.inl (by simp)) _), ⟨⟨?_, ?_⟩, ⟨D2.out.same (O3.out.block _ D2.out.lt (by omega)), fun j => (World.frozen?_of_block (w := W₂) (a := ⟨r + 1 + 1, j, none⟩) (O3.out.block (r + 1 + 1) D2.out.lt (by omega))).trans (KZ.out j)⟩,
        Cell1.same ⟨k5, k6⟩ (O3.out.block _ (World.block_lt_of_cell? _ _ k5) (by omega)), k9.setCell (by simp only; omega) _, hA.out⟩⟩
      · rw [World.cell?_setCell_same' _ _ _ (by rw [k0]; rfl), hps]; congr 2; omega
      · simp [go_sem, k1]
  case done =>
    intro A hI hK
    obtain ⟨_, ⟨r0, _⟩, ⟨k7, k8⟩, k9, k10⟩ := hI
    have HF := Lib.hid (wh_none HB.out (gone_end k10))
    have HK := Lib.hid hK
    have G := Lib.hid (set_place (y := ⟨0, 0, 0⟩) (x := .int .i64 2) (by omega) r0 k7)
    obtain ⟨r1, r2, r3⟩ := r0
    clear hK k10 st i0 q0
    gi_wp2
    have sb : ∀ (V : World) (b o : Nat) (u : Value), b ≠ w'.heap.size → (V.setCell ⟨b, o, none⟩ u).heap[w'.heap.size]? = V.heap[w'.heap.size]? := fun V b o u h => Below.heap_setCell V ⟨b, o, none⟩ u _ (by simp only; omega)
    have HK2 := (sb _ (r + 1 + 1 + 1) 0 (.int .i64 2) (by omega)).trans ((sb _ (r + 1 + 1) 2 (.int .i64 0) (by omega)).trans ((sb _ (r + 1 + 1) 1 (.int .i64 0) (by omega)).trans ((sb A (r + 1 + 1) 0 (.int .u8 0) (by omega)).trans HK.out)))
    rw [hz2] at HK2
    refine marks_ret (v := .tuple #[plv ⟨0, 0, 0⟩, .int .i64 2]) HK2 ?_ ⟨by rw [HF.out.1, HF.out.2], ?_⟩
    · obtain ⟨⟨g0, g1, g2⟩, g3⟩ := G.out
      have t0 := cell_putObj (D := q + 1) (o' := .deferred none) (by simp only; omega) g0
      have t1 := cell_putObj (D := q + 1) (o' := .deferred none) (by simp only; omega) g1
      have t2 := cell_putObj (D := q + 1) (o' := .deferred none) (by simp only; omega) g2
      have t3 := cell_putObj (D := q + 1) (o' := .deferred none) (by simp only; omega) g3
      simp only at t0 t1 t2
      unfold plv
      simp [results, Tryd.results11, go_sem, t0, t1, t2, t3]
    · rw [hr]; exact below_putObj ((((k9.setCell (by simp only; omega) _).setCell (by simp only; omega) _).setCell (by simp only; omega) _).setCell (by simp only; omega) _) (by omega) _
  case stop =>
    rintro e i A hi ⟨rfl, h1, h2, h3⟩ hK
    have HK := Lib.hid hK
    clear hK st i0 q0
    gi_wp2
    refine marks_ret (v := .tuple #[plv (whV c z), .int .i64 (whE c z)]) HK.out ?_ ⟨rfl, ?_⟩
    · obtain ⟨g0, g1, g2⟩ := h1
      have t0 := cell_putObj (D := w'.heap.size) (o' := .deferred none) (by simp only; omega) g0
      have t1 := cell_putObj (D := w'.heap.size) (o' := .deferred none) (by simp only; omega) g1
      have t2 := cell_putObj (D := w'.heap.size) (o' := .deferred none) (by simp only; omega) g2
      have t3 := cell_putObj (D := w'.heap.size) (o' := .deferred none) (by simp only; omega) h2
      unfold plv
      simp [results, Tryd.results11, go_sem, t0, t1, t2, t3]
    · rw [hr]; exact below_putObj h3 (by omega) _

theorem what_any (c : Cf) (z : Int) (hz : z ≤ 9223372036854775807) (w : World) (hp : Pow w) : Calls Tryd.prog 11 #[cfv c, .int .i64 z] w (Ret2 (plv (whV c z)) (.int .i64 (whE c z)) w) := by
  cases e : okB c with
  | true =>
    by_cases hn : z < 0
    · obtain ⟨e1, e2⟩ := wh_neg e hn
      rw [e1, e2]
      exact what_neg c z hn e w
    · obtain ⟨Z, rfl⟩ : ∃ Z : Nat, z = Z := ⟨z.toNat, by omega⟩
      exact what_ok c Z (by omega) e w hp
  | false =>
    have e1 : whV c z = ⟨0, 0, 0⟩ := by unfold whV; rw [e]; rfl
    have e2 : whE c z = 40 := by unfold whE; rw [e]; rfl
    rw [e1, e2]
    exact what_bad c z e w
end Go.Proofs.YtmnlfhpkfgfpoaaDoor
