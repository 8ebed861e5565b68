/- OrderNames, with no argument, returns true: the errors' numbers, and what an operation answers at the chapter's examples. Condition: none but that the table of objects stands as the program's own start makes it. -/
import Derived.Test.YtohllaolbebogaaDoorOrLive
import Derived.Test.YtohllaolbebogaaDoorLaw
import Derived.Test.YtohllaolbebogaaDoorOpen
namespace Go.Proofs.YtohllaolbebogaaDoor.orderNames
open Go.ChangeShapes Go.WideShapes Go.ChangeAt Go.RowKit Go.Lib Pt Opn Tb

/-- What Do answers at an example: the error alone is told. -/
def Er (err : Int) (w : World) (e : Ending) (w' : World) : Prop := ∃ u x y B m d, e = .returned (.tuple #[u, .agg #[.int .i64 x, .int .u32 y, .slice B m d], .int .i64 err]) ∧ Below w.heap.size w w'
theorem do_ex (c : Cf) (l : List R) (o : O) (ho : Wf o) (err : Int) (hg : doOE c l = err) (n : Nat) (hn : l.length = n) (hl : n ≤ 1000) (A : Option Addr) (d : Nat) (hA : A = none → n = 0 ∧ d = 0) (w : World) (hp : Obs w) (h : IsR w A l) :
    Calls Tryd.prog 11 #[cfv c, .slice A n d, opv o] w (Er err w) := by
  subst hn
  rw [← hg]
  refine (odo_any c A l d o ho hA (by omega) w hp h).mono ?_
  rintro e w' ⟨u, r, rfl, -, hr, -, hb⟩
  obtain ⟨B, d, rfl, _⟩ := MadeX.form rowL_len hr
  exact ⟨u, _, _, B, _, d, rfl, hb⟩
theorem er_0 (X : World) (hp : Obs X) : Calls Tryd.prog 11 #[.agg #[.int .u8 0, .int .i64 0, .int .i64 0, .int .u8 0, .int .i64 0, .int .i64 0, .int .i64 0, .int .i64 0, .int .i64 0, .int .i64 0, .int .u64 0, .int .u64 0], .slice none 0 0, .agg #[.int .u8 0, .int .u32 0, .int .u32 0, .int .u32 0]] X (Er 40 X) :=
  do_ex ⟨0, 0, 0, 0, 0, 0, 0, 0, 0, 0, 0, 0⟩ [] ⟨0, 0, 0, 0⟩ (by unfold Wf; decide) 40 (by decide +kernel) 0 rfl (by decide) none 0 (by simp) X hp (IsL.nil _ _ _ _)
theorem er_1 (g : Nat) (k v : Nat) (hg : doOE cfI [(k, v)] = 2) (X : World) (hp : Obs X) (h : IsR X (some ⟨g, 0, none⟩) [(k, v)]) : Calls Tryd.prog 11 #[.agg #[.int .u8 2, .int .i64 2, .int .i64 1, .int .u8 1, .int .i64 0, .int .i64 0, .int .i64 3, .int .i64 2, .int .i64 1, .int .i64 1, .int .u64 131072, .int .u64 0], .slice (some ⟨g, 0, none⟩) 1 1, .agg #[.int .u8 0, .int .u32 0, .int .u32 0, .int .u32 0]] X (Er 2 X) :=
  do_ex cfI [(k, v)] ⟨0, 0, 0, 0⟩ (by unfold Wf; decide) 2 hg 1 rfl (by decide) _ 1 (by simp) X hp h
theorem er_2 (g : Nat) (X : World) (hp : Obs X) (h : IsR X (some ⟨g, 0, none⟩) [(2, 0), (2, 0)]) : Calls Tryd.prog 11 #[.agg #[.int .u8 2, .int .i64 2, .int .i64 1, .int .u8 1, .int .i64 0, .int .i64 0, .int .i64 3, .int .i64 2, .int .i64 1, .int .i64 1, .int .u64 131072, .int .u64 0], .slice (some ⟨g, 0, none⟩) 2 2, .agg #[.int .u8 0, .int .u32 0, .int .u32 0, .int .u32 0]] X (Er 2 X) :=
  do_ex cfI [(2, 0), (2, 0)] ⟨0, 0, 0, 0⟩ (by unfold Wf; decide) 2 (by decide +kernel) 2 rfl (by decide) _ 2 (by simp) X hp h
theorem er_4 (g c : Nat) (X : World) (hp : Obs X) (h : IsR X (some ⟨g, 0, none⟩) [(2, 20), (5, 50), (9, 90), (10, 0)]) : Calls Tryd.prog 11 #[.agg #[.int .u8 2, .int .i64 2, .int .i64 1, .int .u8 1, .int .i64 0, .int .i64 0, .int .i64 3, .int .i64 2, .int .i64 1, .int .i64 1, .int .u64 131072, .int .u64 0], .slice (some ⟨g, 0, none⟩) 4 c, .agg #[.int .u8 0, .int .u32 0, .int .u32 0, .int .u32 0]] X (Er 2 X) :=
  do_ex cfI [(2, 20), (5, 50), (9, 90), (10, 0)] ⟨0, 0, 0, 0⟩ (by unfold Wf; decide) 2 (by decide +kernel) 4 rfl (by decide) _ c (by simp) X hp h

theorem isr_cells {w : World} {ad : Addr} {l : List R} (h : IsR w (some ad) l) : ∀ j u, (flatL rowL l)[j]? = some u → w.cell? (ad.add j) = some u := by
  intro j u hj
  have hj' : j < l.length * 2 := by rw [← flatR l]; exact (List.getElem?_eq_some_iff.1 hj).1
  have hi' : j / 2 < l.length := by omega
  have ej : j = j / 2 * 2 + j % 2 := by omega
  obtain ⟨bk, off, e1, h2⟩ := h (j / 2) _ (List.getElem?_eq_getElem hi')
  injection e1 with e1
  subst e1
  rw [ej, flatL_at rowL_len (List.getElem?_eq_getElem hi') (by omega)] at hj
  rw [show (⟨bk, off, none⟩ : Addr).add j = ⟨bk, off + j / 2 * 2 + j % 2, none⟩ by rw [Nat.add_assoc, ← ej, addrAdd]]
  exact h2 _ _ hj

/-- A row appended to rows that fill their block: new rows, and the elder ones stay. -/
theorem push_full (w : World) (ty : TypeId) (g g0 : Nat) (l : List R) (y : R) (n n1 q : Nat) (hn : l.length = n) (hn1 : n + 1 = n1) (hq : w.heap.size = q) (hl : n ≤ 1000) (hR : IsR w (some ⟨g, 0, none⟩) l) (hx : IsR w (some ⟨g0, 0, none⟩) [y]) :
    ∃ c w', (Builtin.append_ #[22, 22] ty #[.slice (some ⟨g, 0, none⟩) n n, .slice (some ⟨g0, 0, none⟩) 1 1]).run Tryd.prog w = .ok (.slice (some ⟨q, 0, none⟩) n1 c) w' ∧ IsR w' (some ⟨q, 0, none⟩) (l ++ [y]) ∧ Below w.heap.size w w' := by
  subst hn hn1 hq
  obtain ⟨i0, hi, hz0, hz1, hz2⟩ := info_parts row_info
  have hr := run_append_grow (P := Tryd.prog) w 22 ty 37 i0 (.agg #[.int .u64 0, .int .u64 0]) Tryd.underlying22 hi hz0 ⟨g, 0, none⟩ l.length l.length (flatL rowL l) (by rw [hz1]; exact flatR l) (isr_cells hR) ⟨g0, 0, none⟩ 1 1 (rowL y) (by rw [hz1]; rfl) (fun j u hj => isr_cells hx j u (by simpa [flatL] using hj)) (by omega) (by omega) (by rw [hz2]; exact growslice_fits (by omega) (by omega))
  refine ⟨_, _, hr, ?_, (below_drew w).trans ((below_one w.drew _).mono (Nat.le_refl _))⟩
  have hge := grownCap_ge w (l.length + 1) l.length 37
  have hle := grownCap_le_maxLen w (l.length + 1) l.length 37 (by unfold maxLen; omega)
  have hm := made_of (w := w.drew.alloc (.cells ((flatL rowL l).toArray ++ (rowL y).toArray ++ Builtin.zeroCells (Value.agg #[.int .u64 0, .int .u64 0]).cells (grownCap w (l.length + 1) l.length 37 - (l.length + 1))) 37)) (B := w.heap.size) (g := w.heap.size) (cap := grownCap w (l.length + 1) l.length 37) (l := l ++ [y]) (rest := (Builtin.zeroCells (Value.agg #[.int .u64 0, .int .u64 0]).cells (grownCap w (l.length + 1) l.length 37 - (l.length + 1))).toList) (Nat.le_refl _)
    (by refine (heap_alloc_new w.drew _).trans ?_; rw [flatL_snoc]; congr 2; apply Array.ext'; simp) (by simpa using hge) hle (by rw [Array.length_toList, zeros_two]; simp)
  obtain ⟨A, c, e, _, _, h2⟩ := MadeX.form rowL_len hm
  injection e with e _ _
  rw [e]; exact h2

theorem nx_0 (g : Nat) (X : World) (hp : Obs X) (h : IsR X (some ⟨g, 0, none⟩) [(2, 20), (5, 50), (9, 90)]) :
    Calls Tryd.prog 13 #[.slice (some ⟨g, 0, none⟩) 3 3, .agg #[.int .u8 3, .int .u32 0, .int .u32 0, .int .u32 0], .agg #[.int .i64 50, .int .u32 0, .slice none 0 0], .int .i64 3] X (Ret (.bool true) X) :=
  idoes_ex [(2, 20), (5, 50), (9, 90)] [] ⟨3, 0, 0, 0⟩ (by unfold Wf; decide) 50 0 3 (by decide +kernel) 3 0 0 0 rfl rfl rfl rfl 3 0 rfl rfl (by decide) (by decide) 3 rfl (some ⟨g, 0, none⟩) none 3 0 (by simp) X hp h (IsL.nil _ _ _ _)
theorem nx_1 (g : Nat) (X : World) (hp : Obs X) (h : IsR X (some ⟨g, 0, none⟩) [(2, 20), (5, 50), (9, 90)]) :
    Calls Tryd.prog 13 #[.slice (some ⟨g, 0, none⟩) 3 3, .agg #[.int .u8 6, .int .u32 2147483648, .int .u32 0, .int .u32 0], .agg #[.int .i64 10, .int .u32 0, .slice none 0 0], .int .i64 3] X (Ret (.bool true) X) :=
  idoes_ex [(2, 20), (5, 50), (9, 90)] [] ⟨6, 2147483648, 0, 0⟩ (by unfold Wf; decide) 10 0 3 (by decide +kernel) 6 2147483648 0 0 rfl rfl rfl rfl 3 0 rfl rfl (by decide) (by decide) 3 rfl (some ⟨g, 0, none⟩) none 3 0 (by simp) X hp h (IsL.nil _ _ _ _)
theorem nx_2 (g : Nat) (X : World) (hp : Obs X) (h : IsR X (some ⟨g, 0, none⟩) [(2, 20), (5, 50), (9, 90)]) :
    Calls Tryd.prog 13 #[.slice (some ⟨g, 0, none⟩) 3 3, .agg #[.int .u8 5, .int .u32 3, .int .u32 0, .int .u32 0], .agg #[.int .i64 6, .int .u32 0, .slice none 0 0], .int .i64 3] X (Ret (.bool true) X) :=
  idoes_ex [(2, 20), (5, 50), (9, 90)] [] ⟨5, 3, 0, 0⟩ (by unfold Wf; decide) 6 0 3 (by decide +kernel) 5 3 0 0 rfl rfl rfl rfl 3 0 rfl rfl (by decide) (by decide) 3 rfl (some ⟨g, 0, none⟩) none 3 0 (by simp) X hp h (IsL.nil _ _ _ _)
theorem nx_3 (_ : Nat) (X : World) (hp : Obs X) :
    Calls Tryd.prog 13 #[.slice none 0 0, .agg #[.int .u8 8, .int .u32 0, .int .u32 2147483647, .int .u32 0], .agg #[.int .i64 0, .int .u32 0, .slice none 0 0], .int .i64 0] X (Ret (.bool true) X) :=
  idoes_ex [] [] ⟨8, 0, 2147483647, 0⟩ (by unfold Wf; decide) 0 0 0 (by decide +kernel) 8 0 2147483647 0 rfl rfl rfl rfl 0 0 rfl rfl (by decide) (by decide) 0 rfl none none 0 0 (by simp) X hp (IsL.nil _ _ _ _) (IsL.nil _ _ _ _)
set_option maxRecDepth 20000 in
set_option maxHeartbeats 8000000 in
theorem walk (w : World) (hp : Obs w) : Calls Tryd.prog 3 #[] w (Ret (.bool true) w) := by
  have HP := Lib.hid hp
  clear hp
  have HC := iconf_any
  unfold cfv cfI at HC
  replace HC := Lib.hid HC
  obtain ⟨g, hg⟩ : ∃ g, w.heap.size = g := ⟨_, rfl⟩
  have HG := Lib.hid hg
  clear hg
  go_enter Tryd.func3, Tryd.ntmps3
  go_wp2_with fail
  refine (three_any _).mono ?_
  rintro e w0 ⟨rfl, hb0, hR0⟩
  rw [HG.out] at hR0 ⊢
  have HR := Lib.hid hR0
  have HP1 := Lib.hid (HP.out.below hb0)
  clear hR0
  go_wp2_with fail
  refine (er_0 _ HP1.out).mono ?_
  rintro e w1 ⟨u0, x0, y0, B0, m0, d0, rfl, hb1⟩
  go_wp2_with fail
  refine (HC.out _).mono ?_
  rintro e v0 ⟨rfl, hb2⟩
  replace hb1 := below_then (below_then hb1 (below_one _ _)) hb2
  clear hb2
  have hpush := Lib.hid (push_full (v0.alloc (.cells #[.int .u64 10, .int .u64 0] 37)) 22 g v0.heap.size [(2, 20), (5, 50), (9, 90)] (10, 0) 3 4 (v0.heap.size + 1) rfl rfl (by simp) (by decide) (HR.out.below (below_then hb1 (below_one _ _))) (isr_lit _ _ [(10, 0)] 1 rfl rfl (by decide)))
  obtain ⟨c4, W4, hr4, hR4, hb4⟩ := hpush.out
  go_wp2_with (at_builtin; refine wpList_appendX _ rfl (.tmp 32) (.tmp 34) _ _ rfl _ _ rfl rfl hr4 ?_)
  have hb5 := below_then (below_then hb1 (below_one _ _)) hb4
  have HR4 := Lib.hid hR4
  clear hr4 hR4 hb4 hb1
  refine (er_4 _ c4 _ (HP1.out.below hb5) HR4.out).mono ?_
  rintro e y1 ⟨u1, x1, z1, B1, m1, d1, rfl, hb2⟩
  have hb1 := below_then (below_then hb5 hb2) (below_one y1 (.cells #[.int .i64 x1, .int .u32 z1, .slice B1 m1 d1] 27))
  clear hb2 hb5
  go_wp2_with fail
  refine (HC.out _).mono ?_
  rintro e p0 ⟨rfl, hb2⟩
  replace hb1 := below_then hb1 hb2
  clear hb2
  go_wp2_with fail
  refine (er_2 _ _ (HP1.out.below (below_then hb1 (below_one _ _))) (isr_lit _ _ [(2, 0), (2, 0)] 2 rfl rfl (by decide))).mono ?_
  rintro e q0 ⟨a0, b0, c0, D0, m0, d0, rfl, hb2⟩
  replace hb1 := below_then (below_then (below_then hb1 (below_one _ _)) hb2) (below_one q0 (.cells #[.int .i64 b0, .int .u32 c0, .slice D0 m0 d0] 27))
  clear hb2
  go_wp2_with fail
  refine (HC.out _).mono ?_
  rintro e p1 ⟨rfl, hb2⟩
  replace hb1 := below_then hb1 hb2
  clear hb2
  go_wp2_with fail
  refine (er_1 _ 2147483648 0 (by decide +kernel) _ (HP1.out.below (below_then hb1 (below_one _ _))) (isr_lit _ _ [(2147483648, 0)] 1 rfl rfl (by decide))).mono ?_
  rintro e q1 ⟨a1, b1, c1, D1, m1, d1, rfl, hb2⟩
  replace hb1 := below_then (below_then (below_then hb1 (below_one _ _)) hb2) (below_one q1 (.cells #[.int .i64 b1, .int .u32 c1, .slice D1 m1 d1] 27))
  clear hb2
  go_wp2_with fail
  refine (HC.out _).mono ?_
  rintro e p2 ⟨rfl, hb2⟩
  replace hb1 := below_then hb1 hb2
  clear hb2
  go_wp2_with fail
  refine (er_1 _ 1 2147483648 (by decide +kernel) _ (HP1.out.below (below_then hb1 (below_one _ _))) (isr_lit _ _ [(1, 2147483648)] 1 rfl rfl (by decide))).mono ?_
  rintro e q2 ⟨a2, b2, c2, D2, m2, d2, rfl, hb2⟩
  replace hb1 := below_then (below_then (below_then hb1 (below_one _ _)) hb2) (below_one q2 (.cells #[.int .i64 b2, .int .u32 c2, .slice D2 m2 d2] 27))
  clear hb2
  go_wp2_with fail
  refine (nx_0 g _ (HP1.out.below hb1) (HR.out.below hb1) ).mono ?_
  rintro e s0 ⟨rfl, hb2⟩
  replace hb1 := below_then hb1 hb2
  clear hb2
  go_wp2_with fail
  refine (nx_1 g _ (HP1.out.below hb1) (HR.out.below hb1) ).mono ?_
  rintro e s1 ⟨rfl, hb2⟩
  replace hb1 := below_then hb1 hb2
  clear hb2
  go_wp2_with fail
  refine (nx_2 g _ (HP1.out.below hb1) (HR.out.below hb1) ).mono ?_
  rintro e s2 ⟨rfl, hb2⟩
  replace hb1 := below_then hb1 hb2
  clear hb2
  go_wp2_with fail
  refine (nx_3 g _ (HP1.out.below hb1) ).mono ?_
  rintro e s3 ⟨rfl, hb2⟩
  replace hb1 := below_then hb1 hb2
  clear hb2
  go_wp2_with fail
  refine (ialive_any _ (HP1.out.below hb1)).mono ?_
  rintro e z3 ⟨rfl, hb2⟩
  replace hb1 := below_then hb1 hb2
  clear hb2
  go_wp2
  go_ret
  exact Ret.mk rfl (below_then hb0 hb1)

set_option maxRecDepth 100000 in
theorem lifted (os : Os) (started : os.Started) (H : Type) (enc : TypeId × Value → H) :
    ReturnsInHanded {} Tryd.checked os 3 .any (fun w args => (Rows.orderNamesSpec.pre enc Tryd.prog Tryd.f3 [] false w args ∧ laidMetH Tryd.prog laidL w) ∧ sizedMet enc Tryd.prog Tryd.f3 (OpenSpec.ofChange Rows.orderNamesSpec) false w args)
      (Rows.orderNamesSpec.post enc Tryd.prog Tryd.f3 false true false false) := by
  refine returnsInHanded_of_change_and (C := Tryd.checked) (X := fun w _ => laidMetH Tryd.prog laidL w) (fun _ _ _ hh h => h.of_heap hh) own started (by kernel_rfl) Tryd.func3
    (ChangeSpec.witness_shaped (enc := enc) (C := Tryd.checked) (os := os) (X := fun w _ => laidMetH Tryd.prog laidL w) false (World.doorLaid Tryd.prog 400 os) #[] 8 rfl (World.shaped_of_RefB (by kernel_rfl) (by kernel_rfl)) (by kernel_rfl) (by kernel_rfl) (by kernel_rfl) (door_met os _)) ?_
  intro W base args ds gs before hval0 hW _ _ hL _
  refine law_of laidOut (by kernel_rfl) (by kernel_rfl) Tryd.underlying4 rfl ?_ hW fun p hA => ?_
  · intro ds hd
    match ds, hd with
    | [], _ => rfl
  rw [Tryd.params3] at hA
  obtain ⟨hargs, rfl, rfl⟩ := trodAll_nil hA
  obtain rfl : args = #[] := by cases args; simp_all
  exact walk W (of_laid hL)

theorem row : Rows.OrderNamesSaid :=
  OpenClaim.holds_of_wide 3 Tryd.f3 rfl rfl rfl rfl rfl rfl rfl ⟨rfl, rfl, rfl, rfl, rfl⟩ rfl rfl rfl rfl rfl (by kernel_rfl) Tryd.func3 (by kernel_rfl)
    (of_decide_eq_true (by kernel_rfl)) (by unfold Func.isWrapper; first | (rw [if_pos (by decide +kernel)]; kernel_rfl) | (rw [if_neg (by decide +kernel)]; exact ⟨rfl, rfl⟩))
    (fun os started H enc _ => lifted os started H enc)

theorem card : Rows.OrderNamesCardSaid :=
  Claim7.holds_tied_plain_at .later [] [.data] true Rows.orderNamesCard.stood.harness false
    row (fun _ h => by cases h) (by kernel_rfl) (fun _ h => by cases h) orderNames_row_tie rfl ⟨rfl, rfl⟩ (by kernel_rfl) rfl
    (fun f fn hf hfn => by
      obtain rfl : f = 3 := Option.some.inj ((show Tryd.prog.funcNamed "bascule/basculelaw07.OrderNames" = some 3 by kernel_rfl).symm.trans hf) |>.symm
      obtain rfl : fn = Tryd.f3 := (Option.some.inj (Tryd.func3.symm.trans hfn)).symm
      exact ⟨by kernel_rfl, fun j t ht => by
        rw [Tryd.params3] at ht
        simp at ht⟩)
    (by kernel_rfl)
#print axioms card

end Go.Proofs.YtohllaolbebogaaDoor.orderNames
