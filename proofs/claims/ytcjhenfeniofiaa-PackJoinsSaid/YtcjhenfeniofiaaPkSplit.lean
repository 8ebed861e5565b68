/- Package pack: Split. -/
import Derived.Deep.OwnRows
import Derived.Test.YtcjhenfeniofiaaPkJoin
namespace Go.Proofs.Ytcjhenfeniofiaa
open Go.RowKit Go.Shelf
attribute [local go_sem] Oper.semAt_some

/-- Fields that may be are no more than a word's bits. -/
theorem Pk.pos_ge {bf : Nat → Int} : ∀ {n : Nat}, Pk.standB bf n = true → (n : Int) ≤ Pk.pos bf n ∧ Pk.pos bf n ≤ 64
  | 0, _ => by simp [Pk.pos]
  | n + 1, h => by
    have h1 := Pk.inW_true (Pk.standB_at h (Nat.lt_succ_self n))
    have h2 := Pk.pos_ge (Pk.standB_le (Nat.le_succ n) h)
    have e : Pk.pos bf (n + 1) = Pk.pos bf n + bf n := by show wrap64 _ = _; unfold wrap64; omega
    rw [e]
    omega
theorem Pk.stand_few {bf : Nat → Int} {n : Nat} (h : Pk.standB bf n = true) : n ≤ 64 := by have := Pk.pos_ge h; omega

theorem Pk.pos_step {bf : Nat → Int} {n i : Nat} (h : Pk.standB bf n = true) (hi : i + 1 ≤ n) : Pk.pos bf (i + 1) = Pk.pos bf i + bf i := by
  have h1 := Pk.inW_true (Pk.standB_at h (show i < n by omega))
  show wrap64 _ = _
  unfold wrap64
  omega
theorem Pk.pos_mono {bf : Nat → Int} {n i j : Nat} (h : Pk.standB bf n = true) (hij : i ≤ j) (hj : j < n := by omega) : Pk.pos bf i ≤ Pk.pos bf j := by
  induction j with
  | zero => obtain rfl : i = 0 := by omega
            exact Int.le_refl _
  | succ j ih =>
    by_cases e : i = j + 1
    · subst e; exact Int.le_refl _
    · have h1 := ih (by omega) (by omega)
      have h2 := Pk.pos_step h (show j + 1 ≤ n by omega)
      have h3 := Pk.inW_true (Pk.standB_at h (show j < n by omega))
      omega

/-- N numbers lie at A, in w. -/
def IsInts (w : World) (A : Option Addr) (N : Nat) (bf : Nat → Int) : Prop := ∀ i, i < N → ∃ b off, A = some ⟨b, off, none⟩ ∧ w.cell? ⟨b, off + i, none⟩ = some (.int .i64 (bf i))
theorem IsInts.same {w w' : World} {A : Option Addr} {N : Nat} {bf : Nat → Int} (h : IsInts w A N bf) (hs : ∀ k, k < w.heap.size → w'.heap[k]? = w.heap[k]?) : IsInts w' A N bf := fun i hi => by
  obtain ⟨b, off, e, h1⟩ := h i hi
  exact ⟨b, off, e, (World.cell?_of_block (w := w) (hs b (World.block_lt_of_cell? _ _ h1))).trans h1⟩

set_option maxHeartbeats 400000 in
theorem split1_at (A : Option Addr) (N c : Nat) (bf : Nat → Int) (q i : Nat) (hi : i < N) (w : World) (hq : w.cell? ⟨q, 0, none⟩ = some (.slice A N c)) (hF : IsInts w A N bf) :
    Calls Try.prog 25 #[.int .i64 (i : Nat), .pointer (some ⟨q, 0, none⟩)] w (Ret (.int .i64 (bf i)) w) := by
  obtain ⟨b, off, rfl, h1⟩ := hF i hi
  clear hF
  go_enter Try.func25, Try.ntmps25
  go_wp2
  go_ret
  exact Ret.mk rfl (Below.refl _ _)

theorem u64_info : (Try.prog.info? 22).map (fun i => (i.zero, i.size, i.bytes)) = some (some (.int .u64 0), 1, 8) := by kernel_rfl

/-- make([]uint64, n). -/
theorem run_make_words (n : Nat) (hn : n ≤ 1000000) (w : World) : (Instr.makeSlice 31 (.int .i64 (n : Nat)) (.int .i64 (n : Nat))).run Try.prog w =
    .ok (.slice (some ⟨w.heap.size, 0, none⟩) n n) (w.alloc (.cells (madeCells #[.int .u64 0] n) 22)) := by
  obtain ⟨i0, hi, hz0, hz1, hz2⟩ := info_parts u64_info
  have h := run_make (P := Try.prog) w 31 22 i0 _ Try.underlying31 hi hz0 .i64 .i64 n n (by omega) (by omega) (by rw [hz2]; omega) (by omega)
  rw [h, hz1]
  simp [Value.cells]

set_option maxHeartbeats 1000000 in
theorem split_bad (x : Nat) (A : Option Addr) (N c : Nat) (hc : N ≤ c ∧ c ≤ 9223372036854775807) (bf : Nat → Int) (w : World) (hF : IsInts w A N bf) (hs : Pk.standB bf N = false) :
    Calls Try.prog 11 #[.int .u64 x, .slice A N c] w (Ret2 (.slice none 0 0) (.int .i64 2) w) := by
  refine (callsIn_wide (n := 9)).1 ?_
  refine callsIn_of_wp_marks Try.func11 rfl trivial ?_ rfl
  simp only [Try.ntmps11, List.size_toArray, List.length_cons, List.length_nil, Nat.reduceAdd, Nat.reduceSub, Array.replicate_succ, Array.replicate_zero, List.push_toArray, List.append_toArray, List.nil_append, List.cons_append]
  have hfw : ∀ f, Fence.wide.fn f := fun _ => trivial
  have HF := Lib.hid hF
  clear hF
  obtain ⟨r, hr⟩ : ∃ r, w.heap.size = r := ⟨_, rfl⟩
  gi_wp2_with fail
  obtain ⟨W, hW⟩ : ∃ W, (w.alloc (Obj.cells #[Value.int IntKind.u64 ↑x] 22)).alloc (Obj.cells #[Value.slice A N c] 34) = W := ⟨_, rfl⟩
  have hz : W.heap.size = r + 2 := by rw [← hW, ← hr]; simp
  have b0 : Below r w W := by rw [← hW, ← hr]; exact below_two _ _ _
  have c0 : W.cell? ⟨r, 0, none⟩ = some (.int .u64 x) := by rw [← hW, ← hr]; simp [go_sem]
  have c1 : W.cell? ⟨r + 1, 0, none⟩ = some (.slice A N c) := by rw [← hW, ← hr]; simp [go_sem]
  rw [hW]
  clear hW
  refine (callsIn_wide.2 (mayStand_any bf N (by omega) 25 #[.pointer (some ⟨r + 1, 0, none⟩)] W (enters_of Try.func25 (by kernel_rfl) rfl) ?_)).mono ?_
  · intro i B hi hB
    refine split1_at A N c bf (r + 1) i hi B ((World.cell?_of_block (w := W) (hB.2 (r + 1) (by omega))).trans c1) (HF.out.same fun k hk => ?_)
    exact (hB.2 k (by omega)).trans (b0.block k (by omega))
  rintro e W1 ⟨rfl, hb1⟩
  rw [hs]
  gi_wp2
  refine plain_ret (v := .tuple #[.slice none 0 0, .int .i64 2]) ?_ ⟨rfl, ?_⟩
  · simp [results, Try.results11, go_sem]
  · rw [hr]; exact b0.trans (hb1.mono (by omega))

/-- What Split keeps between two fields: the word, the list that it answers. -/
structure SplitAt (w : World) (r q N : Nat) (x : Nat) (f : Nat → Value) (X : World) : Prop where
  word : X.cell? ⟨r, 0, none⟩ = some (.int .u64 x)
  out : X.cell? ⟨q + 1, 0, none⟩ = some (.slice (some ⟨q, 0, none⟩) N N)
  row : X.rowIs q 22 N f
  below : Below r w X
theorem SplitAt.only {w : World} {r q N x : Nat} {f : Nat → Value} {X X' : World} {D : Nat → Prop} (h : SplitAt w r q N x f X) (hrw : w.heap.size = r) (hq : r < q) (ho : Only D X X') (hD : ∀ k, D k → q + 1 < k) : SplitAt w r q N x f X' := by
  have n0 : ¬ D r := fun h => by have := hD _ h; omega
  have n1 : ¬ D (q + 1) := fun h => by have := hD _ h; omega
  have n2 : ¬ D q := fun h => by have := hD _ h; omega
  exact ⟨ho.cell h.word n0, ho.cell h.out n1, h.row.of_block (ho.block q h.row.lt n2), Only.then_below (by omega) h.below ho (fun k hk => by have := hD k hk; omega)⟩
theorem SplitAt.grown {w : World} {r q N x : Nat} {f : Nat → Value} {X X' : World} (h : SplitAt w r q N x f X) (hrw : w.heap.size = r) (hq : r < q) (hb : Below X.heap.size X X') : SplitAt w r q N x f X' :=
  h.only hrw hq (Only.of_below (fun _ => False) hb) (fun _ h => h.elim)
theorem SplitAt.step {w : World} {r q N x : Nat} {f : Nat → Value} {X : World} (h : SplitAt w r q N x f X) (hq : r < q) (i : Nat) (v : Value) : SplitAt w r q N x (fun j => if j = i then v else f j) (X.setCell ⟨q, i, none⟩ v) :=
  ⟨by rw [World.cell?_setCell_other _ _ _ _ (by intro hh; injection hh; omega)]; exact h.word, by rw [World.cell?_setCell_other _ _ _ _ (by intro hh; injection hh; omega)]; exact h.out,
    h.row.set i v, h.below.setCell (by simp; omega) _⟩

/-- The first i numbers are there. -/
def Pk.cut (x : Nat) (bf : Nat → Int) (i : Nat) : Nat → Value := fun j => if j < i then .int .u64 (Pk.field x (Pk.pos bf j).toNat (bf j).toNat : Nat) else .int .u64 0

/-- A new list: its numbers. -/
def RetWords (N : Nat) (f : Nat → Nat) (w : World) (e : Ending) (w' : World) : Prop :=
  ∃ g, e = .returned (.tuple #[.slice (some ⟨g, 0, none⟩) N N, .int .i64 0]) ∧ w.heap.size ≤ g ∧ w'.rowIs g 22 N (fun j => .int .u64 (f j : Nat)) ∧ Below w.heap.size w w'

set_option maxHeartbeats 2000000 in
theorem split_ok (x : Nat) (hx : x < 18446744073709551616) (A : Option Addr) (N c : Nat) (bf : Nat → Int) (w : World) (hF : IsInts w A N bf) (hs : Pk.standB bf N = true) :
    Calls Try.prog 11 #[.int .u64 x, .slice A N c] w (RetWords N (fun j => Pk.field x (Pk.pos bf j).toNat (bf j).toNat) w) := by
  refine (callsIn_wide (n := 9)).1 ?_
  refine callsIn_of_wp_marks Try.func11 rfl trivial ?_ rfl
  simp only [Try.ntmps11, List.size_toArray, List.length_cons, List.length_nil, Nat.reduceAdd, Nat.reduceSub, Array.replicate_succ, Array.replicate_zero, List.push_toArray, List.append_toArray, List.nil_append, List.cons_append]
  have hfw : ∀ f, Fence.wide.fn f := fun _ => trivial
  have HF := Lib.hid hF
  have HX := Lib.hid hx
  have hfew := Pk.stand_few hs
  clear hF hx
  obtain ⟨r, hr⟩ : ∃ r, w.heap.size = r := ⟨_, rfl⟩
  gi_wp2_with fail
  obtain ⟨W, hW⟩ : ∃ W, (w.alloc (Obj.cells #[Value.int IntKind.u64 ↑x] 22)).alloc (Obj.cells #[Value.slice A N c] 34) = W := ⟨_, rfl⟩
  have hz : W.heap.size = r + 2 := by rw [← hW, ← hr]; simp
  have b0 : Below r w W := by rw [← hW, ← hr]; exact below_two _ _ _
  have c0 : W.cell? ⟨r, 0, none⟩ = some (.int .u64 x) := by rw [← hW, ← hr]; simp [go_sem]
  have c1 : W.cell? ⟨r + 1, 0, none⟩ = some (.slice A N c) := by rw [← hW, ← hr]; simp [go_sem]
  rw [hW]
  clear hW
  refine (callsIn_wide.2 (mayStand_any bf N (by omega) 25 #[.pointer (some ⟨r + 1, 0, none⟩)] W (enters_of Try.func25 (by kernel_rfl) rfl) ?_)).mono ?_
  · intro i B hi hB
    refine split1_at A N c bf (r + 1) i hi B ((World.cell?_of_block (w := W) (hB.2 (r + 1) (by omega))).trans c1) (HF.out.same fun k hk => ?_)
    exact (hB.2 k (by omega)).trans (b0.block k (by omega))
  rintro e W1 ⟨rfl, hb1⟩
  rw [hs]
  have HS := Lib.hid hs
  clear hs
  have e0 := (hb1.cell (p := ⟨r, 0, none⟩) (by simp only; omega)).trans c0
  have e1 := (hb1.cell (p := ⟨r + 1, 0, none⟩) (by simp only; omega)).trans c1
  have b1 : Below r w W1 := b0.trans (hb1.mono (by omega))
  obtain ⟨q, hq⟩ : ∃ q, W1.heap.size = q := ⟨_, rfl⟩
  have q0 : r < q := by have := hb1.size; omega
  have q1 : r + 1 < q := by have := hb1.size; omega
  clear c0 c1 b0 hb1 hz W
  have hmk := run_make_words N (by omega)
  gi_wp2_with (gi_at_call 24; refine (callsIn_wide.2 (spans_any _ 25 #[.pointer (some ⟨r + 1, 0, none⟩)] _)).mono ?_; rintro e w' ⟨rfl, rfl⟩)
  obtain ⟨W, hW⟩ : ∃ W, (((W1.alloc (Obj.cells (madeCells #[Value.int IntKind.u64 0] N) 22)).alloc (Obj.cells #[Value.slice (some { block := q, off := 0 }) N N] 31)).alloc (Obj.cells #[Value.int IntKind.i64 ↑N] 3)).alloc
      (Obj.cells #[Value.func (Fn.func 25) #[] #[Value.pointer (some { block := r + 1, off := 0 })]] 54) = W := ⟨_, rfl⟩
  have hz : W.heap.size = q + 4 := by rw [← hW, ← hq]; simp
  have b0 : Below q W1 W := by rw [← hW, ← hq]; exact (below_three _ _ _ _).alloc (by simp; omega) _
  have c0 := (b0.cell (p := ⟨r, 0, none⟩) q0).trans e0
  have c1 := (b0.cell (p := ⟨r + 1, 0, none⟩) q1).trans e1
  have c2 : W.rowIs q 22 N (Pk.cut x bf 0) := by
    rw [← hW, ← hq]
    exact ((((World.rowIs_made W1 (.int .u64 0) N 22).alloc _).alloc _).alloc _).congr (fun i _ => by simp [Pk.cut])
  have c3 : W.cell? ⟨q + 1, 0, none⟩ = some (.slice (some ⟨q, 0, none⟩) N N) := by rw [← hW, ← hq]; simp [go_sem]
  have c4 : W.cell? ⟨q + 1 + 1, 0, none⟩ = some (.int .i64 (N : Nat)) := by rw [← hW, ← hq]; simp [go_sem]
  have c5 : W.cell? ⟨q + 1 + 1 + 1, 0, none⟩ = some (.func (.func 25) #[] #[.pointer (some ⟨r + 1, 0, none⟩)]) := by rw [← hW, ← hq]; simp [go_sem]
  have b2 : Below r w W := b1.trans (b0.mono (by omega))
  rw [hW]
  clear hW e0 e1 b0 b1 hq W1 hmk
  refine wpIn_range (gf := 32) (lb := #[.pointer (some ⟨q + 1 + 1, 0, none⟩), .pointer (some ⟨q + 1 + 1 + 1, 0, none⟩)]) rfl (enters_of Try.func32 (by kernel_rfl) rfl)
    (spans_iter 8 (by omega) bf N (by omega) 25 #[.pointer (some ⟨r + 1, 0, none⟩)] (q + 1 + 1) (q + 1 + 1 + 1) (fun k => k < q + 4 ∧ k ≠ q) W (by omega) (by omega) c4 c5 (enters_of Try.func25 (by kernel_rfl) rfl) ?hb) ?hcap ?hps
    (fun k => k = q) ?hC (fun i X => SplitAt w r q N x (Pk.cut x bf i) X) (fun _ _ _ => False) ?hI ?hIx ?h0 ?round ?done ?stop
  case hb =>
    intro i B hi hB
    refine split1_at A N c bf (r + 1) i hi B ((World.cell?_of_block (w := W) (hB (r + 1) (by omega)).2).trans c1) (HF.out.same fun k hk => ?_)
    exact (hB k (by omega)).2.trans (b2.block k (by omega))
  case hcap => intro k hk; exact ⟨by omega, rfl⟩
  case hps => intro i h; rw [Pk.given_at]; rfl
  case hC => intro k hk; omega
  case hI => intro i X X' h1 ho; exact h1.only hr q0 ho (by omega)
  case hIx => intro k i X X' h _; exact h
  case h0 => exact ⟨c0, c3, c2, b2⟩
  case round =>
    intro l i hi X h1 hlt
    rw [Pk.given_at]
    rw [Pk.given_length] at hi
    clear c0 c1 c2 c3 c4 c5 b2
    gi_wp2
    refine ⟨(Only.refl _ X).alloc _, fun W₂ ho => ?_⟩
    obtain ⟨m, n, hm, hn, hn1, hmn⟩ := Pk.inW_nat (Pk.standB_at HS.out hi)
    have j1 : SplitAt w r q N x (Pk.cut x bf i) W₂ := (h1.grown hr q0 (below_one _ _)).only hr q0 ho (by omega)
    have k0 : W₂.cell? ⟨X.heap.size, 0, none⟩ = some (.int .i64 (m : Nat)) := by rw [← hm]; exact ho.cell (by simp [go_sem]) (by simp only; omega)
    have k1 : W₂.cell? ⟨X.heap.size, 1, none⟩ = some (.int .i64 (n : Nat)) := by rw [← hn]; exact ho.cell (by simp [go_sem]) (by simp only; omega)
    have HM := Lib.hid hm
    have HNN := Lib.hid hn
    obtain ⟨sb, hsb⟩ : ∃ sb, X.heap.size = sb := ⟨_, rfl⟩
    rw [hsb] at k0 k1 ⊢
    clear hm hn h1 ho hsb
    gi_wp2
    have g0 := cell_regrown j1.word
    have g1 := cell_regrown j1.out
    have g2 := cell_regrown k0
    have g3 := cell_regrown k1
    refine wpIn_region_tail_below (ro := some l) 7 (by kernel_rfl) (by kernel_rfl) (by kernel_rfl) ?_
    simp only [List.take_succ_cons, List.take_zero, List.drop_succ_cons, List.drop_zero]
    repeat (go_big_quiet_step (exact Calls.regrown_of (field_any _ _ _ HX.out hmn _)))
    refine wpQuiet_nil ?_
    intro W4 hw'
    obtain ⟨⟨dq, osq⟩, hw''⟩ := hw'
    have hb4 := below_regrown W₂ dq osq
    rw [← hw''] at hb4
    clear hw'' g0 g1 g2 g3
    have j4 := j1.grown hr q0 hb4
    have m1 := j4.row.cell hi
    have m2 := j4.row.frozen i
    have hcut : Pk.cut x bf i i = .int .u64 0 := by simp [Pk.cut]
    rw [hcut] at m1
    change wpListIn (Fence.wide.inRound l) _ _ _ _ _ _ _
    clear k0 k1 j1 hcut
    gi_wp2
    refine ⟨(Only.of_below (fun k => k = q) hb4).setCell (p := ⟨q, i, none⟩) (.inl rfl) _, ?_⟩
    have st := j4.step q0 i (.int .u64 (Pk.field x m n : Nat))
    refine ⟨st.word, st.out, st.row.congr fun j _ => ?_, st.below⟩
    unfold Pk.cut
    by_cases hj : j = i
    · subst hj; rw [if_pos rfl, if_pos (by omega), HM.out, HNN.out, Int.toNat_natCast, Int.toNat_natCast]
    · rw [if_neg hj]
      by_cases hl : j < i
      · rw [if_pos hl, if_pos (by omega)]
      · rw [if_neg hl, if_neg (by omega)]
  case done =>
    intro X h1 hK
    rw [Pk.given_length] at h1
    have HK := Lib.hid hK
    have m1 := h1.out
    clear hK c0 c1 c2 c3 c4 c5
    gi_wp2
    refine marks_ret (v := .tuple #[.slice (some ⟨q, 0, none⟩) N N, .int .i64 0]) HK.out ?_ ⟨q, rfl, by omega, ?_, ?_⟩
    · simp [results, Try.results11, go_sem]
    · have hne : q ≠ W.heap.size := by omega
      exact (h1.row.of_block (World.putObj_heap_other hne)).congr fun j hj => by unfold Pk.cut; rw [if_pos hj]
    · rw [hr]; exact below_putObj h1.below (by omega) _
  case stop => intro k i X hi h _; exact h.elim
end Go.Proofs.Ytcjhenfeniofiaa
