/- What each kind of access does to a memory. -/
import Derived.Test.YtiaimenngmfnmaaCeDo
namespace Go.Proofs.Ytiaimenngmfnmaa
open Go.RowKit Ce

/-- It tells whether it was done; of what was there only the row has turned, at one place. -/
def Turned (gm gr : Nat) (A : Option Addr) (n c : Nat) (cf : Nat → C4) (d : Bool) (w : World) (e : Ending) (w' : World) : Prop :=
  e = .returned (.bool d) ∧ Mem w' gm gr A n c cf ∧ Only (fun k => k = gr) w w'

set_option maxHeartbeats 1000000 in
theorem load_any (gm gr : Nat) (A : Option Addr) (n c : Nat) (cf : Nat → C4) (a : Acc) (w : World) (hM : Mem w gm gr A n c cf) : Calls Try.prog 24 #[.pointer (some ⟨gm, 0, none⟩), av a] w (Turned gm gr A n c cf true w) := by
  have HM := Lib.hid hM
  clear hM
  unfold av
  go_enter Try.func24, Try.ntmps24
  go_wp2
  go_ret
  exact ⟨rfl, HM.out.same (below_one _ _).block, Only.of_below _ (below_one _ _)⟩

set_option maxHeartbeats 1000000 in
theorem run_eq4 (x y : C4) (b : Bool) (hb : eqB x y = b) (W : World) : (binOp .eql 25 (.agg #[.int .u64 x.t, .int .u64 x.a, .int .u64 x.b, .int .u64 x.c]) (.agg #[.int .u64 y.t, .int .u64 y.a, .int .u64 y.b, .int .u64 y.c])).run Try.prog W = .ok (.bool b) W := by
  subst hb
  by_cases h0 : x.t = y.t
  · by_cases h1 : x.a = y.a
    · by_cases h2 : x.b = y.b
      · by_cases h3 : x.c = y.c
        · go_simp; simp [eqB, *]
        · go_simp; simp [eqB, *]
      · go_simp; simp [eqB, *]
    · go_simp; simp [eqB, *]
  · go_simp; simp [eqB, *]

/-- An access, boxed. -/
abbrev boxA (k i : Int) (o x : C4) : Obj := .cells #[.int .u8 k, .int .i64 i, .int .u64 o.t, .int .u64 o.a, .int .u64 o.b, .int .u64 o.c, .int .u64 x.t, .int .u64 x.a, .int .u64 x.b, .int .u64 x.c] 32
theorem boxed (w : World) (k i : Int) (o x : C4) (j : Nat) (u : Value) (h : (l10 ⟨k, i, o, x⟩)[j]? = some u) : (w.alloc (boxA k i o x)).cell? ⟨w.heap.size, j, none⟩ = some u := by
  simp [go_sem]
  simpa [l10] using h

/-- What is known of the world behind the boxing: W. -/
theorem ahead {gm gr : Nat} {A : Option Addr} {n c : Nat} {cf : Nat → C4} {k : Int} {i : Nat} {o x : C4} (hi : i < n) {w : World} (hM : Mem w gm gr A n c cf) :
    ∃ m F, A = some ⟨gr, 0, none⟩ ∧ gm ≠ gr ∧ w.rowIs gr 25 m F ∧ n * 4 ≤ m ∧ (∀ i, i < n → HasL F (i * 4) (l4 (cf i))) ∧ gr < w.heap.size ∧
      (w.alloc (boxA k i o x)).rowIs gr 25 m F ∧ (w.alloc (boxA k i o x)).cell? ⟨gm, 0, none⟩ = some (.slice (some ⟨gr, 0, none⟩) n c) ∧ At4 (w.alloc (boxA k i o x)) gr (i * 4) (cf i) := by
  obtain ⟨h0, h1, _, _, h4⟩ := hM
  obtain ⟨rfl, m, F, hr, hm, hF⟩ := h4 (by omega)
  have hr' := hr.alloc (boxA k i o x)
  exact ⟨m, F, rfl, h1, hr, hm, hF, hr.lt, hr', ((below_one w _).cell (World.block_lt_of_cell? _ _ h0)).trans h0, at4_of hr' (by omega) (hF i hi)⟩

theorem Turned.drew {gm gr : Nat} {A : Option Addr} {n c : Nat} {cf : Nat → C4} {d : Bool} {w W : World} {v : Value} {e : Ending} (h : Turned gm gr A n c cf d w e W) (hv : v = .bool d) : Turned gm gr A n c cf d w (.returned v) W.drew := by
  obtain ⟨_, ⟨h0, h1, h2, h3, h4⟩, ho⟩ := h
  exact ⟨by rw [hv], ⟨h0, h1, h2, h3, h4⟩, ho.drew⟩
theorem far {w : World} {a b : Addr} {v : Value} (h : b.block ≠ a.block) : (w.setCell a v).cell? b = w.cell? b := World.cell?_of_block (w := w) (Below.heap_setCell w a v _ h)

/-- Behind a store of a whole cell. -/
theorem stored {gm gr : Nat} {n c m : Nat} {cf : Nat → C4} {F : Nat → Value} {i : Nat} {x : C4} {w W : World} (hne : gm ≠ gr) (hc : n ≤ c ∧ c ≤ 9223372036854775807) (hm : n * 4 ≤ m) (hF : ∀ i, i < n → HasL F (i * 4) (l4 (cf i)))
    (hr : W.rowIs gr 25 m F) (h0 : W.cell? ⟨gm, 0, none⟩ = some (.slice (some ⟨gr, 0, none⟩) n c)) (hb : Below w.heap.size w W) :
    Turned gm gr (some ⟨gr, 0, none⟩) n c (upd cf i x) true w (.returned (.bool true)) ((((W.setCell ⟨gr, i * 4, none⟩ (.int .u64 x.t)).setCell ⟨gr, i * 4 + 1, none⟩ (.int .u64 x.a)).setCell ⟨gr, i * 4 + 2, none⟩ (.int .u64 x.b)).setCell ⟨gr, i * 4 + 3, none⟩ (.int .u64 x.c)) := by
  obtain ⟨G, hG, h1, h2⟩ := set4 hr i x
  refine ⟨rfl, ⟨?_, hne, hc.1, hc.2, fun _ => ⟨rfl, m, G, hG, hm, fun j hj => ?_⟩⟩, ?_⟩
  · rw [far hne, far hne, far hne, far hne]
    exact h0
  · by_cases e : j = i
    · subst e; rw [upd_same]; exact h1
    · rw [upd_other e]; exact h2 j _ e (hF j hj) rfl
  · have h := Only.of_below (fun k => k = gr) hb
    exact (((h.setCell (p := ⟨gr, i * 4, none⟩) (.inl rfl) _).setCell (p := ⟨gr, i * 4 + 1, none⟩) (.inl rfl) _).setCell (p := ⟨gr, i * 4 + 2, none⟩) (.inl rfl) _).setCell (p := ⟨gr, i * 4 + 3, none⟩) (.inl rfl) _

set_option maxHeartbeats 1000000 in
theorem store_any (gm gr : Nat) (A : Option Addr) (n c : Nat) (cf : Nat → C4) (k : Int) (i : Nat) (o x : C4) (hi : i < n) (w : World) (hM : Mem w gm gr A n c cf) : Calls Try.prog 25 #[.pointer (some ⟨gm, 0, none⟩), av ⟨k, i, o, x⟩] w (Turned gm gr A n c (upd cf i x) true w) := by
  have hc : n ≤ c ∧ c ≤ 9223372036854775807 := ⟨hM.2.2.1, hM.2.2.2.1⟩
  have hB := fun j u h => boxed w k i o x j u h
  obtain ⟨m, F, rfl, hne, _, hm, hF, hlt, hr, h0, c0, c1, c2, c3⟩ := ahead (k := k) (o := o) (x := x) hi hM
  have b1 := hB 1 _ rfl
  have b6 := hB 6 _ rfl
  have b7 := hB 7 _ rfl
  have b8 := hB 8 _ rfl
  have b9 := hB 9 _ rfl
  have fz : ∀ j, (w.alloc (boxA k i o x)).frozen? ⟨gr, j, none⟩ = false := hr.frozen
  have hbW := below_one w (boxA k i o x)
  have i1 : (0 : Int) ≤ (i : Int) := by omega
  have i2 : (i : Int) < (n : Int) := by omega
  have HR := Lib.hid hr
  have HF := Lib.hid hF
  have HC := Lib.hid hc
  have HNE := Lib.hid hne
  have HM := Lib.hid hm
  clear hM hr hF hB hc hm
  unfold av
  go_enter Try.func25, Try.ntmps25
  go_wp2_with fail
  generalize w.alloc (boxA k i o x) = W at *
  go_region
  go_wp2
  go_ret
  exact (stored HNE.out HC.out HM.out HF.out HR.out h0 hbW).drew rfl

/-- Behind a store of one word of a cell. -/
theorem stored1 {gm gr : Nat} {n c m : Nat} {cf : Nat → C4} {F : Nat → Value} {i : Nat} {z : Int} {w W : World} (hne : gm ≠ gr) (hc : n ≤ c ∧ c ≤ 9223372036854775807) (hi : i < n) (hm : n * 4 ≤ m) (hF : ∀ i, i < n → HasL F (i * 4) (l4 (cf i)))
    (hr : W.rowIs gr 25 m F) (h0 : W.cell? ⟨gm, 0, none⟩ = some (.slice (some ⟨gr, 0, none⟩) n c)) (hb : Below w.heap.size w W) :
    Turned gm gr (some ⟨gr, 0, none⟩) n c (upd cf i ⟨(cf i).t, z, (cf i).b, (cf i).c⟩) true w (.returned (.bool true)) (W.setCell ⟨gr, i * 4 + 1, none⟩ (.int .u64 z)) := by
  refine ⟨rfl, ⟨?_, hne, hc.1, hc.2, fun _ => ⟨rfl, m, _, hr.set _ _, hm, fun j hj q u hu => ?_⟩⟩, ?_⟩
  · rw [far hne]; exact h0
  · have hq : q < 4 := (List.getElem?_eq_some_iff.1 hu).1
    by_cases e : j = i
    · subst e
      rw [upd_same] at hu
      match q, hq, hu with
      | 0, _, hu => simp only; rw [if_neg (by omega)]; exact hF j hj 0 u hu
      | 1, _, hu => simpa [l4] using hu
      | 2, _, hu => simp only; rw [if_neg (by omega)]; exact hF j hj 2 u hu
      | 3, _, hu => simp only; rw [if_neg (by omega)]; exact hF j hj 3 u hu
    · rw [upd_other e] at hu
      simp only
      rw [if_neg (by omega)]
      exact hF j hj q u hu
  · exact (Only.of_below (fun k => k = gr) hb).setCell (p := ⟨gr, i * 4 + 1, none⟩) (.inl rfl) _

/-- Nothing has turned but what is new. -/
theorem Turned.still {gm gr : Nat} {A : Option Addr} {n c : Nat} {cf : Nat → C4} {d : Bool} {w W : World} {v : Value} (hM : Mem w gm gr A n c cf) (hb : Below w.heap.size w W) (hv : v = .bool d) : Turned gm gr A n c cf d w (.returned v) W :=
  ⟨by rw [hv], hM.same hb.block, Only.of_below _ hb⟩

set_option maxHeartbeats 1000000 in
theorem add_any (gm gr : Nat) (A : Option Addr) (n c : Nat) (cf : Nat → C4) (k : Int) (i : Nat) (o x : C4) (hi : i < n) (w : World) (hM : Mem w gm gr A n c cf) : Calls Try.prog 27 #[.pointer (some ⟨gm, 0, none⟩), av ⟨k, i, o, x⟩] w (Turned gm gr A n c (upd cf i ⟨(cf i).t, IntKind.u64.wrap ((cf i).a + x.a), (cf i).b, (cf i).c⟩) true w) := by
  have hc : n ≤ c ∧ c ≤ 9223372036854775807 := ⟨hM.2.2.1, hM.2.2.2.1⟩
  have hB := fun j u h => boxed w k i o x j u h
  obtain ⟨m, F, rfl, hne, _, hm, hF, hlt, hr, h0, c0, c1, c2, c3⟩ := ahead (k := k) (o := o) (x := x) hi hM
  have b1 := hB 1 _ rfl
  have b7 := hB 7 _ rfl
  have fz : (w.alloc (boxA k i o x)).frozen? ⟨gr, i * 4 + 1, none⟩ = false := hr.frozen _
  have hbW := below_one w (boxA k i o x)
  have i1 : (0 : Int) ≤ (i : Int) := by omega
  have i2 : (i : Int) < (n : Int) := by omega
  have HR := Lib.hid hr
  have HF := Lib.hid hF
  have HC := Lib.hid hc
  have HNE := Lib.hid hne
  have HM := Lib.hid hm
  clear hM hr hF hB hc hm
  unfold av
  go_enter Try.func27, Try.ntmps27
  go_wp2_with fail
  generalize w.alloc (boxA k i o x) = W at *
  go_region
  go_wp2
  go_ret
  exact (stored1 HNE.out HC.out hi HM.out HF.out HR.out h0 hbW).drew rfl

set_option maxHeartbeats 1000000 in
theorem exchange_no (gm gr : Nat) (A : Option Addr) (n c : Nat) (cf : Nat → C4) (k : Int) (i : Nat) (o x : C4) (hi : i < n) (ho : eqB (cf i) o = false) (w : World) (hM : Mem w gm gr A n c cf) : Calls Try.prog 26 #[.pointer (some ⟨gm, 0, none⟩), av ⟨k, i, o, x⟩] w (Turned gm gr A n c cf false w) := by
  have HM := Lib.hid hM
  have hq := run_eq4 (cf i) o false ho
  have hB := fun j u h => boxed w k i o x j u h
  obtain ⟨m, F, rfl, hne, _, hm, hF, hlt, hr, h0, c0, c1, c2, c3⟩ := ahead (k := k) (o := o) (x := x) hi hM
  have b1 := hB 1 _ rfl
  have b2 := hB 2 _ rfl
  have b3 := hB 3 _ rfl
  have b4 := hB 4 _ rfl
  have b5 := hB 5 _ rfl
  have hbW := below_one w (boxA k i o x)
  have i1 : (0 : Int) ≤ (i : Int) := by omega
  have i2 : (i : Int) < (n : Int) := by omega
  clear hM hr hF hB hm ho
  unfold av
  go_enter Try.func26, Try.ntmps26
  go_wp2_with fail
  generalize w.alloc (boxA k i o x) = W at *
  go_region
  go_wp2
  go_ret
  exact Turned.still HM.out hbW.drew rfl

set_option maxHeartbeats 1000000 in
theorem exchange_yes (gm gr : Nat) (A : Option Addr) (n c : Nat) (cf : Nat → C4) (k : Int) (i : Nat) (o x : C4) (hi : i < n) (ho : eqB (cf i) o = true) (w : World) (hM : Mem w gm gr A n c cf) : Calls Try.prog 26 #[.pointer (some ⟨gm, 0, none⟩), av ⟨k, i, o, x⟩] w (Turned gm gr A n c (upd cf i x) true w) := by
  have hq := run_eq4 (cf i) o true ho
  have hc : n ≤ c ∧ c ≤ 9223372036854775807 := ⟨hM.2.2.1, hM.2.2.2.1⟩
  have hB := fun j u h => boxed w k i o x j u h
  obtain ⟨m, F, rfl, hne, _, hm, hF, hlt, hr, h0, c0, c1, c2, c3⟩ := ahead (k := k) (o := o) (x := x) hi hM
  have b1 := hB 1 _ rfl
  have b2 := hB 2 _ rfl
  have b3 := hB 3 _ rfl
  have b4 := hB 4 _ rfl
  have b5 := hB 5 _ rfl
  have b6 := hB 6 _ rfl
  have b7 := hB 7 _ rfl
  have b8 := hB 8 _ rfl
  have b9 := hB 9 _ rfl
  have fz : ∀ j, (w.alloc (boxA k i o x)).frozen? ⟨gr, j, none⟩ = false := hr.frozen
  have hbW := below_one w (boxA k i o x)
  have i1 : (0 : Int) ≤ (i : Int) := by omega
  have i2 : (i : Int) < (n : Int) := by omega
  have HR := Lib.hid hr
  have HF := Lib.hid hF
  have HC := Lib.hid hc
  have HNE := Lib.hid hne
  have HM := Lib.hid hm
  clear hM hr hF hB hc hm ho
  unfold av
  go_enter Try.func26, Try.ntmps26
  go_wp2_with fail
  generalize w.alloc (boxA k i o x) = W at *
  go_region
  go_wp2
  go_region
  go_wp2
  go_ret
  exact ((stored HNE.out HC.out HM.out HF.out HR.out h0 hbW).drew rfl).drew rfl
end Go.Proofs.Ytiaimenngmfnmaa
