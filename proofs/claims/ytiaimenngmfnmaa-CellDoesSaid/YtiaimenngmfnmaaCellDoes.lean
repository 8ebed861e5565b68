/- What an access sees, and the cells behind it, are the document's, access by access, also behind one that is refused: for all cells and accesses (up to 100; beyond them the law answers true). No condition. -/
import Derived.Test.YtiaimenngmfnmaaLaw
import Derived.Test.YtiaimenngmfnmaaCeRef
import Derived.Test.YtiaimenngmfnmaaCeOpenA
namespace Go.Proofs.Ytiaimenngmfnmaa.cellDoes
open Go.ChangeShapes Go.WideShapes Go.ChangeAt Go.RowKit Ce

/-- An access, done or refused. -/
def errOf (n : Nat) (a : Acc) : Int := if mayB n a = true then 0 else 2
def DidAny (gm gr : Nat) (A : Option Addr) (n c : Nat) (cg : Nat → C4) (x : C4) (d : Bool) (E : Int) (w : World) (e : Ending) (w' : World) : Prop :=
  e = .returned (.tuple #[sv x d, .int .i64 E]) ∧ Mem w' gm gr A n c cg ∧ Only (fun k => k = gr) w w'
def RefAny (A : Option Addr) (n : Nat) (cg : Nat → C4) (x : C4) (d : Bool) (E : Int) (w : World) (e : Ending) (w' : World) : Prop :=
  ∃ A' c', e = .returned (.tuple #[.slice A' n c', sv x d, .int .i64 E]) ∧ (A' = none → n = 0 ∧ c' = 0) ∧ IsCells w' A' n cg ∧ (A' = A ∨ ∀ b o, A' = some ⟨b, o, none⟩ → 0 < n → w.heap.size ≤ b) ∧ Below w.heap.size w w'

theorem did_any (gm gr : Nat) (A : Option Addr) (n c : Nat) (cf : Nat → C4) (af : Nat → Acc) (k : Nat) (x : C4) (d : Bool) (E : Int) (hx : sawC n cf af k = x) (hd : sawD n cf af k = d) (hE : errOf n (af k) = E) (w : World) (hM : Mem w gm gr A n c (st n cf af k)) :
    Calls Try.prog 9 #[.pointer (some ⟨gm, 0, none⟩), av (af k)] w (DidAny gm gr A n c (st n cf af (k + 1)) x d E w) := by
  subst hx hd hE
  cases hm : mayB n (af k) with
  | true =>
    refine (do_ok gm gr A n c _ (af k) hm w hM).mono ?_
    rintro e w' ⟨rfl, h1, h2⟩
    have e3 : st n cf af (k + 1) = upd (st n cf af k) (af k).i.toNat (becomes (st n cf af k (af k).i.toNat) (af k)) := by show Ce.step n _ _ = _; unfold Ce.step; rw [if_pos hm]
    refine ⟨?_, by rw [e3]; exact h1, h2⟩
    unfold sawC sawD errOf
    rw [if_pos hm, if_pos hm, if_pos hm]
  | false =>
    refine (do_bad gm gr A n c _ (af k) hm w hM).mono ?_
    rintro e w' ⟨rfl, h1⟩
    have hm' : ¬ mayB n (af k) = true := by rw [hm]; simp
    have e3 : st n cf af (k + 1) = st n cf af k := by show Ce.step n _ _ = _; unfold Ce.step; rw [if_neg hm']
    refine ⟨?_, by rw [e3]; exact hM.same h1.block, Only.of_below _ h1⟩
    unfold sawC sawD errOf
    rw [if_neg hm', if_neg hm', if_neg hm']

theorem ref_any (A : Option Addr) (n c : Nat) (hA : A = none → n = 0 ∧ c = 0) (hn : n ≤ 1024) (cf : Nat → C4) (af : Nat → Acc) (k : Nat) (x : C4) (d : Bool) (E : Int) (hx : sawC n cf af k = x) (hd : sawD n cf af k = d) (hE : errOf n (af k) = E) (w : World) (hI : IsCells w A n (st n cf af k)) :
    Calls Try.prog 15 #[.slice A n c, av (af k)] w (RefAny A n (st n cf af (k + 1)) x d E w) := by
  subst hx hd hE
  cases hm : mayB n (af k) with
  | true =>
    have h := may_true hm
    obtain ⟨q, hq⟩ : ∃ q : Nat, (af k).i = q := ⟨(af k).i.toNat, by omega⟩
    have e0 : af k = ⟨(af k).k, (q : Int), (af k).o, (af k).n⟩ := by rw [← hq]
    have e1 : (af k).i.toNat = q := by rw [hq]; rfl
    have hm2 := hm
    rw [e0] at hm2
    have h1 := rDo_yes A n c hA (by omega) (st n cf af k) (af k).k q (af k).o (af k).n (by omega) hm2 _ _ rfl rfl w hI
    rw [← e0] at h1
    refine h1.mono ?_
    rintro e w' ⟨A', c', rfl, h2, h3, h4⟩
    have e3 : st n cf af (k + 1) = upd (st n cf af k) (af k).i.toNat (becomes (st n cf af k (af k).i.toNat) (af k)) := by show Ce.step n _ _ = _; unfold Ce.step; rw [if_pos hm]
    refine ⟨A', c', ?_, h2, by rw [e3, e1]; exact h3.cells, .inr fun b o hb hn0 => ?_, h4⟩
    · unfold sawC sawD errOf
      rw [if_pos hm, if_pos hm, if_pos hm, e1]
    · obtain ⟨g, e, hg, _⟩ := h3.2.2 hn0
      have : b = g := congrArg Addr.block (Option.some.inj (hb.symm.trans e))
      omega
  | false =>
    have hm2 := hm
    rw [show af k = ⟨(af k).k, (af k).i, (af k).o, (af k).n⟩ from rfl] at hm2
    refine (rDo_no A n c (af k).k (af k).i (af k).o (af k).n hm2 w).mono ?_
    rintro e w' ⟨rfl, h1⟩
    have hm' : ¬ mayB n (af k) = true := by rw [hm]; simp
    have e3 : st n cf af (k + 1) = st n cf af k := by show Ce.step n _ _ = _; unfold Ce.step; rw [if_neg hm']
    refine ⟨A, c, ?_, hA, by rw [e3]; exact hI.same h1.block, .inl rfl, h1⟩
    unfold sawC sawD errOf
    rw [if_neg hm', if_neg hm', if_neg hm']

theorem cells_only {w w' : World} {A : Option Addr} {n gr : Nat} {cf : Nat → C4} (h : IsCells w A n cf) (hO : Only (fun k => k = gr) w w') (hne : ∀ b o, A = some ⟨b, o, none⟩ → 0 < n → b ≠ gr) : IsCells w' A n cf := fun i hi => by
  obtain ⟨b, o, e, h4⟩ := h i hi
  exact ⟨b, o, e, h4.same (hO.block b h4.lt (hne b o e (by omega)))⟩

/-- Behind the first k accesses: the memory, and the document's row. -/
def DoesAt (w : World) (gm gr : Nat) (A1 : Option Addr) (n c1 : Nat) (cf : Nat → C4) (af : Nat → Acc) (k : Nat) (v : Value) (wr : World) : Prop :=
  Mem wr gm gr A1 n c1 (st n cf af k) ∧ Below w.heap.size w wr ∧ ∃ A c, v = .slice A n c ∧ (A = none → n = 0 ∧ c = 0) ∧ (∀ b o, A = some ⟨b, o, none⟩ → 0 < n → b ≠ gr) ∧ IsCells wr A n (st n cf af k)

def sF (x : C4) (d : Bool) : Nat → Value := fun j => if j = 0 then .int .u64 x.t else if j = 1 then .int .u64 x.a else if j = 2 then .int .u64 x.b else if j = 3 then .int .u64 x.c else .bool d
theorem row5 (w : World) (x : C4) (d : Bool) (t : TypeId) : (w.alloc (.cells #[.int .u64 x.t, .int .u64 x.a, .int .u64 x.b, .int .u64 x.c, .bool d] t)).rowIs w.heap.size t 5 (sF x d) := by
  refine ⟨#[.int .u64 x.t, .int .u64 x.a, .int .u64 x.b, .int .u64 x.c, .bool d], heap_alloc_new w _, rfl, fun j hj => ?_⟩
  match j, hj with
  | 0, _ => rfl
  | 1, _ => rfl
  | 2, _ => rfl
  | 3, _ => rfl
  | 4, _ => rfl

set_option maxHeartbeats 4000000 in
theorem walk_few (A T : Option Addr) (n c M d : Nat) (hn : n ≤ 1024) (hM : M ≤ 100) (hd : M ≤ d ∧ d ≤ 9223372036854775807) (hA : A = none → n = 0 ∧ c = 0) (cf : Nat → C4) (af : Nat → Acc) (w : World) (hI : IsCells w A n cf) (hT : IsAccs w T M af) :
    Calls Try.prog 4 #[.slice A n c, .slice T M d] w (Ret (.bool true) w) := by
  have HI := Lib.hid hI
  have HT := Lib.hid hT
  have HA := Lib.hid hA
  clear hI hT hA
  have t1 : decide ((1024 : Int) < n) = false := by simp; omega
  have t2 : decide ((100 : Int) < M) = false := by simp; omega
  go_enter Try.func4, Try.ntmps4
  go_wp2_with (first
    | (at_builtin
       refine wpList_copied (w0 := w1) rfl (.tmp 40) (.tmp 41) _ rfl Try.underlying35 cell_info rfl (by decide) (by decide) rfl (World.ownsRow_lit w1 #[] 0 (Nat.le_refl _) (by unfold maxLen; omega) rfl) rfl HA.out (flat n fun i => l4 (cf i)) (l4_len n cf) (cells_list ((HI.out.same hb1.block).same (below_one _ _).block)) l4_one (by omega) (Nat.le_refl _) (below_one _ _) ?_
       intro v' W2 HO hbW2 Hg)
    | (go_at_call 10; refine (new_ok _ _ _ HA.out hn cf _ HI.out).mono ?_; rintro e w1 ⟨gm, gr, A1, c1, rfl, hgm, hgr, hA1, hMem, hb1⟩; have HMem := Lib.hid hMem; have HA1 := Lib.hid hA1; clear hMem hA1))
  obtain ⟨A2, c2, rfl, hnc, hcm, hA2, hgA⟩ := owns_form HO.out
  have HO2 := Lib.hid (Own.of (s := 4) (f := fun i => l4 (cf i)) (fun _ => rfl) HO.out).cells
  have HA2 := Lib.hid hA2
  have HNE : Hid (∀ b o, A2 = some ⟨b, o, none⟩ → 0 < n → b ≠ gr) := Lib.hid fun b o hb hn0 => by
    obtain ⟨g, e, hg, _⟩ := hgA hn0
    have e1 : b = g := congrArg Addr.block (Option.some.inj (hb.symm.trans e))
    obtain ⟨_, m, F, hr, _⟩ := HMem.out.2.2.2.2 hn0
    have := hr.lt
    omega
  have HM2 := Lib.hid (HMem.out.same hbW2.block)
  have HB2 := Lib.hid (below_then hb1 hbW2)
  have HTr := Lib.hid (HT.out.same (below_then hb1 hbW2).block)
  clear HO Hg hA2 HMem hbW2 hb1 hnc hcm hgA
  go_loopw [7, 8] (fun v i wr => ∃ k : Nat, k ≤ M ∧ i = .int .i64 k ∧ Hid (DoesAt w gm gr A1 n c1 cf af k v wr)) (fun _ i _ => M - (intOf i).toNat)
  case atStart => exact ⟨0, Nat.zero_le _, rfl, Lib.hid ⟨HM2.out, HB2.out, A2, c2, rfl, HA2.out, HNE.out, HO2.out⟩⟩
  case round =>
    obtain ⟨k, hk, rfl, HR⟩ := hrel
    by_cases hlt : k < M
    · obtain ⟨hMk, hBk, A3, c3, rfl, hA3, hne3, hC3⟩ := HR.out
      have HMk := Lib.hid hMk
      have HC3 := Lib.hid hC3
      have HA3 := Lib.hid hA3
      have HNE3 := Lib.hid hne3
      have HBk := Lib.hid hBk
      clear hMk hC3 hA3 hne3 HR
      obtain ⟨b, off, rfl, h10⟩ := HT.out k hlt
      have H10 := Lib.hid h10
      obtain ⟨a0, a1, a2, a3, a4, a5, a6, a7, a8, a9⟩ := at10_flat (h10.same (hBk.block _ h10.lt))
      have i1 : (0 : Int) ≤ (k : Int) := by omega
      have i2 : (k : Int) < (M : Int) := by omega
      clear h10 hBk
      obtain ⟨x, hx⟩ : ∃ x, sawC n cf af k = x := ⟨_, rfl⟩
      obtain ⟨dd, hdd⟩ : ∃ dd, sawD n cf af k = dd := ⟨_, rfl⟩
      obtain ⟨E, hE⟩ : ∃ E, errOf n (af k) = E := ⟨_, rfl⟩
      have HX := Lib.hid hx
      have HD := Lib.hid hdd
      have HE := Lib.hid hE
      clear hx hdd hE
      go_wp2_with fail
      refine (did_any gm gr A1 n c1 cf af k x dd E HX.out HD.out HE.out _ HMk.out).mono ?_
      rintro e w2 ⟨rfl, hM2, hO2⟩
      have HM2' := Lib.hid hM2
      have HB2' := Lib.hid (Only.then_below (n := w.heap.size) (Nat.le_refl _) HBk.out hO2 fun k hk => by rw [hk]; exact hgr)
      have HC4 := Lib.hid (cells_only HC3.out hO2 HNE3.out)
      clear hM2 hO2 a0 a1 a2 a3 a4 a5 a6 a7 a8 a9 HMk HC3 HBk
      obtain ⟨a0, a1, a2, a3, a4, a5, a6, a7, a8, a9⟩ := at10_flat ((H10.out.same (HB2'.out.block _ H10.out.lt)).same ((below_one w2 (.cells #[.int .u64 x.t, .int .u64 x.a, .int .u64 x.b, .int .u64 x.c, .bool dd] 27)).block _ (Nat.lt_of_lt_of_le H10.out.lt HB2'.out.size)))
      go_wp2_with fail
      refine (ref_any A3 n c3 HA3.out hn cf af k x dd E HX.out HD.out HE.out _ (HC4.out.same (below_one _ _).block)).mono ?_
      rintro e w4 ⟨A4, c4, rfl, hA4, hI4, hw4, hb4⟩
      have HI4 := Lib.hid hI4
      have HA4 := Lib.hid hA4
      have hsz : w2.heap.size < w4.heap.size := by have := hb4.size; simp at this; omega
      have hrS := ((row5 w2 x dd 27).of_block (hb4.block _ (row5 w2 x dd 27).lt))
      have h24 := below_then (below_one w2 _) hb4
      have HM4 := Lib.hid (HM2'.out.same h24.block)
      have HB4 := Lib.hid (HB2'.out.trans (h24.mono HB2'.out.size))
      have HNE4 : Hid (∀ b o, A4 = some ⟨b, o, none⟩ → 0 < n → b ≠ gr) := Lib.hid fun b o hb hn0 => by
        rcases hw4 with h | h
        · exact HNE3.out b o (h ▸ hb) hn0
        · have h1 := h b o hb hn0
          obtain ⟨_, m, F, hr, _⟩ := HM2'.out.2.2.2.2 hn0
          have := hr.lt
          simp at h1
          omega
      clear hI4 hA4 hw4 hb4 h24 a0 a1 a2 a3 a4 a5 a6 a7 a8 a9 HM2' HB2' HC4 HNE3 HA3
      generalize w2.heap.size = qs at *
      have hb45 := below_one w4 (.cells #[.int .u64 x.t, .int .u64 x.a, .int .u64 x.b, .int .u64 x.c, .bool dd] 27)
      have hrT := row5 w4 x dd 27
      have hrS5 := hrS.of_block (hb45.block _ hrS.lt)
      have s0 := hrS5.cell (i := 0) (by omega)
      have s1 := hrS5.cell (i := 1) (by omega)
      have s2 := hrS5.cell (i := 2) (by omega)
      have s3 := hrS5.cell (i := 3) (by omega)
      simp only [sF, Nat.reduceEqDiff, if_false, if_true] at s0 s1 s2 s3
      have HRS := Lib.hid hrS5
      have HRT := Lib.hid hrT
      have HB45 := Lib.hid hb45
      clear hrS hrS5 hrT hb45
      go_wp2_with fail
      refine (rSame_true x x rfl _).mono ?_
      rintro e w6 ⟨rfl, hb6⟩
      have s4 := (HRS.out.of_block (hb6.block _ HRS.out.lt)).cell (i := 4) (by omega)
      have u4 := (HRT.out.of_block (hb6.block _ HRT.out.lt)).cell (i := 4) (by omega)
      simp only [sF, Nat.reduceEqDiff, if_false, if_true] at s4 u4
      have HB46 := Lib.hid (below_then HB45.out hb6)
      clear hb6 s0 s1 s2 s3 HRS HRT HB45
      go_wp2_with fail
      refine (cells_any gm gr A1 n c1 HA1.out hn _ _ (HM4.out.same HB46.out.block)).mono ?_
      rintro e w7 ⟨A7, c7, rfl, _, hO7, hb7⟩
      have HO7 := Lib.hid hO7.cells
      have HB47 := Lib.hid (below_then HB46.out hb7)
      clear hO7 hb7 s4 u4
      go_wp2_with fail
      refine (same_cells_true A7 A4 n c7 c4 (by omega) _ _ HO7.out (HI4.out.same HB47.out.block)).mono ?_
      rintro e w8 ⟨rfl, hb8⟩
      have HB48 := Lib.hid (below_then HB47.out hb8)
      clear hb8
      go_wp2
      go_roundw
      case rel => exact ⟨k + 1, by omega, by go_num, Lib.hid ⟨HM4.out.same HB48.out.block, HB4.out.trans (HB48.out.mono HB4.out.size), A4, c4, rfl, HA4.out, HNE4.out, HI4.out.same HB48.out.block⟩⟩
      case measure => simp [intOf]; omega
    · obtain rfl : k = M := by omega
      obtain ⟨hMk, hBk, A3, c3, rfl, hA3, _, hC3⟩ := HR.out
      have HMk := Lib.hid hMk
      have HC3 := Lib.hid hC3
      clear hMk hC3 hA3
      go_wp2_with fail
      refine (cells_any gm gr A1 n c1 HA1.out hn _ _ HMk.out).mono ?_
      rintro e w5 ⟨A5, c5, rfl, _, hO5, hb5⟩
      have HO5 := Lib.hid hO5.cells
      clear hO5
      go_wp2_with fail
      refine (same_cells_true A5 A3 n c5 c3 (by omega) _ _ HO5.out (HC3.out.same hb5.block)).mono ?_
      rintro e w6 ⟨rfl, hb6⟩
      go_wp2
      go_ret
      exact Ret.mk rfl (hBk.trans ((below_then hb5 hb6).mono hBk.size))

set_option maxHeartbeats 1000000 in
theorem walk_long (A T : Option Addr) (n c M d : Nat) (hM : 100 < M) (w : World) : Calls Try.prog 4 #[.slice A n c, .slice T M d] w (Ret (.bool true) w) := by
  go_enter Try.func4, Try.ntmps4
  go_wp2
  go_ret
  exact Ret.mk rfl (Below.refl _ _)
set_option maxHeartbeats 1000000 in
theorem walk_wide (A T : Option Addr) (n c M d : Nat) (hM : M ≤ 100) (hn : 1024 < n) (w : World) : Calls Try.prog 4 #[.slice A n c, .slice T M d] w (Ret (.bool true) w) := by
  have t2 : decide ((100 : Int) < M) = false := by simp; omega
  go_enter Try.func4, Try.ntmps4
  go_wp2_with (go_at_call 10; refine (new_many _ _ _ hn _).mono ?_; rintro e w1 ⟨rfl, hb1⟩)
  go_ret
  exact Ret.mk rfl hb1

theorem walk (A T : Option Addr) (n c M d : Nat) (hd : M ≤ d ∧ d ≤ 9223372036854775807) (hA : A = none → n = 0 ∧ c = 0) (cf : Nat → C4) (af : Nat → Acc) (w : World) (hI : IsCells w A n cf) (hT : IsAccs w T M af) :
    Calls Try.prog 4 #[.slice A n c, .slice T M d] w (Ret (.bool true) w) := by
  by_cases h1 : 100 < M
  · exact walk_long A T n c M d h1 w
  · by_cases h2 : 1024 < n
    · exact walk_wide A T n c M d (by omega) h2 w
    · exact walk_few A T n c M d (by omega) (by omega) hd hA cf af w hI hT

set_option maxRecDepth 100000 in
theorem lifted (os : Os) (started : os.Started) (H : Type) (enc : TypeId × Value → H) :
    ReturnsInHanded {} Try.checked os 4 .any (Rows.cellDoesSpec.pre6 enc Try.prog Try.f4 Rows.cellDoesRow.domain false) (Rows.cellDoesSpec.post enc Try.prog Try.f4 false true false false) := by
  refine returnsInHanded_of_change (C := Try.checked) own started (by kernel_rfl) Try.func4
    (ChangeSpec.witness6 (enc := enc) (C := Try.checked) false ⟨#[], #[.slice none 0 0, .slice none 0 0], []⟩ 8 (by kernel_rfl) (by kernel_rfl) (by kernel_rfl) (by kernel_rfl)) ?_
  intro W base args ds gs before hval hW hcnd _
  refine law_of laidOut (by kernel_rfl) (by kernel_rfl) Try.underlying4 rfl ?_ hW fun p hA => ?_
  · intro ds hd
    match ds, hd with
    | [_, _], _ => rfl
  have hval' : ∀ (j : Nat) t v, Try.f4.params[j]? = some t → args[j]? = some v → Value.okWide Try.prog W .any base t v := hval
  rw [Try.params4] at hA hval'
  obtain ⟨v0, vs0, d0, ds0, p0, q0, hargs, rfl, rfl, h0, r0⟩ := trodAll_cons hA
  obtain ⟨v1, vs1, d1, ds1, p1, q1, rfl, rfl, rfl, h1, r1⟩ := trodAll_cons r0
  obtain ⟨rfl, rfl, rfl⟩ := trodAll_nil r1
  obtain rfl : args = #[v0, v1] := by cases args; simp_all
  obtain ⟨A, n, c, cf, rfl, hc, hA0, hI⟩ := open_cells (hval' 0 _ v0 rfl rfl) h0
  obtain ⟨T, M, d, af, rfl, hd, _, hT⟩ := open_accs (hval' 1 _ v1 rfl rfl) h1
  exact walk A T n c M d hd hA0 cf af W hI hT

theorem proved : Rows.CellDoesSaid :=
  OpenClaim.holds_of_wide 4 Try.f4 rfl rfl rfl rfl rfl rfl rfl ⟨rfl, rfl, rfl, rfl, rfl⟩ rfl rfl rfl rfl rfl (by kernel_rfl) Try.func4 (by kernel_rfl)
    (of_decide_eq_true (by kernel_rfl)) (by unfold Func.isWrapper; rw [if_neg (by decide +kernel)]; exact ⟨rfl, rfl⟩)
    (fun os started H enc _ => lifted os started H enc)
#print axioms proved

end Go.Proofs.Ytiaimenngmfnmaa.cellDoes
