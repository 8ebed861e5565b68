/- Join and Split of package pack answer what the document's own answers say, and leave their lists alone: every list (up to 100; beyond them the law answers true) and every word. No condition. -/
import Derived.Test.YtcjhenfeniofiaaLaw
import Derived.Test.YtcjhenfeniofiaaPkRefL
namespace Go.Proofs.Ytcjhenfeniofiaa.packJoins
open Go.ChangeShapes Go.WideShapes Go.ChangeAt Go.RowKit

theorem int_info : (Try.prog.info? 3).map (fun i => (i.zero, i.size, i.bytes)) = some (some (.int .i64 0), 1, 8) := by kernel_rfl
theorem field_info : (Try.prog.info? 29).map (fun i => (i.zero, i.size, i.bytes)) = some (some (.agg #[.int .i64 0, .int .u64 0]), 2, 16) := by kernel_rfl

set_option maxHeartbeats 1000000 in
theorem walk_many (x : Int) (A B : Option Addr) (N c M d : Nat) (hN : 100 < N ∨ 100 < M) (w : World) :
    Calls Try.prog 5 #[.slice A N c, .int .u64 x, .slice B M d] w (Ret (.bool true) w) := by
  by_cases h : 100 < N
  · clear hN
    go_enter Try.func5, Try.ntmps5
    go_wp2
    go_ret
    exact Ret.mk rfl (Below.refl _ _)
  · have h2 : 100 < M := by omega
    have t1 : decide ((100 : Int) < N) = false := by simp; omega
    clear hN h
    go_enter Try.func5, Try.ntmps5
    go_wp2
    go_ret
    exact Ret.mk rfl (Below.refl _ _)

theorem fields_of {w : World} {A : Option Addr} {N : Nat} {bf : Nat → Int} {vf : Nat → Nat} (hF : IsFields w A N bf vf) (ad : Addr) (hA : A = some ad) (j : Nat) (u : Value)
    (hj : (pairs N (fun i => .int .i64 (bf i)) (fun i => .int .u64 (vf i : Nat)))[j]? = some u) : w.cell? (ad.add j) = some u := by
  obtain ⟨i, hi, h⟩ := pairs_get hj
  obtain ⟨b, off, e, h1, h2⟩ := hF i hi
  obtain rfl : ad = ⟨b, off, none⟩ := Option.some.inj (hA.symm.trans e)
  rw [add_eq]
  rcases h with ⟨rfl, rfl⟩ | ⟨rfl, rfl⟩
  · exact h1
  · exact h2
theorem ints_of {w : World} {A : Option Addr} {N : Nat} {bf : Nat → Int} (hF : IsInts w A N bf) (ad : Addr) (hA : A = some ad) (j : Nat) (u : Value)
    (hj : ((List.range N).map fun i => Value.int .i64 (bf i))[j]? = some u) : w.cell? (ad.add j) = some u := by
  have hl : j < N := by have := (List.getElem?_eq_some_iff.1 hj).1; simpa using this
  obtain ⟨b, off, e, h1⟩ := hF j hl
  obtain rfl : ad = ⟨b, off, none⟩ := Option.some.inj (hA.symm.trans e)
  rw [add_eq, h1]
  simpa [hl] using hj
theorem own_fields {w : World} {B : Nat} {A : Option Addr} {N c : Nat} {bf : Nat → Int} {vf : Nat → Nat} (h : w.ownsRow B 29 2 (.slice A N c) N (pairs N (fun i => .int .i64 (bf i)) (fun i => .int .u64 (vf i : Nat)))) :
    (N ≤ c ∧ c ≤ 9223372036854775807) ∧ IsFields w A N bf vf := by
  obtain ⟨A', c', hv, h1, h2, _, h3⟩ := owns_form h
  injection hv with e1 _ e3
  subst e1 e3
  refine ⟨⟨h1, h2⟩, fun i hi => ?_⟩
  obtain ⟨g, rfl, _, hc⟩ := h3 (by omega)
  have := pairs_at (fun i => Value.int .i64 (bf i)) (fun i => Value.int .u64 (vf i : Nat)) hi
  exact ⟨g, 0, rfl, by rw [Nat.zero_add, hc _ (by omega)]; exact this.1, by rw [Nat.zero_add, hc _ (by omega)]; exact this.2⟩
theorem own_ints {w : World} {B : Nat} {A : Option Addr} {N c : Nat} {bf : Nat → Int} (h : w.ownsRow B 3 1 (.slice A N c) N ((List.range N).map fun i => Value.int .i64 (bf i))) :
    (N ≤ c ∧ c ≤ 9223372036854775807) ∧ IsInts w A N bf := by
  obtain ⟨A', c', hv, h1, h2, _, h3⟩ := owns_form h
  injection hv with e1 _ e3
  subst e1 e3
  refine ⟨⟨h1, h2⟩, fun i hi => ?_⟩
  obtain ⟨g, rfl, _, hc⟩ := h3 (by omega)
  exact ⟨g, 0, rfl, by rw [Nat.zero_add, hc _ (by omega)]; simp [hi]⟩

/-- How many numbers Split answers, and its error. -/
def splitN (bf : Nat → Int) (N : Nat) : Nat := if Pk.standB bf N = true then N else 0
def splitE (bf : Nat → Int) (N : Nat) : Int := if Pk.standB bf N = true then 0 else 2
theorem splitN_le (bf : Nat → Int) (N : Nat) : splitN bf N ≤ N := by unfold splitN; split <;> omega

def SplitSays (x : Nat) (bf : Nat → Int) (N : Nat) (w : World) (e : Ending) (w' : World) : Prop :=
  ∃ X c, e = .returned (.tuple #[.slice X (splitN bf N) c, .int .i64 (splitE bf N)]) ∧ IsWords w' X (splitN bf N) (fun j => Pk.field x (Pk.pos bf j).toNat (bf j).toNat) ∧ Below w.heap.size w w'

theorem split_says (x : Nat) (hx : x < 18446744073709551616) (A : Option Addr) (N c : Nat) (hc : N ≤ c ∧ c ≤ 9223372036854775807) (bf : Nat → Int) (w : World) (hF : IsInts w A N bf) :
    Calls Try.prog 11 #[.int .u64 x, .slice A N c] w (SplitSays x bf N w) := by
  cases hs : Pk.standB bf N with
  | false =>
    refine (split_bad x A N c hc bf w hF hs).mono ?_
    rintro e w' ⟨rfl, hb⟩
    have e1 : splitN bf N = 0 := by unfold splitN; rw [if_neg (by rw [hs]; simp)]
    have e2 : splitE bf N = 2 := by unfold splitE; rw [if_neg (by rw [hs]; simp)]
    exact ⟨none, 0, by rw [e1, e2], by rw [e1]; intro i hi; omega, hb⟩
  | true =>
    refine (split_ok x hx A N c bf w hF hs).mono ?_
    rintro e w' ⟨g, rfl, _, hrow, hb⟩
    have e1 : splitN bf N = N := by unfold splitN; rw [if_pos hs]
    have e2 : splitE bf N = 0 := by unfold splitE; rw [if_pos hs]
    exact ⟨_, N, by rw [e1, e2], by rw [e1]; exact IsWords.of_row hrow, hb⟩

theorem rSplit_says (x : Nat) (hx : x < 18446744073709551616) (A : Option Addr) (N c : Nat) (hN : N ≤ 100000000) (bf : Nat → Int) (w : World) (hF : IsInts w A N bf) :
    Calls Try.prog 16 #[.int .u64 x, .slice A N c] w (SplitSays x bf N w) := by
  refine (rSplit_any x hx A N c hN bf w hF).mono ?_
  rintro e w' (⟨hs, rfl, hb⟩ | ⟨hs, v, rfl, hm, hb⟩)
  · have e1 : splitN bf N = 0 := by unfold splitN; rw [if_neg (by rw [hs]; simp)]
    have e2 : splitE bf N = 2 := by unfold splitE; rw [if_neg (by rw [hs]; simp)]
    exact ⟨none, 0, by rw [e1, e2], by rw [e1]; intro i hi; omega, hb⟩
  · have e1 : splitN bf N = N := by unfold splitN; rw [if_pos hs]
    have e2 : splitE bf N = 0 := by unfold splitE; rw [if_pos hs]
    obtain ⟨X, c', rfl, _, _, hcell⟩ := hm.form
    refine ⟨X, c', by rw [e1, e2], ?_, hb⟩
    rw [e1]
    intro i hi
    obtain ⟨g, rfl, _, h⟩ := hcell i hi
    exact ⟨g, 0, rfl, by rw [Nat.zero_add]; exact h⟩

theorem owns_apart {w : World} {B B' : Nat} {e e' : TypeId} {s s' : Nat} {v v' : Value} {n n' : Nat} {xs xs' : List Value} (h : w.ownsRow B e s v n xs) (h' : w.ownsRow B' e' s' v' n' xs') (hne : e ≠ e') : v.ownBlock = none ∨ v.ownBlock ≠ v'.ownBlock := by
  rcases h.2 with ⟨rfl, _⟩ | ⟨g, cap, cur, rfl, _, hg, _⟩
  · exact .inl rfl
  · refine .inr fun hh => ?_
    rcases h'.2 with ⟨rfl, _⟩ | ⟨g', cap', cur', rfl, _, hg', _⟩
    · simp [Value.ownBlock] at hh
    · have : g = g' := by simpa [Value.ownBlock] using hh
      subst this
      rw [hg] at hg'
      injection hg' with hg'
      injection hg' with _ ht
      exact hne ht

set_option maxHeartbeats 4000000 in
theorem walk_few (x : Nat) (hx : x < 18446744073709551616) (A : Option Addr) (N c : Nat) (hN : N ≤ 100) (hc : N ≤ c ∧ c ≤ 9223372036854775807) (hA : A = none → N = 0 ∧ c = 0) (bf : Nat → Int) (vf : Nat → Nat)
    (B : Option Addr) (M d : Nat) (hM : M ≤ 100) (hd : M ≤ d ∧ d ≤ 9223372036854775807) (hB : B = none → M = 0 ∧ d = 0) (bb : Nat → Int) (w : World) (hF : IsFields w A N bf vf) (hv : ∀ i, i < N → vf i < 18446744073709551616) (hI : IsInts w B M bb) :
    Calls Try.prog 5 #[.slice A N c, .int .u64 x, .slice B M d] w (Ret (.bool true) w) := by
  have HF := Lib.hid hF
  have HV := Lib.hid hv
  have HI := Lib.hid hI
  have HX := Lib.hid hx
  have HA := Lib.hid hA
  have HB := Lib.hid hB
  have t1 : decide ((100 : Int) < N) = false := by simp; omega
  have t2 : decide ((100 : Int) < M) = false := by simp; omega
  have hBz : w.heap.size ≤ w.heap.size := Nat.le_refl _
  clear hF hv hI hx hA hB
  go_enter Try.func5, Try.ntmps5
  go_wp2_with (first
    | (at_builtin
       refine wpList_copied rfl (.tmp 27) (.tmp 28) _ rfl Try.underlying30 field_info rfl (by decide) (by decide) rfl (World.ownsRow_lit w #[] 0 (Nat.le_refl _) (by unfold maxLen; omega) rfl) rfl HA.out
         (pairs N (fun i => .int .i64 (bf i)) (fun i => .int .u64 (vf i : Nat))) (pairs_length _ _ _) (fields_of (HF.out.same (below_one _ _).block)) (by intro u hu; obtain ⟨j, hj⟩ := List.getElem?_of_mem hu; obtain ⟨i, _, h⟩ := pairs_get hj; rcases h with ⟨_, rfl⟩ | ⟨_, rfl⟩ <;> rfl)
         (by omega) hBz (below_one _ _) ?_
       intro v1 W1 H1 hb1 Hk1
       obtain ⟨A1, c1, rfl, _⟩ := owns_form H1.out)
    | (at_builtin
       refine wpList_copied rfl (.tmp 30) (.tmp 31) _ rfl Try.underlying34 int_info rfl (by decide) (by decide) rfl (World.ownsRow_lit W1 #[] 0 hb1.size (by unfold maxLen; omega) rfl) rfl HB.out
         ((List.range M).map fun i => Value.int .i64 (bb i)) (by simp) (ints_of (HI.out.same (hb1.alloc hb1.size _).block)) (by intro u hu; obtain ⟨i, _, rfl⟩ := List.mem_map.1 hu; rfl)
         (by omega) hBz (hb1.alloc hb1.size _) ?_
       intro v2 W2 H2 hb2 Hk2
       obtain ⟨A2, c2, rfl, _⟩ := owns_form H2.out
       have G1 := Lib.hid (own_fields ((H1.out.alloc (Obj.cells #[] 3)).kept Hk2.out (owns_apart (H1.out.alloc _) (World.ownsRow_lit (base := w.heap.size) (e := 3) (size := 1) W1 #[] 0 hb1.size (by unfold maxLen; omega) rfl) (by decide))))
       have G2 := Lib.hid (own_ints H2.out))
    | (go_at_call 10; refine (join_any A1 N c1 G1.out.1 bf vf _ G1.out.2).mono ?_; rintro e w3 ⟨rfl, hb3⟩
       have hw3 : Below w.heap.size w w3 := hb2.trans (hb3.mono hb2.size))
    | (go_at_call 15; refine (rJoin_any A N c hc bf vf _ (HF.out.same hw3.block) HV.out).mono ?_; rintro e w4 ⟨rfl, hb4⟩
       have hw4 : Below w.heap.size w w4 := hw3.trans (hb4.mono hw3.size)
       have h24 : Below W2.heap.size W2 w4 := below_then hb3 hb4)
    | (go_at_call 11; refine (split_says x HX.out A2 M c2 G2.out.1 bb _ (G2.out.2.same h24.block)).mono ?_; rintro e w5 ⟨X1, d1, rfl, hX1, hb5⟩
       have hw5 : Below w.heap.size w w5 := hw4.trans (hb5.mono hw4.size)
       have HX1 := Lib.hid hX1
       clear hX1)
    | (go_at_call 16; refine (rSplit_says x HX.out B M d (by omega) bb _ (HI.out.same hw5.block)).mono ?_; rintro e w6 ⟨X2, d2, rfl, hX2, hb6⟩
       have hw6 : Below w.heap.size w w6 := hw5.trans (hb6.mono hw5.size)
       have HX2 := Lib.hid hX2
       have h26 := Lib.hid (below_then (below_then h24 hb5) hb6)
       clear hX2))
  have E1 := Lib.hid (G1.out.2.same h26.out.block)
  have E2 := Lib.hid (HF.out.same hw6.block)
  have E3 := Lib.hid (G2.out.2.same h26.out.block)
  have E4 := Lib.hid (HI.out.same hw6.block)
  have E5 := Lib.hid (HX1.out.same hb6.block)
  have hK := splitN_le bb M
  generalize splitN bb M = K at *
  generalize splitE bb M = ee at *
  generalize Pk.joinW bf vf N = jw at *
  generalize Pk.joinE bf vf N = je at *
  clear G1 G2 HF HI HX1 h26 h24 hb1 hb2 hb3 hb4 hb5 hb6 hw3 hw4 hw5 H1 H2 Hk1 Hk2 HA HB HV
  go_loopw [17] (fun i wr => ∃ k : Nat, k ≤ N ∧ i = .int .i64 k ∧ Below w6.heap.size w6 wr) (fun i _ => N - (intOf i).toNat)
  case atStart => exact ⟨0, Nat.zero_le _, rfl, Below.refl _ _⟩
  case round =>
    obtain ⟨k, hk, rfl, hbr⟩ := hrel
    by_cases hlt : k < N
    · obtain ⟨b, off, rfl, f1, f2⟩ := E1.out k hlt
      obtain ⟨b', off', rfl, f3, f4⟩ := E2.out k hlt
      have g1 := (hbr.cell (World.block_lt_of_cell? _ _ f1)).trans f1
      have g2 := (hbr.cell (World.block_lt_of_cell? _ _ f2)).trans f2
      have g3 := (hbr.cell (World.block_lt_of_cell? _ _ f3)).trans f3
      have g4 := (hbr.cell (World.block_lt_of_cell? _ _ f4)).trans f4
      have i1 : (0 : Int) ≤ (k : Int) := by omega
      have i2 : (k : Int) < (N : Int) := by omega
      clear f1 f2 f3 f4
      go_wp2
      go_quiet (fail)
      go_wp2
      go_roundw
      case rel => exact ⟨k + 1, by omega, by go_num, hbr.trans ⟨rfl, rfl, rfl, Nat.le_refl _, fun _ _ => rfl⟩⟩
      case measure => simp [intOf]; omega
    · obtain rfl : k = N := by omega
      go_wp2
      go_loopw [18] (fun i wr => ∃ j : Nat, j ≤ M ∧ i = .int .i64 j ∧ Below w6.heap.size w6 wr) (fun i _ => M - (intOf i).toNat)
      case atStart => exact ⟨0, Nat.zero_le _, rfl, hbr⟩
      case round =>
        clear hbr
        obtain ⟨j, hj, rfl, hbr⟩ := hrel
        by_cases hlt : j < M
        · obtain ⟨b, off, rfl, f1⟩ := E3.out j hlt
          obtain ⟨b', off', rfl, f3⟩ := E4.out j hlt
          have g1 := (hbr.cell (World.block_lt_of_cell? _ _ f1)).trans f1
          have g3 := (hbr.cell (World.block_lt_of_cell? _ _ f3)).trans f3
          have i1 : (0 : Int) ≤ (j : Int) := by omega
          have i2 : (j : Int) < (M : Int) := by omega
          clear f1 f3
          go_wp2
          go_quiet (fail)
          go_wp2
          go_roundw
          case rel => exact ⟨j + 1, by omega, by go_num, hbr.trans ⟨rfl, rfl, rfl, Nat.le_refl _, fun _ _ => rfl⟩⟩
          case measure => simp [intOf]; omega
        · obtain rfl : j = M := by omega
          go_wp2_with (go_at_call 17; refine (same_true X1 X2 K d1 d2 (by omega) _ _ (E5.out.same hbr.block) (HX2.out.same hbr.block)).mono ?_; rintro e w7 ⟨rfl, hb7⟩)
          go_ret
          exact Ret.mk rfl (hw6.trans ((below_then hbr hb7).mono hw6.size))

theorem walk (x : Int) (hx : (Lit.int .u64 x).wf = true) (A : Option Addr) (N c : Nat) (hc : N ≤ c ∧ c ≤ 9223372036854775807) (hA : A = none → N = 0 ∧ c = 0) (bf : Nat → Int) (vf : Nat → Nat)
    (B : Option Addr) (M d : Nat) (hd : M ≤ d ∧ d ≤ 9223372036854775807) (hB : B = none → M = 0 ∧ d = 0) (bb : Nat → Int) (w : World) (hF : IsFields w A N bf vf) (hv : ∀ i, i < N → vf i < 18446744073709551616) (hI : IsInts w B M bb) :
    Calls Try.prog 5 #[.slice A N c, .int .u64 x, .slice B M d] w (Ret (.bool true) w) := by
  obtain ⟨X, rfl, hX⟩ := u64_nat hx
  by_cases h : 100 < N ∨ 100 < M
  · exact walk_many _ A B N c M d h w
  · exact walk_few X hX A N c (by omega) hc hA bf vf B M d (by omega) hd hB bb w hF hv hI

set_option maxRecDepth 100000 in
theorem lifted (os : Os) (started : os.Started) (H : Type) (enc : TypeId × Value → H) :
    ReturnsInHanded {} Try.checked os 5 .any (Rows.packJoinsSpec.pre6 enc Try.prog Try.f5 Rows.packJoinsRow.domain false) (Rows.packJoinsSpec.post enc Try.prog Try.f5 false true false false) := by
  refine returnsInHanded_of_change (C := Try.checked) own started (by kernel_rfl) Try.func5
    (ChangeSpec.witness6 (enc := enc) (C := Try.checked) false ⟨#[], #[.slice none 0 0, .int .u64 0, .slice none 0 0], []⟩ 8 (by kernel_rfl) (by kernel_rfl) (by kernel_rfl) (by kernel_rfl)) ?_
  intro W base args ds gs before hval hW hcnd _
  refine law_of laidOut (by kernel_rfl) (by kernel_rfl) Try.underlying4 rfl ?_ hW fun p hA => ?_
  · intro ds hd
    match ds, hd with
    | [_, _, _], _ => rfl
  have hval' : ∀ (j : Nat) t v, Try.f5.params[j]? = some t → args[j]? = some v → Value.okWide Try.prog W .any base t v := hval
  rw [Try.params5] at hA hval'
  obtain ⟨v0, vs0, d0, ds0, p0, q0, hargs, rfl, rfl, h0, r0⟩ := trodAll_cons hA
  obtain ⟨v1, vs1, d1, ds1, p1, q1, rfl, rfl, rfl, h1, r1⟩ := trodAll_cons r0
  obtain ⟨v2, vs2, d2, ds2, p2, q2, rfl, rfl, rfl, h2, r2⟩ := trodAll_cons r1
  obtain ⟨rfl, rfl, rfl⟩ := trodAll_nil r2
  obtain rfl : args = #[v0, v1, v2] := by cases args; simp_all
  obtain ⟨A, N, c, bf, vf, rfl, hc, hA', hF, hv⟩ := open_fields (hval' 0 _ v0 rfl rfl) h0
  obtain ⟨a1, rfl, _, _, w1⟩ := open_int Try.underlying22 (hval' 1 _ v1 rfl rfl) h1
  obtain ⟨B, M, d, bb, rfl, hd, hB', hI, _⟩ := open_numbers (hval' 2 _ v2 rfl rfl) h2
  exact walk a1 w1 A N c hc hA' bf vf B M d hd hB' bb W hF (fun i hi => (hv i hi).1) hI

theorem proved : Rows.PackJoinsSaid :=
  OpenClaim.holds_of_wide 5 Try.f5 rfl rfl rfl rfl rfl rfl rfl ⟨rfl, rfl, rfl, rfl, rfl⟩ rfl rfl rfl rfl rfl (by kernel_rfl) Try.func5 (by kernel_rfl)
    (of_decide_eq_true (by kernel_rfl)) (by unfold Func.isWrapper; rw [if_neg (by decide +kernel)]; exact ⟨rfl, rfl⟩)
    (fun os started H enc _ => lifted os started H enc)
#print axioms proved
end Go.Proofs.Ytcjhenfeniofiaa.packJoins
