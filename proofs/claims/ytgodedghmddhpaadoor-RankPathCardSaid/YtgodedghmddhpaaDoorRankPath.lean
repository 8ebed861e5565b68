/- For every prefix and levels: what is above a node's is what is above both together. Condition: the table of powers holds at the call's start what the program's text lays there (the tied card). -/
import Derived.Test.YtgodedghmddhpaaDoorRrLaid
namespace Go.Proofs.YtgodedghmddhpaaDoor.rankPath
open Go.ChangeShapes Go.WideShapes Go.ChangeAt Go.RowKit

theorem node_log : ∀ (l : Fin 7) (p : Fin 64), p.val < 2 ^ l.val → (2 ^ l.val + p.val).log2 = l.val ∧ 1 ≤ 2 ^ l.val + p.val ∧ 2 ^ l.val + p.val ≤ 127 := by decide +kernel
theorem over_node {l p j : Nat} (hj : j ≤ l) : (2 ^ l + p) / 2 ^ j = 2 ^ (l - j) + p / 2 ^ j := by
  have e : 2 ^ l = 2 ^ (l - j) * 2 ^ j := by rw [← Nat.pow_add, Nat.sub_add_cancel hj]
  rw [e, Nat.add_comm, Nat.add_mul_div_right _ _ (Nat.two_pow_pos j), Nat.add_comm]
theorem part_lt {l p j : Nat} (hp : p < 2 ^ l) (hj : j ≤ l) : p / 2 ^ j < 2 ^ (l - j) := by
  have e : 2 ^ l = 2 ^ (l - j) * 2 ^ j := by rw [← Nat.pow_add, Nat.sub_add_cancel hj]
  rw [Nat.div_lt_iff_lt_mul (Nat.two_pow_pos j), ← e]
  exact hp

theorem okP_nat {l p : Int} (h : Rk.okP l p = true) : ∃ L P : Nat, l = L ∧ p = P ∧ L ≤ 6 ∧ P < 2 ^ L := by
  have := (of_decide_eq_true h : _ ∧ _ ∧ _ ∧ _)
  exact ⟨l.toNat, p.toNat, by omega, by omega, by omega, by omega⟩
theorem lt64 {L P : Nat} (h6 : L ≤ 6) (h : P < 2 ^ L) : P < 64 := Nat.lt_of_lt_of_le h (Rk.pow_le L h6)
theorem node_nat (L P : Nat) : Rk.node L P = ((2 ^ L + P : Nat) : Int) := by simp [Rk.node]
theorem isN_node {L P : Nat} (h6 : L ≤ 6) (h : P < 2 ^ L) : Rk.isN (Rk.node L P) = true := by
  have := node_log ⟨L, by omega⟩ ⟨P, lt64 h6 h⟩ h
  rw [node_nat]
  simp only at this
  exact decide_eq_true (by omega)
theorem dep_node {L P : Nat} (h6 : L ≤ 6) (h : P < 2 ^ L) : Rk.dep (Rk.node L P) = (L : Int) := by
  have := node_log ⟨L, by omega⟩ ⟨P, lt64 h6 h⟩ h
  rw [node_nat]
  simp only at this
  unfold Rk.dep
  rw [Int.toNat_natCast, this.1]
theorem over_nat {L P J : Nat} (hj : J ≤ L) : Rk.over (Rk.node L P) J = Rk.node ((L - J : Nat) : Int) ((P / 2 ^ J : Nat) : Int) := by
  rw [node_nat, node_nat]
  unfold Rk.over
  rw [Int.toNat_natCast, Int.toNat_natCast, over_node hj]
theorem okP_mk {L P : Nat} (h6 : L ≤ 6) (h : P < 2 ^ L) : Rk.okP L P = true := Rk.okP_t (by omega) (by omega) (by omega) (by rw [Int.toNat_natCast]; omega)

set_option maxHeartbeats 2000000 in
theorem walk_none (l p j k : Int) (g : Rk.okP l p = false) (w : World) (hp : Pow w) :
    Calls Tryd.prog 5 #[.int .i64 l, .int .i64 p, .int .i64 j, .int .i64 k] w (Ret (.bool true) w) := by
  have HP := Lib.hid hp
  clear hp
  go_enter Tryd.func5, Tryd.ntmps5
  go_wp2_with fail
  refine (alive_any _ HP.out).mono ?_
  rintro e w1 ⟨rfl, b1⟩
  go_wp2_with fail
  refine (ex2 (x := 0) (z := 2) (node_any l p _) (by rw [g]; rfl) (by rw [g]; rfl)).mono ?_
  rintro e w2 ⟨rfl, hb2⟩
  go_wp2_with fail
  refine (over_any _ j _).mono ?_
  rintro e w3 ⟨rfl, hb3⟩
  go_wp2
  go_ret
  exact Ret.mk rfl (below_then (below_then b1 hb2) hb3)

set_option maxHeartbeats 2000000 in
theorem walk_above (l p : Nat) (j k : Int) (h6 : l ≤ 6) (hpl : p < 2 ^ l) (hj : ¬ (0 ≤ j ∧ j ≤ l)) (w : World) (hp : Pow w) :
    Calls Tryd.prog 5 #[.int .i64 l, .int .i64 p, .int .i64 j, .int .i64 k] w (Ret (.bool true) w) := by
  have HP := Lib.hid hp
  have g := okP_mk h6 hpl
  have go : Rk.okO (Rk.node l p) j = false := Rk.okO_f (by rw [dep_node h6 hpl]; exact hj)
  clear hp
  go_enter Tryd.func5, Tryd.ntmps5
  go_wp2_with fail
  refine (alive_any _ HP.out).mono ?_
  rintro e w1 ⟨rfl, b1⟩
  go_wp2_with fail
  refine (ex2 (x := Rk.node l p) (z := 0) (node_any l p _) (by rw [g]; rfl) (by rw [g]; rfl)).mono ?_
  rintro e w2 ⟨rfl, hb2⟩
  go_wp2_with fail
  refine (ex2 (x := 0) (z := 2) (over_any _ j _) (by rw [go]; rfl) (by rw [go]; rfl)).mono ?_
  rintro e w3 ⟨rfl, hb3⟩
  have b3 := below_then (below_then b1 hb2) hb3
  by_cases hj1 : j < 0
  · clear hj
    go_wp2
    go_ret
    exact Ret.mk rfl b3
  · have hj2 : (l : Int) < j := by omega
    clear hj
    go_wp2
    go_ret
    exact Ret.mk rfl b3

set_option maxHeartbeats 2000000 in
theorem walk_good (zl zp zj k n x y D Q : Int) (j0 : 0 ≤ zj) (jl : zj ≤ zl) (l6 : zl ≤ 6) (eD : zl - zj = D) (eQ : zp / 2 ^ zj.toNat = Q) (p0 : 0 ≤ zp) (p1 : zp ≤ 63) (k0 : 0 ≤ k) (kD : k ≤ D)
    (C1 : Hid (∀ W, Calls Tryd.prog 10 #[.int .i64 zl, .int .i64 zp] W (Ret2 (.int .i64 n) (.int .i64 0) W)))
    (C2 : Hid (∀ W, Calls Tryd.prog 12 #[.int .i64 n, .int .i64 zj] W (Ret2 (.int .i64 x) (.int .i64 0) W)))
    (C3 : Hid (∀ W, Calls Tryd.prog 11 #[.int .i64 x] W (Ret2 (.int .i64 D) (.int .i64 0) W)))
    (C4 : Hid (∀ W, Calls Tryd.prog 10 #[.int .i64 D, .int .i64 Q] W (Ret2 (.int .i64 x) (.int .i64 0) W)))
    (C5 : Hid (∀ W, Calls Tryd.prog 12 #[.int .i64 x, .int .i64 k] W (Ret2 (.int .i64 y) (.int .i64 0) W)))
    (C6 : Hid (∀ W, Calls Tryd.prog 12 #[.int .i64 n, .int .i64 (zj + k)] W (Ret2 (.int .i64 y) (.int .i64 0) W)))
    (w : World) (hp : Pow w) :
    Calls Tryd.prog 5 #[.int .i64 zl, .int .i64 zp, .int .i64 zj, .int .i64 k] w (Ret (.bool true) w) := by
  have HP := Lib.hid hp
  clear hp
  go_enter Tryd.func5, Tryd.ntmps5
  go_wp2_with fail
  refine (alive_any _ HP.out).mono ?_
  rintro e w1 ⟨rfl, b1⟩
  go_wp2_with fail
  refine (C1.out _).mono ?_
  rintro e w2 ⟨rfl, hb2⟩
  go_wp2_with fail
  refine (C2.out _).mono ?_
  rintro e w3 ⟨rfl, hb3⟩
  go_wp2_with fail
  refine (C3.out _).mono ?_
  rintro e w4 ⟨rfl, hb4⟩
  go_wp2_with fail
  refine (C4.out _).mono ?_
  rintro e w5 ⟨rfl, hb5⟩
  go_wp2_with fail
  refine (C5.out _).mono ?_
  rintro e w6 ⟨rfl, hb6⟩
  go_wp2_with fail
  refine (C6.out _).mono ?_
  rintro e w7 ⟨rfl, hb7⟩
  go_wp2
  go_ret
  exact Ret.mk rfl (below_then (below_then (below_then (below_then (below_then (below_then b1 hb2) hb3) hb4) hb5) hb6) hb7)

set_option maxHeartbeats 2000000 in
theorem walk_high (zl zp zj k n x D Q : Int) (j0 : 0 ≤ zj) (jl : zj ≤ zl) (l6 : zl ≤ 6) (eD : zl - zj = D) (eQ : zp / 2 ^ zj.toNat = Q) (p0 : 0 ≤ zp) (p1 : zp ≤ 63) (hk : ¬ (0 ≤ k ∧ k ≤ D))
    (C1 : Hid (∀ W, Calls Tryd.prog 10 #[.int .i64 zl, .int .i64 zp] W (Ret2 (.int .i64 n) (.int .i64 0) W)))
    (C2 : Hid (∀ W, Calls Tryd.prog 12 #[.int .i64 n, .int .i64 zj] W (Ret2 (.int .i64 x) (.int .i64 0) W)))
    (C3 : Hid (∀ W, Calls Tryd.prog 11 #[.int .i64 x] W (Ret2 (.int .i64 D) (.int .i64 0) W)))
    (C4 : Hid (∀ W, Calls Tryd.prog 10 #[.int .i64 D, .int .i64 Q] W (Ret2 (.int .i64 x) (.int .i64 0) W)))
    (C5 : Hid (∀ W, Calls Tryd.prog 12 #[.int .i64 x, .int .i64 k] W (Ret2 (.int .i64 0) (.int .i64 2) W)))
    (w : World) (hp : Pow w) :
    Calls Tryd.prog 5 #[.int .i64 zl, .int .i64 zp, .int .i64 zj, .int .i64 k] w (Ret (.bool true) w) := by
  have HP := Lib.hid hp
  have HK := Lib.hid hk
  clear hp hk
  go_enter Tryd.func5, Tryd.ntmps5
  go_wp2_with fail
  refine (alive_any _ HP.out).mono ?_
  rintro e w1 ⟨rfl, b1⟩
  go_wp2_with fail
  refine (C1.out _).mono ?_
  rintro e w2 ⟨rfl, hb2⟩
  go_wp2_with fail
  refine (C2.out _).mono ?_
  rintro e w3 ⟨rfl, hb3⟩
  go_wp2_with fail
  refine (C3.out _).mono ?_
  rintro e w4 ⟨rfl, hb4⟩
  go_wp2_with fail
  refine (C4.out _).mono ?_
  rintro e w5 ⟨rfl, hb5⟩
  go_wp2_with fail
  refine (C5.out _).mono ?_
  rintro e w6 ⟨rfl, hb6⟩
  have b6 := below_then (below_then (below_then (below_then (below_then b1 hb2) hb3) hb4) hb5) hb6
  by_cases hk : k < 0
  · go_wp2
    go_ret
    exact Ret.mk rfl b6
  · have hk2 : D < k := by have := HK.out; omega
    go_wp2
    go_ret
    exact Ret.mk rfl b6

theorem walk (l p j k : Int) (w : World) (hp : Pow w) :
    Calls Tryd.prog 5 #[.int .i64 l, .int .i64 p, .int .i64 j, .int .i64 k] w (Ret (.bool true) w) := by
  cases g : Rk.okP l p with
  | false => exact walk_none l p j k g w hp
  | true =>
    obtain ⟨L, P, rfl, rfl, h6, hP⟩ := okP_nat g
    by_cases hj : 0 ≤ j ∧ j ≤ L
    · obtain ⟨J, rfl⟩ : ∃ J : Nat, j = J := ⟨j.toNat, by omega⟩
      have hJ : J ≤ L := by omega
      have hQ := part_lt hP hJ
      have gO : Rk.okO (Rk.node L P) J = true := Rk.okO_t (isN_node h6 hP) (by omega) (by rw [dep_node h6 hP]; omega)
      have gX : Rk.isN (Rk.over (Rk.node L P) J) = true := by rw [over_nat hJ]; exact isN_node (by omega) hQ
      have dX : Rk.dep (Rk.over (Rk.node L P) J) = ((L - J : Nat) : Int) := by rw [over_nat hJ]; exact dep_node (by omega) hQ
      have C1 := Lib.hid (fun W => ex2 (x := Rk.node L P) (z := 0) (node_any (L : Int) P W) (by rw [g]; rfl) (by rw [g]; rfl))
      have C2 := Lib.hid (fun W => ex2 (x := Rk.over (Rk.node L P) J) (z := 0) (over_any (Rk.node L P) J W) (by rw [gO]; rfl) (by rw [gO]; rfl))
      have C3 := Lib.hid (fun W => ex2 (x := ((L - J : Nat) : Int)) (z := 0) (depth_any (Rk.over (Rk.node L P) J) W) (by rw [gX, dX]; rfl) (by rw [gX]; rfl))
      have C4 := Lib.hid (fun W => ex2 (x := Rk.over (Rk.node L P) J) (z := 0) (node_any ((L - J : Nat) : Int) ((P / 2 ^ J : Nat) : Int) W) (by rw [okP_mk (by omega) hQ, over_nat hJ]; rfl) (by rw [okP_mk (by omega) hQ]; rfl))
      have eQ : (P : Int) / 2 ^ (J : Int).toNat = ((P / 2 ^ J : Nat) : Int) := by rw [Int.toNat_natCast]; simp
      have eD : (L : Int) - J = ((L - J : Nat) : Int) := by omega
      have p1 := lt64 h6 hP
      by_cases hk : 0 ≤ k ∧ k ≤ ((L - J : Nat) : Int)
      · obtain ⟨K, rfl⟩ : ∃ K : Nat, k = K := ⟨k.toNat, by omega⟩
        have gY : Rk.okO (Rk.over (Rk.node L P) J) K = true := Rk.okO_t gX (by omega) (by rw [dX]; omega)
        have gZ : Rk.okO (Rk.node L P) ((J : Int) + K) = true := Rk.okO_t (isN_node h6 hP) (by omega) (by rw [dep_node h6 hP]; omega)
        have eY : Rk.over (Rk.node L P) ((J : Int) + K) = Rk.over (Rk.over (Rk.node L P) J) K := by
          rw [node_nat]
          unfold Rk.over
          rw [show ((J : Int) + K).toNat = J + K by omega]
          simp only [Int.toNat_natCast]
          rw [Nat.div_div_eq_div_mul, ← Nat.pow_add]
        exact walk_good _ _ _ _ _ _ (Rk.over (Rk.over (Rk.node L P) J) K) _ _ (by omega) (by omega) (by omega) eD eQ (by omega) (by omega) hk.1 hk.2 C1 C2 C3 C4
          (Lib.hid fun W => ex2 (over_any _ _ W) (by rw [gY]; rfl) (by rw [gY]; rfl)) (Lib.hid fun W => ex2 (over_any _ _ W) (by rw [gZ, ← eY]; rfl) (by rw [gZ]; rfl)) w hp
      · have gY : Rk.okO (Rk.over (Rk.node L P) J) k = false := Rk.okO_f (by rw [dX]; exact hk)
        exact walk_high _ _ _ _ _ _ _ _ (by omega) (by omega) (by omega) eD eQ (by omega) (by omega) hk C1 C2 C3 C4
          (Lib.hid fun W => ex2 (over_any _ _ W) (by rw [gY]; rfl) (by rw [gY]; rfl)) w hp
    · exact walk_above L P j k h6 hP hj w hp

set_option maxRecDepth 100000 in
theorem lifted (os : Os) (started : os.Started) (H : Type) (enc : TypeId × Value → H) :
    ReturnsInHanded {} Tryd.checked os 5 .any (fun w args => (Rows.rankPathSpec.pre enc Tryd.prog Tryd.f5 [] false w args ∧ laidMetH Tryd.prog laidL w) ∧ sizedMet enc Tryd.prog Tryd.f5 (OpenSpec.ofChange Rows.rankPathSpec) false w args)
      (Rows.rankPathSpec.post enc Tryd.prog Tryd.f5 false true false false) := by
  refine returnsInHanded_of_change_and (C := Tryd.checked) (X := fun w _ => laidMetH Tryd.prog laidL w) (fun _ _ _ hh h => h.of_heap hh) own started (by kernel_rfl) Tryd.func5
    (ChangeSpec.witness_shaped (enc := enc) (C := Tryd.checked) (os := os) (X := fun w _ => laidMetH Tryd.prog laidL w) false (World.doorLaid Tryd.prog 400 os) #[.int .i64 0, .int .i64 0, .int .i64 0, .int .i64 0] 8 rfl (World.shaped_of_RefB (by kernel_rfl) (by kernel_rfl)) (by kernel_rfl) (by kernel_rfl) (by kernel_rfl) (door_met os _)) ?_
  intro W base args ds gs before hval0 hW _ _ hL _
  refine law_of laidOut (by kernel_rfl) (by kernel_rfl) Tryd.underlying4 rfl ?_ hW fun p hA => ?_
  · intro ds hd
    match ds, hd with
    | [_, _, _, _], _ => rfl
  have hval' : ∀ (j : Nat) t v, Tryd.f5.params[j]? = some t → args[j]? = some v → Value.okWide Tryd.prog W .any base t v := hval0
  rw [Tryd.params5] at hA hval'
  obtain ⟨v0, vs0, d0, ds0, p0, q0, hargs, rfl, rfl, h0, r0⟩ := trodAll_cons hA
  obtain ⟨v1, vs1, d1, ds1, p1, q1, rfl, rfl, rfl, h1, r1⟩ := trodAll_cons r0
  obtain ⟨v2, vs2, d2, ds2, p2, q2, rfl, rfl, rfl, h2, r2⟩ := trodAll_cons r1
  obtain ⟨v3, vs3, d3, ds3, p3, q3, rfl, rfl, rfl, h3, r3⟩ := trodAll_cons r2
  obtain ⟨rfl, rfl, rfl⟩ := trodAll_nil r3
  obtain rfl : args = #[v0, v1, v2, v3] := by cases args; simp_all
  obtain ⟨a0, rfl, _, _, _⟩ := open_int Tryd.underlying3 (hval' 0 _ v0 rfl rfl) h0
  obtain ⟨a1, rfl, _, _, _⟩ := open_int Tryd.underlying3 (hval' 1 _ v1 rfl rfl) h1
  obtain ⟨a2, rfl, _, _, _⟩ := open_int Tryd.underlying3 (hval' 2 _ v2 rfl rfl) h2
  obtain ⟨a3, rfl, _, _, _⟩ := open_int Tryd.underlying3 (hval' 3 _ v3 rfl rfl) h3
  exact walk a0 a1 a2 a3 W (of_laid hL)

theorem row : Rows.RankPathSaid :=
  OpenClaim.holds_of_wide 5 Tryd.f5 rfl rfl rfl rfl rfl rfl rfl ⟨rfl, rfl, rfl, rfl, rfl⟩ rfl rfl rfl rfl rfl (by kernel_rfl) Tryd.func5 (by kernel_rfl)
    (of_decide_eq_true (by kernel_rfl)) (by unfold Func.isWrapper; first | (rw [if_pos (by decide +kernel)]; kernel_rfl) | (rw [if_neg (by decide +kernel)]; exact ⟨rfl, rfl⟩))
    (fun os started H enc _ => lifted os started H enc)

theorem card : Rows.RankPathCardSaid :=
  Claim7.holds_tied_plain_at .later [] [.data] true Rows.rankPathCard.stood.harness false
    row (fun _ h => by cases h) (by kernel_rfl) (fun _ h => by cases h) rankPath_row_tie rfl ⟨rfl, rfl⟩ (by kernel_rfl) rfl
    (fun f fn hf hfn => by
      obtain rfl : f = 5 := Option.some.inj ((show Tryd.prog.funcNamed "bascule/basculelaw03.RankPath" = some 5 by kernel_rfl).symm.trans hf) |>.symm
      obtain rfl : fn = Tryd.f5 := (Option.some.inj (Tryd.func5.symm.trans hfn)).symm
      exact ⟨by kernel_rfl, fun j t ht => by
        rw [Tryd.params5] at ht
        have hm : t ∈ [3] := by simpa using Array.mem_of_getElem? ht
        have hall : ([3].all fun u => !Tryd.prog.wantsStandIn u) = true := by kernel_rfl
        exact (show Tryd.prog.wantsStandIn t = false by simpa using List.all_eq_true.1 hall t hm)⟩)
    (by kernel_rfl)
#print axioms card
end Go.Proofs.YtgodedghmddhpaaDoor.rankPath
