/- What the program's Do answers of rules, opened; the statements' own 'says'; their config. -/
import Derived.Test.YtfkkeokmkhjpfaaDoorRuDoP
namespace Go.Proofs.YtfkkeokmkhjpfaaDoor
open Go.RowKit Go.Lib Tb Pt Opn

/-- What Do leaves, its rows opened. -/
def OpenedU (rows : List R) (x y er : Int) (na : Nat) (w : World) (e : Ending) (w' : World) : Prop := ∃ Aa da, e = .returned (.tuple #[.slice Aa na da, .agg #[.int .i64 x, .int .u32 y, .slice none 0 0], .int .i64 er]) ∧
  (Aa = none → na = 0 ∧ da = 0) ∧ IsR w' Aa rows ∧ Below w.heap.size w w'
theorem udo_open (c : Cf) (A : Option Addr) (l : List R) (d : Nat) (o : O) (ho : Wf o) (hAn : A = none → l.length = 0 ∧ d = 0) (hl : l.length ≤ 100000) (hw64 : ∀ x ∈ l, x.1 < 18446744073709551616) (rows : List R) (x y er : Int) (hs : doUR c l o = (rows, x, y)) (he : doUE c l = er) (n na : Nat) (hn : l.length = n) (hna : rows.length = na) (w : World) (hp : Obs w) (h : IsR w A l) :
    Calls Tryd.prog 9 #[cfv c, .slice A n d, opv o] w (OpenedU rows x y er na w) := by
  subst hn hna
  have h1 := udo_any c A l d o ho hAn hl hw64 w hp h
  rw [hs, he] at h1
  refine h1.mono ?_
  rintro e w' ⟨u, rfl, hu, hb⟩
  obtain ⟨Aa, da, rfl, _, h3, h4⟩ := MadeX.form rowL_len hu
  exact ⟨Aa, da, rfl, h3, h4, hb⟩

theorem nduE {c : Cf} {l : List R} (h : IsRu c l) : doUE c l = 0 := by
  rcases doUE_cases c l with ⟨h1, _⟩ | ⟨_, h2⟩
  · exact h1
  · exact absurd h h2
theorem chk_rule {c : Cf} {l : List R} {o : O} (h : IsRu c l) (hk : 9 ≤ o.k ∧ o.k ≤ 11) : chk c o = if Fits c.bits.toNat o then 0 else 10 := by
  unfold chk
  rw [if_neg (by unfold okB; rw [decide_eq_true h.1]; decide)]
  have e : objAt o.k = 3 := by unfold objAt; rw [if_neg (by omega), if_neg (by omega), if_neg (by omega), if_pos (by omega)]
  rw [if_neg (by rw [e, h.2.1]; decide)]
/-- A check: both numbers from 1 to 65535. -/
theorem ans_says {c : Cf} {l : List R} (h : IsRu c l) (a b : Nat) : ((1 ≤ a ∧ a ≤ 65535 ∧ 1 ≤ b ∧ b ≤ 65535) ∧ doUR c l ⟨11, a, b, 0⟩ = (l, 0, ((says l a b : Nat) : Int))) ∨ (¬ (1 ≤ a ∧ a ≤ 65535 ∧ 1 ≤ b ∧ b ≤ 65535) ∧ doUR c l ⟨11, a, b, 0⟩ = (l, 10, 0)) := by
  have hc := chk_rule (o := ⟨11, a, b, 0⟩) h (by simp only; omega)
  by_cases hf : 1 ≤ a ∧ a ≤ 65535 ∧ 1 ≤ b ∧ b ≤ 65535
  · rw [if_pos (.inr (.inr (.inr (.inr (.inr (.inr (.inr (.inl ⟨rfl, hf.1, hf.2.1, hf.2.2.1, hf.2.2.2, rfl⟩))))))))] at hc
    exact .inl ⟨hf, by rw [doUR_done h hc]; exact doneU_look⟩
  · rw [if_neg fun hh => by unfold Fits at hh; simp only at hh; rcases hh with hh | hh | hh | hh | hh | hh | hh | hh | hh | hh <;> omega] at hc
    exact .inr ⟨hf, by rw [doUR_bad h (by rw [hc]; decide), hc]⟩
/-- What the statements' 'says' answers: 9 where there is an error. -/
def sayL (c : Cf) (l : List R) (a b : Nat) : Nat := if IsRu c l ∧ 1 ≤ a ∧ a ≤ 65535 ∧ 1 ≤ b ∧ b ≤ 65535 then says l a b else 9

/-- The examples' config. -/
def cfU : Cf := ⟨3, 2, 1, 1, 0, 0, 3, 0, 1, 0, 131072, 0⟩
set_option maxHeartbeats 1000000 in
theorem uconf_any (w : World) : Calls Tryd.prog 10 #[] w (Ret (cfv cfU) w) := by
  unfold cfv cfU
  go_enter Tryd.func10, Tryd.ntmps10
  go_wp2
  refine bodyPost_ret (v := .agg #[.int .u8 3, .int .i64 2, .int .i64 1, .int .u8 1, .int .i64 0, .int .i64 0, .int .i64 3, .int .i64 0, .int .i64 1, .int .i64 0, .int .u64 131072, .int .u64 0]) ?_ rfl ⟨rfl, ?_⟩
  · simp [results, Tryd.results10, go_sem]
  · exact below_one _ _

set_option maxRecDepth 100000 in
set_option maxHeartbeats 4000000 in
theorem usays_any (c : Cf) (A : Option Addr) (l : List R) (d a b : Nat) (ha : a < 4294967296) (hb : b < 4294967296) (hAn : A = none → l.length = 0 ∧ d = 0) (hl : l.length ≤ 1000) (hw64 : ∀ x ∈ l, x.1 < 18446744073709551616) (w : World) (hp : Obs w) (h : IsR w A l) :
    Calls Tryd.prog 19 #[cfv c, .slice A l.length d, .int .u32 a, .int .u32 b] w (Ret (.int .u32 (sayL c l a b : Nat)) w) := by
  obtain ⟨⟨rows, x, y⟩, hs⟩ : ∃ s, doUR c l ⟨11, a, b, 0⟩ = s := ⟨_, rfl⟩
  obtain ⟨er, he⟩ : ∃ s, doUE c l = s := ⟨_, rfl⟩
  obtain ⟨na, hna⟩ : ∃ n, rows.length = n := ⟨_, rfl⟩
  obtain ⟨N, hN⟩ : ∃ n, l.length = n := ⟨_, rfl⟩
  have HD := Lib.hid (udo_open c A l d ⟨11, a, b, 0⟩ (by unfold Wf; simp only; omega) hAn (by omega) hw64 rows x y er hs he N na hN hna)
  have HL := Lib.hid h
  have HP := Lib.hid hp
  have hcase : (er ≠ 0 ∧ sayL c l a b = 9) ∨ (er = 0 ∧ x ≠ 0 ∧ sayL c l a b = 9) ∨ (er = 0 ∧ x = 0 ∧ y = ((sayL c l a b : Nat) : Int)) := by
    rcases doUE_cases c l with ⟨h1, h2⟩ | ⟨h1, h2⟩
    · rcases ans_says h2 a b with ⟨g1, g2⟩ | ⟨g1, g2⟩
      · rw [hs] at g2
        injection g2 with _ g2
        injection g2 with g2 g3
        exact .inr (.inr ⟨by rw [← he, h1], g2, by rw [g3]; unfold sayL; rw [if_pos ⟨h2, g1⟩]⟩)
      · rw [hs] at g2
        injection g2 with _ g2
        injection g2 with g2 _
        exact .inr (.inl ⟨by rw [← he, h1], by rw [g2]; decide, by unfold sayL; rw [if_neg fun k => g1 k.2]⟩)
    · exact .inl ⟨by rw [← he]; exact h1, by unfold sayL; rw [if_neg fun k => h2 k.1]⟩
  rw [hN]
  generalize sayL c l a b = z at *
  have HC := Lib.hid hcase
  clear hs he hna hN h hp hAn hl hw64 hcase
  unfold cfv opv at *
  go_enter Tryd.func19, Tryd.ntmps19
  go_wp2_with fail
  refine (HD.out _ (HP.out.below (below_one _ _)) (HL.out.below (below_one _ _))).mono ?_
  rintro e w2 ⟨Aa, da, rfl, _, _, hb2⟩
  have HB := Lib.hid (below_then (below_one _ _) (below_then hb2 (below_one w2 (.cells #[.int .i64 x, .int .u32 y, .slice none 0 0] 29))))
  clear hb2
  rcases HC.out with ⟨h1, h2⟩ | ⟨h1, h2, h3⟩ | ⟨h1, h2, h3⟩
  · have h4 : (er != 0) = true := bne_iff_ne.2 h1
    go_wp2
    go_ret
    exact Ret.mk (by rw [h2]; rfl) HB.out
  · subst h1
    have h4 : (x != 0) = true := bne_iff_ne.2 h2
    go_wp2
    go_ret
    exact Ret.mk (by rw [h3]; rfl) HB.out
  · subst h1 h2 h3
    go_wp2
    go_ret
    exact Ret.mk rfl HB.out
end Go.Proofs.YtfkkeokmkhjpfaaDoor
