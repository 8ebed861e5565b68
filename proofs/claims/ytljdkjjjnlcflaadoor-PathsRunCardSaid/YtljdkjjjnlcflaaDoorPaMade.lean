/- The document's own model of a tree of settings: rows in which a node, and those above it, are; whether a node is another one's parent. -/
import Derived.Test.YtljdkjjjnlcflaaDoorPaRef
namespace Go.Proofs.YtljdkjjjnlcflaaDoor
open Go.RowKit Tb Pt Opn

/-- Rows, in whatever memory. -/
def RetV (l : List R) (w : World) (e : Ending) (w' : World) : Prop := ∃ v, e = .returned v ∧ IsRV w' v l ∧ Below w.heap.size w w'
/-- So many levels above there is nothing. -/
def Chain : Nat → Nat → Prop
  | 0, k => k = 0
  | n + 1, k => k = 0 ∨ Chain n (par k)
theorem chain_three (k : Nat) : Chain 3 k := .inr (.inr (.inr (par_three k)))
theorem ens_of {l : List R} {k : Nat} (h : (Tb.get l k).isSome = true) : ens l k = l := by unfold ens; rw [if_pos h]
theorem ens_new {l : List R} {k : Nat} (h : ¬ (Tb.get l k).isSome = true) : ens l k = put l k 0 := by unfold ens; rw [if_neg h]

set_option maxRecDepth 20000 in
set_option maxHeartbeats 4000000 in
theorem pMade_any (A : Option Addr) (l : List R) (d : Nat) (hd : l.length ≤ d ∧ d ≤ 9223372036854775807) (hAn : A = none → l.length = 0 ∧ d = 0) (hl : l.length ≤ 900000) (hu : Up l) (k : Nat) (hk : k < 18446744073709551616) (w : World) (h : IsR w A l) :
    Calls Tryd.prog 54 #[.slice A l.length d, .int .u64 k] w (RetV (mk 3 l k) w) := by
  obtain ⟨T, hT⟩ : ∃ T, mk 3 l k = T := ⟨_, rfl⟩
  rw [hT]
  have HV := Lib.hid (show IsRV w (.slice A l.length d) l from ⟨A, d, rfl, hd, hAn, h⟩)
  have HT := Lib.hid hT
  obtain ⟨N, hN⟩ : ∃ N, l.length = N := ⟨_, rfl⟩
  have HN := Lib.hid hN
  have HU := Lib.hid hu
  obtain ⟨v0, hv0⟩ : ∃ v, v = Value.slice A l.length d := ⟨_, rfl⟩
  rw [← hv0] at HV ⊢
  clear hT h hd hAn hu
  rw [hN] at hl
  clear hv0 hN
  go_enter Tryd.func54, Tryd.ntmps54
  go_wp2
  go_loopw [0, 1] (fun lv kv wr => Below w.heap.size w wr ∧ ∃ n kk : Nat, n ≤ 3 ∧ kk < 18446744073709551616 ∧ kv = .int .u64 kk ∧ Hid (∃ cur, IsRV wr lv cur ∧ Chain n kk ∧ mk n cur kk = T ∧ Up cur ∧ cur.length + n ≤ N + 3)) (fun _ kv _ => (intOf kv).toNat)
  case atStart => exact ⟨Below.refl _ _, 3, k, Nat.le_refl _, hk, rfl, Lib.hid ⟨l, HV.out, chain_three k, HT.out, HU.out, by rw [HN.out]; exact Nat.le_refl _⟩⟩
  case round =>
    obtain ⟨hbr, n, kk, hn, hkk, rfl, HC⟩ := hrel
    by_cases hk0 : kk = 0
    · subst hk0
      have HX := Lib.hid (show IsRV wr _ T by
        obtain ⟨cur, h1, _, h3, _⟩ := HC.out
        rw [mk_zero] at h3
        rw [← h3]; exact h1)
      clear HC
      go_wp2
      go_ret
      exact ⟨_, rfl, HX.out, hbr⟩
    · have hk2 : ((kk : Int) != 0) = true := bne_iff_ne.2 (by omega)
      obtain ⟨cur, hcur⟩ : ∃ cur, IsRV wr _ cur ∧ Chain n kk ∧ mk n cur kk = T ∧ Up cur ∧ cur.length + n ≤ N + 3 := HC.out
      obtain ⟨⟨A1, c1, rfl, hc1, hA1, h1⟩, h2, h3, h4, h5⟩ := hcur
      obtain ⟨m, rfl⟩ : ∃ m, n = m + 1 := by
        cases n with
        | zero => exact absurd h2 hk0
        | succ m => exact ⟨m, rfl⟩
      have h2 : Chain m (par kk) := h2.resolve_left hk0
      have h3 : mk m (ens cur kk) (par kk) = T := by rw [mk, if_neg hk0] at h3; exact h3
      have HF := Lib.hid (fun W hA => rFind_any A1 cur c1 (by omega) kk W hA)
      have HW := Lib.hid (fun W hA => rWith_up A1 cur c1 (by omega) h4 kk 0 W hA)
      have HP := Lib.hid (pParent_any kk hkk)
      have hlt := par_lt hk0
      have HK := Lib.hid (And.intro h2 h3)
      have HU2 := Lib.hid h4
      have H1 := Lib.hid h1
      have HO := Lib.hid (And.intro hc1 hA1)
      clear h1 h2 h3 HC hc1 hA1
      rcases fnd_get cur kk with ⟨hf, hg⟩ | ⟨i, hi, hf, _, hg⟩
      · rw [hf] at HF
        have hens := ens_new (l := cur) (k := kk) (by rw [hg]; simp)
        have HE := Lib.hid hens
        have hlen := (len_ens h4 kk).1
        rw [hens] at hlen
        have HLN := Lib.hid hlen
        obtain ⟨M, hM⟩ : ∃ M, cur.length = M := ⟨_, rfl⟩
        have HM := Lib.hid hM
        rw [hM] at HF HW h5 ⊢
        generalize hp : par kk = p at *
        have HPP := Lib.hid hp
        clear hf hg hens hlen hM hp
        go_wp2_with fail
        refine (HF.out wr H1.out).mono ?_
        rintro e w2 ⟨rfl, hb2⟩
        go_wp2_with fail
        refine (HW.out w2 (H1.out.below hb2)).mono ?_
        rintro e w3 ⟨v3, rfl, hM3, hb3⟩
        have HM3 := Lib.hid (IsRV.of hM3)
        clear hM3
        go_wp2_with fail
        refine (HP.out w3).mono ?_
        rintro e w4 ⟨rfl, hb4⟩
        go_wp2
        go_roundw
        case rel => exact ⟨below_then (below_then (below_then hbr hb2) hb3) hb4, m, p, by omega, by omega, rfl, Lib.hid ⟨put cur kk 0, HM3.out.below hb4, HK.out.1, by rw [← HE.out]; exact HK.out.2, up_put _ _ HU2.out, by have := HLN.out; have := HM.out; omega⟩⟩
        case measure => simp [intOf]; omega
      · rw [hf] at HF
        have hens := ens_of (l := cur) (k := kk) (by rw [hg]; rfl)
        have HE := Lib.hid hens
        obtain ⟨M, hM⟩ : ∃ M, cur.length = M := ⟨_, rfl⟩
        have HM := Lib.hid hM
        rw [hM] at HF HW h5 hi ⊢
        generalize hp : par kk = p at *
        have HPP := Lib.hid hp
        have hi0 : ¬ (i : Int) < 0 := by omega
        clear hf hg hens hM hp
        go_wp2_with fail
        refine (HF.out wr H1.out).mono ?_
        rintro e w2 ⟨rfl, hb2⟩
        go_wp2_with fail
        refine (HP.out w2).mono ?_
        rintro e w4 ⟨rfl, hb4⟩
        go_wp2
        go_roundw
        case rel => exact ⟨below_then (below_then hbr hb2) hb4, m, p, by omega, by omega, rfl, Lib.hid ⟨cur, ⟨A1, c1, by rw [HM.out], HO.out.1, HO.out.2, (H1.out.below hb2).below hb4⟩, HK.out.1, by have := HK.out.2; rw [HE.out] at this; exact this, HU2.out, by have := HM.out; omega⟩⟩
        case measure => simp [intOf]; omega

theorem used_take {l : List R} {k j : Nat} (hj : j < l.length) : usedB (l.take (j + 1)) k = (usedB (l.take j) k || decide (par l[j].1 = k)) := by
  unfold usedB
  rw [List.take_succ_eq_append_getElem hj, List.any_append]
  simp
theorem used_false_of {l : List R} {k : Nat} (h : ∀ j, (hj : j < l.length) → ¬ par l[j].1 = k) : usedB l k = false := by
  unfold usedB
  rw [List.any_eq_false]
  intro x hx
  obtain ⟨j, hj, rfl⟩ := List.getElem_of_mem hx
  simpa using h j hj
theorem used_true_of {l : List R} {k j : Nat} (hj : j < l.length) (h : par l[j].1 = k) : usedB l k = true := by
  unfold usedB
  rw [List.any_eq_true]
  exact ⟨_, List.getElem_mem hj, by simpa using h⟩

set_option maxHeartbeats 4000000 in
theorem pUsed_any (A : Option Addr) (l : List R) (d : Nat) (hl : l.length ≤ 1000000) (hw64 : ∀ x ∈ l, x.1 < 18446744073709551616) (k : Nat) (w : World) (h : IsR w A l) :
    Calls Tryd.prog 56 #[.slice A l.length d, .int .u64 k] w (Ret (.bool (usedB l k)) w) := by
  have HA := Lib.hid h
  have HW := Lib.hid hw64
  obtain ⟨s, hs⟩ : ∃ s, usedB l k = s := ⟨_, rfl⟩
  rw [hs]
  have HS := Lib.hid hs
  obtain ⟨N, hN⟩ : ∃ N, l.length = N := ⟨_, rfl⟩
  have HN := Lib.hid hN
  rw [hN] at hl ⊢
  clear h hw64 hs hN
  go_enter Tryd.func56, Tryd.ntmps56
  go_wp2
  go_loopw [5] (fun iv wr => Below w.heap.size w wr ∧ ∃ j : Nat, j ≤ N ∧ iv = .int .i64 j ∧ Hid (∀ m, (hm : m < l.length) → m < j → ¬ par l[m].1 = k)) (fun i _ => N - (intOf i).toNat)
  case atStart => exact ⟨Below.refl _ _, 0, Nat.zero_le _, rfl, Lib.hid fun m _ hm => by omega⟩
  case round =>
    obtain ⟨hbr, j, hj, rfl, HJ⟩ := hrel
    have i1 : (0 : Int) ≤ (j : Int) := by omega
    by_cases hlt : j < N
    · have j1 : j < l.length := by rw [HN.out]; exact hlt
      have i2 : (j : Int) < (N : Int) := by omega
      obtain ⟨bk, off, rfl, h1, h2⟩ := HA.out.row j1
      replace h1 := (hbr.cell (World.block_lt_of_cell? _ _ h1)).trans h1
      have hwq := HW.out _ (List.getElem_mem j1)
      obtain ⟨q1, e1⟩ : ∃ q, l[j].1 = q := ⟨_, rfl⟩
      rw [e1] at h1 hwq
      have HP := Lib.hid (pParent_any q1 hwq)
      obtain ⟨p, hp⟩ : ∃ p, par q1 = p := ⟨_, rfl⟩
      rw [hp] at HP
      have HE := Lib.hid (show par l[j].1 = p by rw [e1, hp])
      clear e1 hp h2 hwq
      by_cases hpk : p = k
      · subst hpk
        have es : s = true := by rw [← HS.out]; exact used_true_of j1 HE.out
        subst es
        go_wp2_with (go_at_call 19; refine (HP.out _).mono ?_; rintro e w2 ⟨rfl, hb2⟩)
        go_ret
        exact Ret.mk rfl (below_then hbr hb2)
      · have hpk2 : ¬ (p : Int) = (k : Int) := by omega
        have HNE := Lib.hid hpk
        go_wp2_with (go_at_call 19; refine (HP.out _).mono ?_; rintro e w2 ⟨rfl, hb2⟩)
        go_roundw
        case rel => exact ⟨below_then hbr hb2, j + 1, by omega, by go_num, Lib.hid fun m hm1 hm2 => by
          by_cases e : m = j
          · subst e; rw [HE.out]; exact HNE.out
          · exact HJ.out m hm1 (by omega)⟩
        case measure => simp [intOf]; omega
    · obtain rfl : j = N := by omega
      have es : s = false := by rw [← HS.out]; exact used_false_of fun m hm => HJ.out m hm (by rw [← HN.out]; exact hm)
      subst es
      go_wp2
      go_ret
      exact Ret.mk rfl hbr
end Go.Proofs.YtljdkjjjnlcflaaDoor
