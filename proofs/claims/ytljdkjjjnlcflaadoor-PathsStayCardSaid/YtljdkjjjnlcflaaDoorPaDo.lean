/- The document's own answer on what an operation on a tree of settings does, of whatever config, rows and operation. -/
import Derived.Test.YtljdkjjjnlcflaaDoorPaDone
import Derived.Test.YtljdkjjjnlcflaaDoorPaIs
import Derived.Test.YtljdkjjjnlcflaaDoorOpRefChk
import Derived.Deep.RegionWith
import Derived.Deep.DeepCutAuto
namespace Go.Proofs.YtljdkjjjnlcflaaDoor
open Go.RowKit Tb Pt Opn

/-- What Do answers. -/
def doPR (c : Cf) (l : List R) (o : O) : List R × Int × Int :=
  if ¬ (Ok c ∧ c.obj = 4) then ([], 0, 0) else if ¬ IsPt c l then ([], 0, 0) else if chk c o ≠ 0 then (l, chk c o, 0) else doneP c.cap.toNat l o.k (pth o) o.c
def doPE (c : Cf) (l : List R) : Int := if ¬ (Ok c ∧ c.obj = 4) then 40 else if ¬ IsPt c l then 2 else 0

set_option maxRecDepth 20000 in
set_option maxHeartbeats 4000000 in
theorem pDo_conf (c : Cf) (A : Option Addr) (l : List R) (d : Nat) (o : O) (_ : l.length ≤ 1000000) (hno : ¬ (Ok c ∧ c.obj = 4)) (w : World) (_ : IsR w A l) :
    Calls Tryd.prog 14 #[cfv c, .slice A l.length d, opv o] w (Did3 ([], 0, 0) 40 w) := by
  have HM := Lib.hid (rMayBe_any c)
  generalize l.length = N at *
  cases hok : okB c with
  | false =>
    rw [hok] at HM
    clear hno hok
    unfold cfv opv at *
    go_enter Tryd.func14, Tryd.ntmps14
    go_wp2_with (go_at_call 28; refine (HM.out _).mono ?_; rintro e w1 ⟨rfl, hb1⟩; obtain ⟨hc1, hf1⟩ := bcell hb1)
    refine bodyPost_ret (v := .tuple #[.slice none 0 0, .agg #[.int .i64 0, .int .u32 0, .slice none 0 0], .int .i64 40]) ?_ rfl ⟨_, rfl, ?_, ?_⟩
    · simp [results, Tryd.results14, go_sem, hc1]
    · exact ⟨none, 0, rfl, ⟨by simp, by simp⟩, fun _ => ⟨rfl, rfl⟩, IsL.nil _ _ _ _⟩
    · exact ((((below_then (below_three _ _ _ _) hb1).setCell (by simp; omega) _).setCell (by simp; omega) _).setCell (by simp; omega) _)
  | true =>
    have ho : c.obj ≠ 4 := fun e => hno ⟨ok_of hok, e⟩
    have ho2 : (c.obj != 4) = true := bne_iff_ne.2 ho
    rw [hok] at HM
    clear hno hok
    unfold cfv opv at *
    go_enter Tryd.func14, Tryd.ntmps14
    go_wp2_with (go_at_call 28; refine (HM.out _).mono ?_; rintro e w1 ⟨rfl, hb1⟩; obtain ⟨hc1, hf1⟩ := bcell hb1)
    refine bodyPost_ret (v := .tuple #[.slice none 0 0, .agg #[.int .i64 0, .int .u32 0, .slice none 0 0], .int .i64 40]) ?_ rfl ⟨_, rfl, ?_, ?_⟩
    · simp [results, Tryd.results14, go_sem, hc1]
    · exact ⟨none, 0, rfl, ⟨by simp, by simp⟩, fun _ => ⟨rfl, rfl⟩, IsL.nil _ _ _ _⟩
    · exact ((((below_then (below_three _ _ _ _) hb1).setCell (by simp; omega) _).setCell (by simp; omega) _).setCell (by simp; omega) _)

set_option maxRecDepth 20000 in
set_option maxHeartbeats 4000000 in
theorem pDo_arg (c : Cf) (A : Option Addr) (l : List R) (d : Nat) (o : O) (hl : l.length ≤ 1000000) (hok : Ok c) (hob : c.obj = 4) (hno : ¬ IsPt c l) (hw64 : ∀ x ∈ l, x.1 < 18446744073709551616) (w : World) (h : IsR w A l) :
    Calls Tryd.prog 14 #[cfv c, .slice A l.length d, opv o] w (Did3 ([], 0, 0) 2 w) := by
  have HM := Lib.hid (rMayBe_any c)
  have HI := Lib.hid (fun W hA => rPaIs_any c A l d hl hw64 W hA)
  have HA := Lib.hid h
  rw [ptB_false hno] at HI
  rw [ok_bit hok] at HM
  generalize l.length = N at *
  clear h hno hok
  unfold cfv opv at *
  rw [hob] at HM HI ⊢
  clear hob
  go_enter Tryd.func14, Tryd.ntmps14
  go_wp2_with (first
    | (go_at_call 28; refine (HM.out _).mono ?_; rintro e w1 ⟨rfl, hb1⟩; obtain ⟨hc1, hf1⟩ := bcell hb1)
    | (go_at_call 15; refine (HI.out _ (HA.out.below (below_then (below_three _ _ _ _) hb1))).mono ?_; rintro e w2 ⟨rfl, hb2⟩; replace hb1 := below_then hb1 hb2; clear hc1 hf1 hb2; obtain ⟨hc1, hf1⟩ := bcell hb1))
  refine bodyPost_ret (v := .tuple #[.slice none 0 0, .agg #[.int .i64 0, .int .u32 0, .slice none 0 0], .int .i64 2]) ?_ rfl ⟨_, rfl, ?_, ?_⟩
  · simp [results, Tryd.results14, go_sem, hc1]
  · exact ⟨none, 0, rfl, ⟨by simp, by simp⟩, fun _ => ⟨rfl, rfl⟩, IsL.nil _ _ _ _⟩
  · exact ((((below_then (below_three _ _ _ _) hb1).setCell (by simp; omega) _).setCell (by simp; omega) _).setCell (by simp; omega) _)

set_option maxRecDepth 20000 in
set_option maxHeartbeats 4000000 in
theorem pDo_bad (c : Cf) (A : Option Addr) (l : List R) (d : Nat) (o : O) (ho : Wf o) (hAn : A = none → l.length = 0 ∧ d = 0) (hl : l.length ≤ 1000000) (ht : IsPt c l) (hbad : chk c o ≠ 0) (w : World) (h : IsR w A l) :
    Calls Tryd.prog 14 #[cfv c, .slice A l.length d, opv o] w (Did3 (l, chk c o, 0) 0 w) := by
  have hw64 : ∀ x ∈ l, x.1 < 18446744073709551616 := fun x hx => by have := (ht.2.2.2.2 x hx).1.1; unfold IsPa at this; omega
  have HM := Lib.hid (rMayBe_any c)
  have HI := Lib.hid (fun W hA => rPaIs_any c A l d hl hw64 W hA)
  have HC := Lib.hid (rCheck_op c o ho)
  have HCp := Lib.hid (fun W hA => rCopy_any A l d hl hAn W hA)
  have HA := Lib.hid h
  rw [ptB_true ht] at HI
  rw [ok_bit ht.1] at HM
  have hob := ht.2.1
  generalize l.length = N at *
  generalize chk c o = x at *
  have hbad2 : (x != 0) = true := bne_iff_ne.2 hbad
  clear h ht hAn ho
  unfold cfv opv at *
  rw [hob] at HM HI HC ⊢
  clear hob
  go_enter Tryd.func14, Tryd.ntmps14
  go_wp2_with (first
    | (go_at_call 28; refine (HM.out _).mono ?_; rintro e w1 ⟨rfl, hb1⟩; obtain ⟨hc1, hf1⟩ := bcell hb1)
    | (go_at_call 15; refine (HI.out _ (HA.out.below (below_then (below_three _ _ _ _) hb1))).mono ?_; rintro e w2 ⟨rfl, hb2⟩; replace hb1 := below_then hb1 hb2; clear hc1 hf1 hb2; obtain ⟨hc1, hf1⟩ := bcell hb1)
    | (go_at_call 29; refine (HC.out _).mono ?_; rintro e w2 ⟨rfl, hb2⟩; replace hb1 := below_then hb1 hb2; clear hc1 hf1 hb2; obtain ⟨hc1, hf1⟩ := bcell hb1))
  refine (HCp.out _ (HA.out.below (below_then (below_three _ _ _ _) hb1))).mono ?_
  rintro e w5 ⟨u, rfl, hM5, hb5⟩
  have hs : w.heap.size + 1 + 1 < w2.heap.size := Nat.lt_of_lt_of_le (by simp) hb1.size
  have z0 : w5.cell? ⟨w.heap.size + 1 + 1, 0, none⟩ = some (.int .i64 0) := (hb5.cell hs).trans ((hc1 _ _ (by simp)).trans (by simp [go_sem]))
  have z1 : w5.cell? ⟨w.heap.size + 1 + 1, 1, none⟩ = some (.int .u32 0) := (hb5.cell hs).trans ((hc1 _ _ (by simp)).trans (by simp [go_sem]))
  have z2 : w5.cell? ⟨w.heap.size + 1 + 1, 2, none⟩ = some (.slice none 0 0) := (hb5.cell hs).trans ((hc1 _ _ (by simp)).trans (by simp [go_sem]))
  have f0 : w5.frozen? ⟨w.heap.size + 1 + 1, 0, none⟩ = false := (hb5.frozen hs).trans ((hf1 _ _ (by simp)).trans (by simp [go_sem]))
  have f1 : w5.frozen? ⟨w.heap.size + 1 + 1, 1, none⟩ = false := (hb5.frozen hs).trans ((hf1 _ _ (by simp)).trans (by simp [go_sem]))
  have f2 : w5.frozen? ⟨w.heap.size + 1 + 1, 2, none⟩ = false := (hb5.frozen hs).trans ((hf1 _ _ (by simp)).trans (by simp [go_sem]))
  have HM5 := Lib.hid hM5
  clear hM5 hc1 hf1
  go_wp2
  refine bodyPost_ret (v := .tuple #[u, .agg #[.int .i64 x, .int .u32 0, .slice none 0 0], .int .i64 0]) ?_ rfl ⟨_, rfl, ?_, ?_⟩
  · simp [results, Tryd.results14, go_sem, z0, z1, z2]
  · exact IsRV.turned HM5.out (Below.refl _ _) hs _ _ _
  · exact ((((below_then (below_then (below_three _ _ _ _) hb1) hb5).setCell (by simp; omega) _).setCell (by simp; omega) _).setCell (by simp; omega) _)
end Go.Proofs.YtljdkjjjnlcflaaDoor

namespace Go.Proofs.YtljdkjjjnlcflaaDoor
open Go.RowKit Tb Pt Opn

theorem mk_has {l : List R} (hu : Up l) : ∀ (n k : Nat), k ≠ 0 → (Tb.get (mk (n + 1) l k) k).isSome = true := by
  have key : ∀ (n : Nat) (l : List R) (k j : Nat), Up l → (Tb.get l j).isSome = true → (Tb.get (mk n l k) j).isSome = true := by
    intro n
    induction n with
    | zero => intro l k j _ h; rw [mk]; exact h
    | succ n ih =>
      intro l k j hu h
      rw [mk]
      split
      · exact h
      · refine ih _ _ _ (up_ens hu k) ?_
        unfold ens
        split
        · exact h
        · obtain ⟨v, hv⟩ := Option.isSome_iff_exists.1 h
          by_cases e : j = k
          · subst e; rw [get_put _ _ hu]; rfl
          · have hm := get_some hv
            rw [get_of (up_put k 0 hu) (v := v) (by
              unfold put lo hi
              simp only [List.mem_append, List.mem_cons, List.mem_filter, decide_eq_true_eq]
              by_cases e2 : j < k
              · exact .inl ⟨hm, e2⟩
              · exact .inr (.inr ⟨hm, by omega⟩))]
            rfl
  intro n k hk
  rw [mk, if_neg hk]
  refine key _ _ _ _ (up_ens hu k) ?_
  unfold ens
  split
  · assumption
  · rw [get_put _ _ hu]; rfl
theorem doneP_len {cap : Nat} {l : List R} (k p c : Nat) (hu : Up l) : (doneP cap l k p c).1.length ≤ l.length + 4 := by
  have h1 := (len_mk 3 l p hu).1
  have h2 := len_put p (c + 1) (up_mk 3 l p hu)
  have h3 := cut_length l p
  unfold doneP
  (repeat' split) <;> simp only <;> (try (split at h2)) <;> omega
theorem mk_small {B : Nat} : ∀ (n k : Nat) (l : List R), (∀ x ∈ l, x.2 ≤ B) → ∀ x ∈ mk n l k, x.2 ≤ B := by
  intro n
  induction n with
  | zero => intro k l h; rw [mk]; exact h
  | succ n ih =>
    intro k l h
    rw [mk]
    split
    · exact h
    · refine ih _ _ fun x hx => ?_
      unfold ens at hx
      split at hx
      · exact h x hx
      · rcases put_mem hx with hx | rfl
        · exact h x hx
        · exact Nat.zero_le _

theorem pDone_any (c : Cf) (cap : Nat) (hcc : c.cap = cap) (A : Option Addr) (l : List R) (d : Nat) (o : O) (ho : Wf o) (hk : 12 ≤ o.k ∧ o.k ≤ 14) (hp : Path o.a o.b) (hd : l.length ≤ d ∧ d ≤ 9223372036854775807) (hAn : A = none → l.length = 0 ∧ d = 0) (hl : l.length ≤ 900000) (hu : Up l) (hv : ∀ x ∈ l, PaOk x) (w : World) (h : IsR w A l) :
    Calls Tryd.prog 31 #[cfv c, .slice A l.length d, opv o] w (DidP (doneP cap l o.k (pth o) o.c) w) := by
  obtain ⟨k, a, b, v⟩ := o
  obtain ⟨g1, g2, g3⟩ := pth_path ho hp
  have hw64 : ∀ x ∈ l, x.1 < 18446744073709551616 := fun x hx => by have := (hv x hx).1; unfold IsPa at this; omega
  have hsm : ∀ x ∈ l, x.2 ≤ 2147483648 := fun x hx => (hv x hx).2
  simp only at hk ⊢
  obtain ⟨K, hK⟩ : ∃ K, pth ⟨k, a, b, v⟩ = K := ⟨_, rfl⟩
  rw [hK] at g1 g2 g3 ⊢
  have hK64 : K < 18446744073709551616 := by omega
  rcases (by omega : k = 12 ∨ k = 13 ∨ k = 14) with rfl | rfl | rfl
  · unfold doneP
    rw [if_pos rfl]
    by_cases hc : cap < (mk 3 l K).length
    · rw [if_pos hc]
      exact pDone_full c A l d a b v K ho hK hK64 hl hd hAn hu (by omega) w h
    · rw [if_neg hc]
      have hs := mk_has hu 2 K g2
      rcases fnd_get (mk 3 l K) K with ⟨_, hg⟩ | ⟨i, hi, hf, _, hg⟩
      · rw [hg] at hs; cases hs
      · rw [hg]
        exact pDone_set c A l d a b v K ho hK hK64 hl hd hAn hu (by omega) i hi hf (mk_small 3 K l hsm _ (List.getElem_mem hi)) w h
  · unfold doneP
    rw [if_neg (by decide)]
    rcases fnd_get l K with ⟨hf, hg⟩ | ⟨i, hi, hf, _, hg⟩
    · rw [hg]
      exact pDone_none13 c A l d a b v K ho hK hK64 hl hd hAn hf w h
    · rw [hg]
      simp only
      rw [if_neg (by decide)]
      by_cases hub : usedB l K = true
      · rw [if_pos hub]
        exact pDone_used c A l d a b v K ho hK hK64 hl hd hAn i hi hf hw64 hub w h
      · rw [if_neg hub]
        exact pDone_cut c A l d a b v K ho hK hK64 hl hd hAn i hi hf hw64 (Bool.eq_false_iff.2 hub) (hsm _ (List.getElem_mem hi)) w h
  · unfold doneP
    rw [if_neg (by decide)]
    rcases fnd_get l K with ⟨hf, hg⟩ | ⟨i, hi, hf, _, hg⟩
    · rw [hg]
      exact pDone_none14 c A l d a b v K ho hK hK64 hl hd hAn hf w h
    · rw [hg]
      simp only
      rw [if_pos trivial]
      by_cases hv0 : l[i].2 = 0
      · rw [if_pos hv0]
        exact pDone_void c A l d a b v K ho hK hK64 hl hd hAn i hi hf hv0 w h
      · rw [if_neg hv0]
        exact pDone_read c A l d a b v K ho hK hK64 hl hd hAn i hi hf hv0 (hsm _ (List.getElem_mem hi)) w h

set_option maxRecDepth 20000 in
set_option maxHeartbeats 4000000 in
theorem pDo_good (c : Cf) (A : Option Addr) (l : List R) (d : Nat) (o : O) (ho : Wf o) (hd : l.length ≤ d ∧ d ≤ 9223372036854775807) (hAn : A = none → l.length = 0 ∧ d = 0) (hl : l.length ≤ 100000) (ht : IsPt c l) (hf : Fits c.bits.toNat o) (hk : 12 ≤ o.k ∧ o.k ≤ 14) (hgood : chk c o = 0) (w : World) (h : IsR w A l) :
    Calls Tryd.prog 14 #[cfv c, .slice A l.length d, opv o] w (Did3 (doneP c.cap.toNat l o.k (pth o) o.c) 0 w) := by
  have hw64 : ∀ x ∈ l, x.1 < 18446744073709551616 := fun x hx => by have := (ht.2.2.2.2 x hx).1.1; unfold IsPa at this; omega
  have HM := Lib.hid (rMayBe_any c)
  have HI := Lib.hid (fun W hA => rPaIs_any c A l d (by omega) hw64 W hA)
  have HC := Lib.hid (rCheck_op c o ho)
  have hcap : c.cap = (c.cap.toNat : Nat) := by have := ht.2.2.1; omega
  have hab : Path o.a o.b := by
    unfold Fits at hf
    rcases hf with h | h | h | h | h | h | h | h | h | h <;> first | exact h.2.1 | omega
  have HD := Lib.hid (fun W hA => pDone_any c c.cap.toNat hcap A l d o ho hk hab hd hAn (by omega) ht.2.2.2.1 (fun x hx => (ht.2.2.2.2 x hx).1) W hA)
  have hlen := doneP_len (cap := c.cap.toNat) o.k (pth o) o.c ht.2.2.2.1
  generalize doneP c.cap.toNat l o.k (pth o) o.c = s at *
  obtain ⟨rows, x, y⟩ := s
  simp only at hlen
  have hl2 : rows.length ≤ 1000000 := by omega
  have HA := Lib.hid h
  rw [ptB_true ht] at HI
  rw [ok_bit ht.1] at HM
  rw [hgood] at HC
  have hob := ht.2.1
  clear hlen hcap hab hw64
  generalize l.length = N at *
  clear h ht hAn ho hf hk hgood hd hl
  unfold cfv opv at *
  rw [hob] at HM HI HC HD ⊢
  clear hob
  go_enter Tryd.func14, Tryd.ntmps14
  go_wp2_with (first
    | (go_at_call 28; refine (HM.out _).mono ?_; rintro e w1 ⟨rfl, hb1⟩; obtain ⟨hc1, hf1⟩ := bcell hb1)
    | (go_at_call 15; refine (HI.out _ (HA.out.below (below_then (below_three _ _ _ _) hb1))).mono ?_; rintro e w2 ⟨rfl, hb2⟩; replace hb1 := below_then hb1 hb2; clear hc1 hf1 hb2; obtain ⟨hc1, hf1⟩ := bcell hb1)
    | (go_at_call 29; refine (HC.out _).mono ?_; rintro e w2 ⟨rfl, hb2⟩; replace hb1 := below_then hb1 hb2; clear hc1 hf1 hb2; obtain ⟨hc1, hf1⟩ := bcell hb1))
  refine (HD.out _ (HA.out.below (below_then (below_three _ _ _ _) hb1))).mono ?_
  rintro e w3 ⟨u3, rfl, hR3, hb3⟩
  obtain ⟨A3, c3, rfl, h31, h32, h33⟩ := hR3
  simp only at h31 h32 h33
  have HCp := Lib.hid (fun W hA => rCopy_any A3 rows c3 hl2 h32 W hA)
  have hs : w.heap.size + 1 + 1 < w2.heap.size := Nat.lt_of_lt_of_le (by simp) hb1.size
  have hs3 : w.heap.size + 1 + 1 < w3.heap.size := Nat.lt_of_lt_of_le hs hb3.size
  have z0 : w3.cell? ⟨w.heap.size + 1 + 1, 0, none⟩ = some (.int .i64 0) := (hb3.cell hs).trans ((hc1 _ _ (by simp)).trans (by simp [go_sem]))
  have z1 : w3.cell? ⟨w.heap.size + 1 + 1, 1, none⟩ = some (.int .u32 0) := (hb3.cell hs).trans ((hc1 _ _ (by simp)).trans (by simp [go_sem]))
  have z2 : w3.cell? ⟨w.heap.size + 1 + 1, 2, none⟩ = some (.slice none 0 0) := (hb3.cell hs).trans ((hc1 _ _ (by simp)).trans (by simp [go_sem]))
  have f0 : w3.frozen? ⟨w.heap.size + 1 + 1, 0, none⟩ = false := (hb3.frozen hs).trans ((hf1 _ _ (by simp)).trans (by simp [go_sem]))
  have f1 : w3.frozen? ⟨w.heap.size + 1 + 1, 1, none⟩ = false := (hb3.frozen hs).trans ((hf1 _ _ (by simp)).trans (by simp [go_sem]))
  have f2 : w3.frozen? ⟨w.heap.size + 1 + 1, 2, none⟩ = false := (hb3.frozen hs).trans ((hf1 _ _ (by simp)).trans (by simp [go_sem]))
  have HB := Lib.hid (below_then (below_then (below_three _ _ _ _) hb1) hb3)
  have HR := Lib.hid h33
  unfold resv
  clear hc1 hf1 h31 h32 h33 HM HI HC HD HA
  go_wp2_with fail
  obtain ⟨W, hW⟩ : ∃ W, W = w3.alloc (.cells #[.int .i64 x, .int .u32 y, .slice none 0 0] 29) := ⟨_, rfl⟩
  have hbW : Below w3.heap.size w3 W := by rw [hW]; exact below_one _ _
  rw [← hW]
  have r0 : W.cell? ⟨w3.heap.size, 0, none⟩ = some (.int .i64 x) := by rw [hW]; simp [go_sem]
  have r1 : W.cell? ⟨w3.heap.size, 1, none⟩ = some (.int .u32 y) := by rw [hW]; simp [go_sem]
  have r2 : W.cell? ⟨w3.heap.size, 2, none⟩ = some (.slice none 0 0) := by rw [hW]; simp [go_sem]
  have hsr : w3.heap.size < W.heap.size := by rw [hW]; simp
  clear hW
  replace z0 := (hbW.cell hs3).trans z0
  replace f0 := (hbW.frozen hs3).trans f0
  replace z1 := (hbW.cell hs3).trans z1
  replace f1 := (hbW.frozen hs3).trans f1
  replace z2 := (hbW.cell hs3).trans z2
  replace f2 := (hbW.frozen hs3).trans f2
  have hs4 : w.heap.size + 1 + 1 < W.heap.size := by omega
  have HRW := Lib.hid (HR.out.below hbW)
  have HBW := Lib.hid (show Below w.heap.size w W.drew from (below_then HB.out hbW).trans ⟨rfl, rfl, rfl, Nat.le_refl _, fun _ _ => rfl⟩)
  clear HR HB hs hs3 hb1 hb3 hbW
  obtain ⟨q, hq⟩ : ∃ q, w3.heap.size = q := ⟨_, rfl⟩
  rw [hq] at r0 r1 r2 hsr ⊢
  clear hq
  go_cut [6, 8] (fun s6 s8 wx => ∃ u, s6 = u ∧ s8 = .int .i64 0 ∧ Hid (IsRV wx u rows ∧ Below w.heap.size w wx ∧ wx.cell? ⟨w.heap.size + 1 + 1, 0, none⟩ = some (.int .i64 x) ∧ wx.cell? ⟨w.heap.size + 1 + 1, 1, none⟩ = some (.int .u32 y) ∧ wx.cell? ⟨w.heap.size + 1 + 1, 2, none⟩ = some (.slice none 0 0)))
  case first =>
    go_region_with (first
      | (go_at_call 30; refine (HCp.out _ (HRW.out.keep ?_)).mono ?_; (with_reducible exact keep0 W); rintro e w5 ⟨u, rfl, hM5, hb5⟩; obtain ⟨hz5, hc5⟩ := keep_below hb5 (keep0 W); obtain ⟨_, hf5⟩ := fkeep_below hb5 (fkeep0 W); have HM5 := Lib.hid hM5; clear hM5)
      | fail)
    all_goals
      go_wp2_with fail
      go_meet
      refine ⟨_, rfl, rfl, Lib.hid ⟨IsRV.turned HM5.out (Below.refl _ _) hs4 _ _ _, ?_, ?_, ?_, ?_⟩⟩
      · exact ((((HBW.out.trans (hb5.mono HBW.out.size)).setCell (by simp; omega) _).setCell (by simp; omega) _).setCell (by simp; omega) _)
      · simp [go_sem, hc5, hs4, z0]
      · simp [go_sem, hc5, hs4, z1]
      · simp [go_sem, hc5, hs4, z2]
  case rest =>
    obtain ⟨u, hu6, rfl, HX⟩ := hcut
    obtain ⟨e1, e2, e3, e4, e5⟩ := HX.out
    have HE := Lib.hid (And.intro e1 e2)
    clear e1 e2
    subst hu6
    go_wp2
    refine bodyPost_ret (v := .tuple #[u6, .agg #[.int .i64 x, .int .u32 y, .slice none 0 0], .int .i64 0]) ?_ rfl ⟨u6, rfl, ?_, HE.out.2⟩
    · simp [results, Tryd.results14, go_sem, e3, e4, e5]
    · exact HE.out.1
end Go.Proofs.YtljdkjjjnlcflaaDoor

namespace Go.Proofs.YtljdkjjjnlcflaaDoor
open Go.RowKit Tb Pt Opn

theorem path_kind {k : Nat} (h : (objAt k : Int) = 4) : 12 ≤ k ∧ k ≤ 14 := by
  unfold objAt at h
  (repeat' split at h) <;> omega

theorem pDo_any (c : Cf) (A : Option Addr) (l : List R) (d : Nat) (o : O) (ho : Wf o) (hd : l.length ≤ d ∧ d ≤ 9223372036854775807) (hAn : A = none → l.length = 0 ∧ d = 0) (hl : l.length ≤ 100000) (hw64 : ∀ x ∈ l, x.1 < 18446744073709551616) (w : World) (h : IsR w A l) :
    Calls Tryd.prog 14 #[cfv c, .slice A l.length d, opv o] w (Did3 (doPR c l o) (doPE c l) w) := by
  by_cases h1 : Ok c ∧ c.obj = 4
  · by_cases h2 : IsPt c l
    · by_cases h3 : chk c o = 0
      · have e : doPR c l o = doneP c.cap.toNat l o.k (pth o) o.c := by unfold doPR; rw [if_neg (not_not_intro h1), if_neg (not_not_intro h2), if_neg (not_not_intro h3)]
        have e2 : doPE c l = 0 := by unfold doPE; rw [if_neg (not_not_intro h1), if_neg (not_not_intro h2)]
        rw [e, e2]
        obtain ⟨_, g2, g3⟩ := chk_zero h3
        exact pDo_good c A l d o ho hd hAn hl h2 g3 (path_kind (by rw [g2]; exact h1.2)) h3 w h
      · have e : doPR c l o = (l, chk c o, 0) := by unfold doPR; rw [if_neg (not_not_intro h1), if_neg (not_not_intro h2), if_pos h3]
        have e2 : doPE c l = 0 := by unfold doPE; rw [if_neg (not_not_intro h1), if_neg (not_not_intro h2)]
        rw [e, e2]
        exact pDo_bad c A l d o ho hAn (by omega) h2 h3 w h
    · have e : doPR c l o = ([], 0, 0) := by unfold doPR; rw [if_neg (not_not_intro h1), if_pos h2]
      have e2 : doPE c l = 2 := by unfold doPE; rw [if_neg (not_not_intro h1), if_pos h2]
      rw [e, e2]
      exact pDo_arg c A l d o (by omega) h1.1 h1.2 h2 hw64 w h
  · have e : doPR c l o = ([], 0, 0) := by unfold doPR; rw [if_pos h1]
    have e2 : doPE c l = 40 := by unfold doPE; rw [if_pos h1]
    rw [e, e2]
    exact pDo_conf c A l d o (by omega) h1 w h
end Go.Proofs.YtljdkjjjnlcflaaDoor
