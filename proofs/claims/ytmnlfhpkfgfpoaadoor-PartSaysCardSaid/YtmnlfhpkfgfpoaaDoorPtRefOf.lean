/- The document's own answer on which place stands somewhere. -/
import Derived.Test.YtmnlfhpkfgfpoaaDoorPtRefWh
import Derived.Test.YtmnlfhpkfgfpoaaDoorPtWhat
namespace Go.Proofs.YtmnlfhpkfgfpoaaDoor.Pt
/-- No place ahead of this one stands there. -/
def Past (c : Cf) (z p a b : Nat) : Prop := ∀ q, hasB c q = true → (q.p < p ∨ (q.p = p ∧ (q.a < a ∨ (q.a = a ∧ q.b < b)))) → wh c q ≠ z
theorem has_at {c : Cf} {q : Pl} (h : hasB c q = true) : 0 ≤ q.a ∧ q.a < cntA c q.p ∧ 0 ≤ q.b ∧ q.b < cntB c q.p := of_decide_eq_true h
theorem past_start (c : Cf) (z : Nat) : Past c z 1 0 0 := fun q hq hl => by
  have := (has_part hq).1
  have := has_at hq
  omega
theorem past_b {c : Cf} {z p a b : Nat} (h : Past c z p a b) (hw : wh c ⟨(p : Nat), (a : Nat), (b : Nat)⟩ ≠ z) : Past c z p a (b + 1) := fun q hq hl => by
  by_cases e : q.p = p ∧ q.a = a ∧ q.b = b
  · obtain ⟨e0, e1, e2⟩ := e
    have : q = ⟨(p : Nat), (a : Nat), (b : Nat)⟩ := Pl.ext' e0 e1 e2
    rw [this]; exact hw
  · exact h q hq (by omega)
theorem past_a {c : Cf} {z p a b : Nat} (h : Past c z p a b) (hb : cntB c (p : Int) ≤ b) : Past c z p (a + 1) 0 := fun q hq hl => h q hq (by
  have hh := has_at hq
  by_cases e : q.p = p
  · rw [e] at hh; omega
  · omega)
theorem past_p {c : Cf} {z p a : Nat} (h : Past c z p a 0) (ha : cntA c (p : Int) ≤ a) : Past c z (p + 1) 0 0 := fun q hq hl => h q hq (by
  have hh := has_at hq
  by_cases e : q.p = p
  · rw [e] at hh; omega
  · omega)
theorem past_end {c : Cf} {z : Nat} (hok : Ok c) (h : Past c z 11 0 0) (hz : z < all c) : False := by
  obtain ⟨q, _, h2⟩ := what_find (apart_bl hok) hz
  rw [find_eq c hok] at h2
  split at h2
  · rename_i hq
    exact h q hq (.inl (by have := (has_part hq).2; omega)) (Option.some.inj h2)
  · cases h2
theorem past_hit {c : Cf} {z : Nat} {q : Pl} (hok : Ok c) (hq : hasB c q = true) (hw : wh c q = z) : whV c z = q := by
  have : find (bl c) q = some z := by rw [find_eq c hok, if_pos hq, hw]
  exact (wh_some (ok_bit hok) (find_lt this).2).1
end Go.Proofs.YtmnlfhpkfgfpoaaDoor.Pt
namespace Go.Proofs.YtmnlfhpkfgfpoaaDoor
open Go.RowKit Pt

/-- A place is laid anew. -/
theorem set_place3 {W : World} {a : Nat} {y y0 : Pl} (ha : IsPl W a y0) : IsPl (((W.setCell ⟨a, 0, none⟩ (.int .u8 y.p)).setCell ⟨a, 1, none⟩ (.int .i64 y.a)).setCell ⟨a, 2, none⟩ (.int .i64 y.b)) a y := by
  obtain ⟨h0, h1, h2⟩ := ha
  have so : ∀ {V : World} {x y : Addr} {u t : Value}, x ≠ y → V.cell? y = some t → (V.setCell x u).cell? y = some t := fun {V} {x} {y} {u} {t} h e => by
    rw [← e]; exact World.cell?_setCell_other (w := V) (a := x) (b := y) (v := u) h
  have ss : ∀ {V : World} {x : Addr} {u t : Value}, V.cell? x = some t → (V.setCell x u).cell? x = some u := fun {V} {x} {u} {t} e => World.cell?_setCell_same' _ _ _ (by rw [e]; rfl)
  have d : ∀ i j : Nat, i ≠ j → (⟨a, i, none⟩ : Addr) ≠ ⟨a, j, none⟩ := fun i j h e => h (by injection e)
  exact ⟨so (d 2 0 (by omega)) (so (d 1 0 (by omega)) (ss h0)), so (d 2 1 (by omega)) (ss (so (d 0 1 (by omega)) h1)), ss (so (d 1 2 (by omega)) (so (d 0 2 (by omega)) h2))⟩

set_option maxHeartbeats 4000000 in
theorem rOf_any (c : Cf) (h : Ok c) (z : Nat) (hz : z < all c) (w : World) : Calls Tryd.prog 35 #[cfv c, .int .i64 z] w (Ret (plv (whV c z)) w) := by
  have HC := Lib.hid (rCounts_any c h)
  have HWh := Lib.hid (rWhere_any c h)
  have HP := Lib.hid (cnt_small c h)
  have HOk := Lib.hid h
  have HZ := Lib.hid hz
  have hz6 := (all_bounds h).2
  have hz7 : z ≤ 600 := by omega
  clear h hz hz6
  unfold cfv at *
  go_enter Tryd.func35, Tryd.ntmps35
  obtain ⟨W0, hW0⟩ : ∃ W0, W0 = (w.alloc (.cells #[.int .u8 c.obj, .int .i64 c.inst, .int .i64 c.thr, .int .u8 c.kind, .int .i64 c.str, .int .i64 c.bits, .int .i64 c.cap, .int .i64 c.node, .int .i64 c.bat, .int .i64 c.chunk, .int .u64 c.lim, .int .u64 c.most] 24)).alloc (.cells #[.int .u8 0, .int .i64 0, .int .i64 0] 30) := ⟨_, rfl⟩
  have HI : Hid (IsCf W0 w.heap.size c) := Lib.hid (by rw [hW0]; exact (cf_lit w c _ rfl).same (Below.heap_alloc _ _ _ (by simp)))
  have R0 : IsPl W0 (w.heap.size + 1) ⟨0, 0, 0⟩ := ⟨by rw [hW0]; simp [go_sem], by rw [hW0]; simp [go_sem], by rw [hW0]; simp [go_sem]⟩
  have Z0 : ∀ j, W0.frozen? ⟨w.heap.size + 1, j, none⟩ = false := fun j => by rw [hW0]; simp [go_sem]
  have hb0 : Below w.heap.size w W0 := by rw [hW0]; exact below_two _ _ _
  have HR := Lib.hid R0
  have HZ0 := Lib.hid Z0
  have HB0 := Lib.hid hb0
  obtain ⟨r, hr⟩ : ∃ r, w.heap.size = r := ⟨_, rfl⟩
  have HRr := Lib.hid hr
  rw [hr] at HI HR HZ0
  clear R0 Z0 hb0
  go_wp2
  rw [← hW0]
  try rw [hr]
  clear hW0 hr
  go_loopg [5] 10 (fun g pv wr => ∃ p : Nat, 1 ≤ p ∧ p ≤ 11 ∧ g = 11 - p ∧ pv = .int .u8 p ∧ Below W0.heap.size W0 wr ∧ Hid (Past c z p 0 0))
  case atStart => exact ⟨1, by omega, by omega, rfl, rfl, Below.refl _ _, Lib.hid (past_start c z)⟩
  case round =>
    obtain ⟨p, hp1, hp11, rfl, rfl, hbr, hpast⟩ := hrel
    by_cases hp : p ≤ 10
    · have I := HI.out.same (hbr.block _ HI.out.lt)
      have f0 := I 0 _ rfl
      have f1 := I 1 _ rfl
      have f2 := I 2 _ rfl
      have f3 := I 3 _ rfl
      have f4 := I 4 _ rfl
      have f5 := I 5 _ rfl
      have f6 := I 6 _ rfl
      have f7 := I 7 _ rfl
      have f8 := I 8 _ rfl
      have f9 := I 9 _ rfl
      have f10 := I 10 _ rfl
      have f11 := I 11 _ rfl
      clear I
      have hc := HC.out (p : Int)
      obtain ⟨h16, h128, _⟩ := HP.out (p : Int)
      obtain ⟨M, hM⟩ : ∃ M, cntA c (p : Int) = M := ⟨_, rfl⟩
      obtain ⟨N, hN⟩ : ∃ N, cntB c (p : Int) = N := ⟨_, rfl⟩
      have HM := Lib.hid hM
      have HN := Lib.hid hN
      rw [hM] at hc h16
      rw [hN] at hc h128
      clear hM hN
      go_wp2_with fail
      refine (hc _).mono ?_
      rintro e w2 ⟨rfl, hb2⟩
      have hbr2 := below_then hbr hb2
      clear f0 f1 f2 f3 f4 f5 f6 f7 f8 f9 f10 f11 hc hb2 hbr
      go_wp2
      go_loopg [8] M (fun g av wa => ∃ a : Nat, a ≤ M ∧ g = M - a ∧ av = .int .i64 a ∧ Below W0.heap.size W0 wa ∧ Hid (Past c z p a 0))
      case atStart => exact ⟨0, by omega, rfl, rfl, hbr2, hpast⟩
      case round =>
        clear hpast hbr2
        obtain ⟨a, haM, rfl, rfl, hba, hpa⟩ := hrel
        by_cases ha : a < M
        · go_wp2
          go_loopg [9] N (fun g bv wb => ∃ b : Nat, b ≤ N ∧ g = N - b ∧ bv = .int .i64 b ∧ Below W0.heap.size W0 wb ∧ Hid (Past c z p a b))
          case atStart => exact ⟨0, by omega, rfl, rfl, hba, hpa⟩
          case round =>
            clear hpa hba
            obtain ⟨b, hbN, rfl, rfl, hbb, hpb⟩ := hrel
            by_cases hb : b < N
            · have hq0 : hasB c ⟨(p : Nat), (a : Nat), (b : Nat)⟩ = true := by unfold hasB; simp only [decide_eq_true_eq]; rw [HM.out, HN.out]; omega
              have hw := HWh.out ⟨(p : Nat), (a : Nat), (b : Nat)⟩ hq0
              have I := HI.out.same (hbb.block _ HI.out.lt)
              have f0 := I 0 _ rfl
              have f1 := I 1 _ rfl
              have f2 := I 2 _ rfl
              have f3 := I 3 _ rfl
              have f4 := I 4 _ rfl
              have f5 := I 5 _ rfl
              have f6 := I 6 _ rfl
              have f7 := I 7 _ rfl
              have f8 := I 8 _ rfl
              have f9 := I 9 _ rfl
              have f10 := I 10 _ rfl
              have f11 := I 11 _ rfl
              have hr1 := I.lt
              clear I
              have hsz := hbb.size
              have hrlt := HR.out.lt
              unfold plv at hw
              simp only at hw
              go_wp2_with fail
              refine (hw _).mono ?_
              rintro e w3 ⟨rfl, hb3⟩
              have hbb3 := below_then hbb (below_b1 hb3)
              by_cases e : wh c ⟨(p : Nat), (a : Nat), (b : Nat)⟩ = z
              · have EV := Lib.hid (past_hit HOk.out hq0 e)
                have q0 : w3.cell? ⟨wr.heap.size, 0, none⟩ = some (.int .u8 p) := (hb3.cell (by simp)).trans (by simp [go_sem])
                have q1 : w3.cell? ⟨wr.heap.size, 1, none⟩ = some (.int .i64 a) := (hb3.cell (by simp)).trans (by simp [go_sem])
                have q2 : w3.cell? ⟨wr.heap.size, 2, none⟩ = some (.int .i64 b) := (hb3.cell (by simp)).trans (by simp [go_sem])
                obtain ⟨r0, r1, r2⟩ := HR.out.same (hbb3.block _ hrlt)
                have z0 := (hbb3.frozen (p := ⟨r + 1, 0, none⟩) hrlt).trans (HZ0.out 0)
                have z1 := (hbb3.frozen (p := ⟨r + 1, 1, none⟩) hrlt).trans (HZ0.out 1)
                have z2 := (hbb3.frozen (p := ⟨r + 1, 2, none⟩) hrlt).trans (HZ0.out 2)
                rw [e]
                clear f0 f1 f2 f3 f4 f5 f6 f7 f8 f9 f10 f11 hb3 hw hr1
                go_wp2
                have G := set_place3 (y := ⟨(p : Nat), (a : Nat), (b : Nat)⟩) (y0 := ⟨0, 0, 0⟩) (W := w3) (a := r + 1) ⟨r0, r1, r2⟩
                obtain ⟨t0, t1, t2⟩ := G
                simp only at t0 t1 t2
                refine bodyPost_ret (v := plv ⟨(p : Nat), (a : Nat), (b : Nat)⟩) ?_ rfl ⟨by rw [EV.out], ?_⟩
                · unfold plv
                  simp [results, Tryd.results35, go_sem, t0, t1, t2]
                · have hbw := below_then HB0.out hbb3
                  rw [HRr.out] at hbw ⊢
                  exact ((hbw.setCell (by simp only; omega) _).setCell (by simp only; omega) _).setCell (by simp only; omega) _
              · have HPB := Lib.hid (past_b hpb.out e)
                have ee : ((wh c ⟨(p : Nat), (a : Nat), (b : Nat)⟩ : Nat) : Int) = (z : Int) → False := fun h => e (by omega)
                generalize wh c ⟨(p : Nat), (a : Nat), (b : Nat)⟩ = x at *
                have ee2 : ((x : Int) == (z : Int)) = false := by simp; omega
                clear f0 f1 f2 f3 f4 f5 f6 f7 f8 f9 f10 f11 hb3 hw hr1 e ee
                go_wp2
                go_roundg (N - (b + 1))
                case measure => omega
                case rel => exact ⟨b + 1, by omega, rfl, by go_num, hbb3, HPB⟩
            · obtain rfl : b = N := by omega
              go_wp2
              go_roundg (M - (a + 1))
              case measure => omega
              case rel => exact ⟨a + 1, by omega, rfl, by go_num, hbb, Lib.hid (past_a hpb.out (by rw [HN.out]; omega))⟩
        · obtain rfl : a = M := by omega
          go_wp2
          go_roundg (11 - (p + 1))
          case measure => omega
          case rel => exact ⟨p + 1, by omega, by omega, rfl, by go_num, hba, Lib.hid (past_p hpa.out (by rw [HM.out]; omega))⟩
    · obtain rfl : p = 11 := by omega
      exact (past_end HOk.out hpast.out HZ.out).elim
end Go.Proofs.YtmnlfhpkfgfpoaaDoor
