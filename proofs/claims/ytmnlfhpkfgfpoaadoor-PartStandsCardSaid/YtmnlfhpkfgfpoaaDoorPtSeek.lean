/- Package part: a place is sought among those of a block. -/
import Derived.Test.YtmnlfhpkfgfpoaaDoorPtPlaces
import Derived.Test.YtmnlfhpkfgfpoaaDoorSearch
import Derived.Shelf.Abstract
namespace Go.Proofs.YtmnlfhpkfgfpoaaDoor
open Go.RowKit Go.Shelf Pt

set_option maxHeartbeats 1000000 in
theorem seek_any (x : Blk) (hs : Small x) (y : Pl) (q : Nat) (w : World) (hq : IsBlk w q x) :
    Calls Tryd.prog 25 #[.int .i64 (x.cnt : Nat), plf q, plv y] w fun e w' => ∃ i : Int, e = .returned (.tuple #[.int .i64 i, .bool (decide (x.Has y))]) ∧ (x.Has y → i = (x.ix y : Nat)) ∧ Below w.heap.size w w' := by
  have hc : x.cnt ≤ 128 := hs.2.2.2.2
  have HQ := Lib.hid hq
  clear hq
  unfold plf plv
  go_enter Tryd.func25, Tryd.ntmps25
  go_wp2_with fail
  obtain ⟨W, hW⟩ : ∃ W, (w.alloc (.cells #[.func (.func 53) #[] #[.pointer (some ⟨q, 0, none⟩)]] 56)).alloc (.cells #[.int .u8 y.p, .int .i64 y.a, .int .i64 y.b] 30) = W := ⟨_, rfl⟩
  obtain ⟨r, hr⟩ : ∃ r, w.heap.size = r := ⟨_, rfl⟩
  have b0 : Below w.heap.size w W := by rw [← hW]; exact below_two _ _ _
  have c0 : W.cell? ⟨r, 0, none⟩ = some (plf q) := by rw [← hW, ← hr]; unfold plf; simp [go_sem]
  have c1 : IsPl W (r + 1) y := by rw [← hW, ← hr]; exact ⟨by simp [go_sem], by simp [go_sem], by simp [go_sem]⟩
  have q1 := HQ.out.below b0
  rw [hW]
  rw [hr] at b0 ⊢
  clear hW
  have hSays : Says 41 #[.pointer (some ⟨r, 0, none⟩), .pointer (some ⟨r + 1, 0, none⟩)] x.cnt (fun i => !aheadB (x.at i) y) W := fun i A hi hA =>
    seek1_any x hs y i (by omega) r (r + 1) q A ((hA.cell (World.block_lt_of_cell? _ _ c0)).trans c0) (q1.below hA)
      ⟨(hA.cell (World.block_lt_of_cell? _ _ c1.1)).trans c1.1, (hA.cell (World.block_lt_of_cell? _ _ c1.2.1)).trans c1.2.1, (hA.cell (World.block_lt_of_cell? _ _ c1.2.2)).trans c1.2.2⟩
  refine (search_any 41 _ x.cnt (by omega) (fun i => !aheadB (x.at i) y) W (enters_of Tryd.func41 (by kernel_rfl) rfl) (fun i j hij _ h => ahead_mono x y hij h) hSays).mono ?_
  rintro e w2 ⟨k, rfl, hk, h1, h2, hb2⟩
  have HS := Lib.hid (sought hk h1 h2)
  have g0 : w2.cell? ⟨r, 0, none⟩ = some (plf q) := (hb2.cell (World.block_lt_of_cell? _ _ c0)).trans c0
  have g1 : w2.cell? ⟨r + 1, 0, none⟩ = some (.int .u8 y.p) := (hb2.cell (World.block_lt_of_cell? _ _ c1.1)).trans c1.1
  have g2 : w2.cell? ⟨r + 1, 1, none⟩ = some (.int .i64 y.a) := (hb2.cell (World.block_lt_of_cell? _ _ c1.2.1)).trans c1.2.1
  have g3 : w2.cell? ⟨r + 1, 2, none⟩ = some (.int .i64 y.b) := (hb2.cell (World.block_lt_of_cell? _ _ c1.2.2)).trans c1.2.2
  have q2 := Lib.hid (q1.below hb2)
  have b2 : Below r w w2 := by rw [← hr] at b0 ⊢; exact below_then b0 hb2
  clear hSays h1 h2 c0 c1 q1 b0 hb2 HQ
  unfold plf at g0
  go_wp2
  have k0 := cell_regrown g0
  have k1 := cell_regrown g1
  have k2 := cell_regrown g2
  have k3 := cell_regrown g3
  by_cases hlt : k < x.cnt
  · have hd : decide ((k : Int) < (x.cnt : Int)) = true := by simpa using hlt
    have HP := Lib.hid (fun W h => place_any x hs k (by omega) q W h)
    by_cases he : x.at k = y
    · have e0 : ((x.at k).p == y.p) = true := by simp [he]
      have e1 : ((x.at k).a == y.a) = true := by simp [he]
      have e2 : ((x.at k).b == y.b) = true := by simp [he]
      unfold plv at HP
      refine wp_region_quiet_below (by kernel_rfl) (by kernel_rfl) ?_
      repeat (go_big_quiet_step (exact Calls.regrown_of (HP.out _ (q2.out.regrown _ _))))
      refine wpQuiet_nil ?_
      intro W3 hw'
      obtain ⟨⟨dq, osq⟩, hw''⟩ := hw'
      have hb3 := below_regrown w2 dq osq
      rw [← hw''] at hb3
      clear hw'' k0 k1 k2 k3
      go_wp2
      go_ret2
      exact ⟨k, by rw [decide_eq_true (HS.out.1.2 ⟨hlt, he⟩)]; rfl, fun h => by rw [HS.out.2 h], by rw [hr]; exact b2.trans (hb3.mono (by have := b2.size; omega))⟩
    · by_cases e0 : (x.at k).p = y.p
      · by_cases e1 : (x.at k).a = y.a
        · have e2 : ¬ (x.at k).b = y.b := fun e => he (Pl.ext' e0 e1 e)
          have f0 : ((x.at k).p == y.p) = true := by simpa using e0
          have f1 : ((x.at k).a == y.a) = true := by simpa using e1
          have f2 : ((x.at k).b == y.b) = false := by simpa using e2
          unfold plv at HP
          refine wp_region_quiet_below (by kernel_rfl) (by kernel_rfl) ?_
          repeat (go_big_quiet_step (exact Calls.regrown_of (HP.out _ (q2.out.regrown _ _))))
          refine wpQuiet_nil ?_
          intro W3 hw'
          obtain ⟨⟨dq, osq⟩, hw''⟩ := hw'
          have hb3 := below_regrown w2 dq osq
          rw [← hw''] at hb3
          clear hw'' k0 k1 k2 k3
          go_wp2
          go_ret2
          exact ⟨k, by rw [decide_eq_false (fun h => he (HS.out.1.1 h).2)]; rfl, fun h => absurd (HS.out.1.1 h).2 he, by rw [hr]; exact b2.trans (hb3.mono (by have := b2.size; omega))⟩
        · have f0 : ((x.at k).p == y.p) = true := by simpa using e0
          have f1 : ((x.at k).a == y.a) = false := by simpa using e1
          unfold plv at HP
          refine wp_region_quiet_below (by kernel_rfl) (by kernel_rfl) ?_
          repeat (go_big_quiet_step (exact Calls.regrown_of (HP.out _ (q2.out.regrown _ _))))
          refine wpQuiet_nil ?_
          intro W3 hw'
          obtain ⟨⟨dq, osq⟩, hw''⟩ := hw'
          have hb3 := below_regrown w2 dq osq
          rw [← hw''] at hb3
          clear hw'' k0 k1 k2 k3
          go_wp2
          go_ret2
          exact ⟨k, by rw [decide_eq_false (fun h => he (HS.out.1.1 h).2)]; rfl, fun h => absurd (HS.out.1.1 h).2 he, by rw [hr]; exact b2.trans (hb3.mono (by have := b2.size; omega))⟩
      · have f0 : ((x.at k).p == y.p) = false := by simpa using e0
        unfold plv at HP
        refine wp_region_quiet_below (by kernel_rfl) (by kernel_rfl) ?_
        repeat (go_big_quiet_step (exact Calls.regrown_of (HP.out _ (q2.out.regrown _ _))))
        refine wpQuiet_nil ?_
        intro W3 hw'
        obtain ⟨⟨dq, osq⟩, hw''⟩ := hw'
        have hb3 := below_regrown w2 dq osq
        rw [← hw''] at hb3
        clear hw'' k0 k1 k2 k3
        go_wp2
        go_ret2
        exact ⟨k, by rw [decide_eq_false (fun h => he (HS.out.1.1 h).2)]; rfl, fun h => absurd (HS.out.1.1 h).2 he, by rw [hr]; exact b2.trans (hb3.mono (by have := b2.size; omega))⟩
  · have hd : decide ((k : Int) < (x.cnt : Int)) = false := by simpa using hlt
    refine wp_region_quiet_below (by kernel_rfl) (by kernel_rfl) ?_
    repeat (go_big_quiet_step (fail))
    refine wpQuiet_nil ?_
    intro W3 hw'
    obtain ⟨⟨dq, osq⟩, hw''⟩ := hw'
    have hb3 := below_regrown w2 dq osq
    rw [← hw''] at hb3
    clear hw'' k0 k1 k2 k3
    go_wp2
    go_ret2
    exact ⟨k, by rw [decide_eq_false (fun h => hlt (HS.out.1.1 h).1)]; rfl, fun h => absurd (HS.out.1.1 h).1 hlt, by rw [hr]; exact b2.trans (hb3.mono (by have := b2.size; omega))⟩
end Go.Proofs.YtmnlfhpkfgfpoaaDoor
