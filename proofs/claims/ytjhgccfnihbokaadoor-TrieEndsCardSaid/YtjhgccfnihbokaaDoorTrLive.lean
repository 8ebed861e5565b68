/- The chapter's examples of a table of routes, as the laws ask them ahead of each of their questions. -/
import Derived.Test.YtjhgccfnihbokaaDoorTrAlive
namespace Go.Proofs.YtjhgccfnihbokaaDoor
open Go.RowKit Go.Lib Pt Opn

/-- Behind the first operation. -/
def LiveT (w : World) (A : Option Addr) (u : Value) (rb : Nat) (wx : World) : Prop :=
  A ≠ none ∧ IsL wx A 4 q4L exL ∧ MadeX wx w.heap.size 3 1 natL u [13, 1, 1, 1, 3, 3, 6, 6, 13, 13] ∧ Below w.heap.size w wx ∧ w.heap.size ≤ rb ∧ wx.cell? ⟨rb, 0, none⟩ = some (.int .i64 0) ∧ wx.cell? ⟨rb, 1, none⟩ = some (.int .u32 0)

theorem some_of {X : World} {A : Option Addr} (h : IsL X A 4 q4L exL) : A ≠ none := fun e => by
  obtain ⟨b, off, e2, _⟩ := h 0 (0, 0, 0, 0) rfl
  rw [e] at e2
  cases e2

theorem isl_zerosE (w : World) (g : Nat) (hg : w.heap.size = g) (t : TypeId) : IsL (w.alloc (.cells (madeCells #[.int .u64 0, .int .u64 0, .int .u64 0, .int .u64 0] 64) t)) (some ⟨g, 0, none⟩) 4 q4L (List.replicate 16 (0, 0, 0, 0)) := by
  subst hg
  exact isl_zeros w 16 t
theorem IsL.drew' {X : Type} {w : World} {A : Option Addr} {s : Nat} {L : X → List Value} {l : List X} (h : IsL w A s L l) : IsL w.drew A s L l := h
theorem tdone_ins (A : Option Addr) (d : Nat) (w : World) (hO : Obs w) (h : IsL w A 4 q4L (List.replicate 16 (0, 0, 0, 0))) :
    Calls Tryd.prog 19 #[cfv cfT, .slice A 16 d, .agg #[.int .u8 1, .int .u32 5, .int .u32 3, .int .u32 7]] w (fun e w' => ∃ A d u, e = .returned (.tuple #[.slice A 16 d, .agg #[.int .i64 0, .int .u32 0, .slice none 0 0], u, .bool true]) ∧ IsL w' A 4 q4L exL ∧ MadeX w' w.heap.size 3 1 natL u [13, 1, 1, 1, 3, 3, 6, 6, 13, 13] ∧ Below w.heap.size w w') := by
  have := done_any cfT A d (List.replicate 16 (0, 0, 0, 0)) ⟨1, 5, 3, 7⟩ (by unfold Wf; simp) (by simp) (fun e => by
    obtain ⟨b, off, e2, _⟩ := h 0 (0, 0, 0, 0) rfl
    rw [e] at e2
    cases e2) (by decide) w hO h
  rw [go_ins] at this
  refine this.mono ?_
  rintro e w' ⟨A, d, u, rfl, _, h1, h2, h3⟩
  exact ⟨A, d, u, rfl, h1, h2, h3⟩
theorem tdone_look (A : Option Addr) (d : Nat) (w : World) (hO : Obs w) (h : IsL w A 4 q4L exL) :
    Calls Tryd.prog 19 #[cfv cfT, .slice A 16 d, .agg #[.int .u8 3, .int .u32 5, .int .u32 0, .int .u32 0]] w (fun e w' => ∃ A d u, e = .returned (.tuple #[.slice A 16 d, .agg #[.int .i64 0, .int .u32 8, .slice none 0 0], u, .bool true]) ∧ IsL w' A 4 q4L exL ∧ MadeX w' w.heap.size 3 1 natL u [1, 3, 6, 13] ∧ Below w.heap.size w w') := by
  have := done_any cfT A d exL ⟨3, 5, 0, 0⟩ (by unfold Wf; simp) (by decide) (fun e => absurd e (some_of h)) (by decide) w hO h
  rw [go_look] at this
  refine this.mono ?_
  rintro e w' ⟨A, d, u, rfl, _, h1, h2, h3⟩
  exact ⟨A, d, u, rfl, h1, h2, h3⟩

theorem made_len {w : World} {B : Nat} {e : TypeId} {u : Value} {l : List Nat} (h : MadeX w B e 1 natL u l) (N : Nat) (hN : l.length = N) : ∃ A c, u = .slice A N c ∧ IsL w A 1 natL l := by
  obtain ⟨A, c, e1, _, _, h1⟩ := MadeX.form natL_len h
  exact ⟨A, c, by rw [e1, hN], h1⟩
theorem same_true (A B : Option Addr) (l : List Nat) (c d : Nat) (hl : l.length ≤ 9223372036854775807) (w : World) (h : IsL w A 1 natL l) (g : IsL w B 1 natL l) :
    Calls Tryd.prog 26 #[.slice A l.length c, .slice B l.length d] w (Ret (.bool true) w) := by
  have := sameAt_any A B l l c d hl w h g
  rw [decide_eq_true rfl] at this
  exact this
theorem isl_nat_litE (w : World) (g : Nat) (hg : w.heap.size = g) (l : List Nat) (t : TypeId) : IsL (w.alloc (.cells (l.map fun n => Value.int .i64 (n : Nat)).toArray t)) (some ⟨g, 0, none⟩) 1 natL l := fun i x hx => by
  subst hg
  refine ⟨_, 0, rfl, fun j v hv => ?_⟩
  have hj : j = 0 := by have := (List.getElem?_eq_some_iff.1 hv).1; rw [natL_len] at this; omega
  subst hj
  have e : v = .int .i64 (x : Nat) := by simpa [natL] using hv.symm
  subst e
  unfold World.cell?
  rw [heap_alloc_new]
  simp [hx]
theorem undrew {X Y : World} (h : Below X.drew.heap.size X.drew Y) : Below X.heap.size X Y := ⟨h.os, h.tape, h.output, h.size, h.block⟩
theorem far_res {X : World} {A : Option Addr} {rb : Nat} {x y z : Value} {t : TypeId} (hrb : X.heap[rb]? = some (.cells #[x, y, z] t (0, 0))) (hx : ∀ n, x ≠ .int .u64 n) (hy : ∀ n, y ≠ .int .u64 n) (hz : ∀ n, z ≠ .int .u64 n) (hI : IsL X A 4 q4L exL) : ∀ b o, A = some ⟨b, o, none⟩ → b ≠ rb := fun b o e e2 => by
  subst e2
  obtain ⟨b', off, e3, h⟩ := hI 0 (0, 0, 0, 0) rfl
  rw [e] at e3
  injection e3 with e3
  injection e3 with e3 e4 _
  subst e3 e4
  have h0 := h 0 (.int .u64 0) rfl
  unfold World.cell? at h0
  rw [hrb] at h0
  simp only [Nat.zero_mul, Nat.add_zero] at h0
  have hlt := (Array.getElem?_eq_some_iff.1 h0).1
  simp at hlt
  rcases (show o = 0 ∨ o = 1 ∨ o = 2 by omega) with rfl | rfl | rfl
  · exact hx 0 (by simpa using h0)
  · exact hy 0 (by simpa using h0)
  · exact hz 0 (by simpa using h0)
theorem live_new {w w2 : World} {A : Option Addr} {u : Value} {B : Nat} {t : TypeId} (hI : IsL w2 A 4 q4L exL) (hM : MadeX w2 B 3 1 natL u [13, 1, 1, 1, 3, 3, 6, 6, 13, 13]) (hw2 : Below w.heap.size w w2) (hB : w.heap.size ≤ B) :
    LiveT w A u w2.heap.size (w2.alloc (.cells #[.int .i64 0, .int .u32 0, .slice none 0 0] t)) := by
  refine ⟨some_of hI, hI.below (below_one _ _), madeX_down (hM.alloc _) hB, hw2.alloc hw2.size _, hw2.size, ?_, ?_⟩
  · unfold World.cell?
    rw [heap_alloc_new]
    rfl
  · unfold World.cell?
    rw [heap_alloc_new]
    rfl
theorem live_old {w w2 : World} {A : Option Addr} {u : Value} {B rb : Nat} {t : TypeId} (hrb : w2.heap[rb]? = some (.cells #[.int .i64 0, .int .u32 0, .slice none 0 0] t (0, 0))) (hI : IsL w2 A 4 q4L exL) (hM : MadeX w2 B 3 1 natL u [13, 1, 1, 1, 3, 3, 6, 6, 13, 13]) (hw2 : Below w.heap.size w w2) (hB : w.heap.size ≤ B) (hrB : rb < B) (hw : w.heap.size ≤ rb) :
    LiveT w A u rb (((w2.setCell ⟨rb, 0, none⟩ (.int .i64 0)).setCell ⟨rb, 1, none⟩ (.int .u32 0)).setCell ⟨rb, 2, none⟩ (.slice none 0 0)) := by
  obtain ⟨r0, _, r1, _, r2, _⟩ := cells3 hrb
  have hf := far_res hrb (fun n e => by cases e) (fun n e => by cases e) (fun n e => by cases e) hI
  refine ⟨some_of hI, isl_set (isl_set (isl_set hI (fun _ => hf) _ _) (fun _ => hf) _ _) (fun _ => hf) _ _, madeX_down (madeX_set (madeX_set (madeX_set hM hrB _ _) hrB _ _) hrB _ _) hB, ((hw2.setCell (p := ⟨rb, 0, none⟩) hw _).setCell (p := ⟨rb, 1, none⟩) hw _).setCell (p := ⟨rb, 2, none⟩) hw _, hw, ?_, ?_⟩
  · simp [set_off, set_on, r0]
  · simp [set_off, set_on, r1]

set_option maxRecDepth 100000 in
set_option maxHeartbeats 16000000 in
theorem talive_any (w : World) (hO : Obs w) : Calls Tryd.prog 11 #[] w (Ret (.bool true) w) := by
  have HOb := Lib.hid hO
  clear hO
  have HC := Lib.hid (fun W => tconf_any W)
  have H1 := Lib.hid (fun A d W hO h => tdone_ins A d W hO h)
  have H2 := Lib.hid (fun A d W hO h => tdone_look A d W hO h)
  unfold cfv cfT at HC H1 H2
  have HMK := fun W => make16 W
  go_enter Tryd.func11, Tryd.ntmps11
  go_upto_region 1 with fail
  go_cut [1, 2, 3, 4] (fun s1 s2 s3 s4 wx => ∃ A d u rb, s1 = .slice A 16 d ∧ s2 = .pointer (some ⟨rb, 0, none⟩) ∧ s3 = u ∧ s4 = .bool true ∧ Hid (LiveT w A u rb wx))
  case first =>
    go_region_with (first
      | ((with_reducible refine (HC.out _).mono ?_); rintro e w1 ⟨rfl, hb1⟩; obtain ⟨hc1, hf1⟩ := bcell hb1; have hs1 := hb1.size; (try simp [heap_drew] at hs1); (try have q1 : w.heap.size < w1.heap.size := by omega); (try have q2 : w.heap.size + 1 < w1.heap.size := by omega); (try have q6 : w.heap.size < w1.heap.size + 1 := by omega); (try have q7 : w.heap.size < w1.heap.size + 1 + 1 := by omega); (try have q8 : w.heap.size + 1 < w1.heap.size + 1 := by omega); try simp [heap_drew] at hc1 hf1)
      | ((with_reducible refine (H1.out _ _ _ (by
            first
              | exact (HOb.out.drew').below hb1
              | exact ((HOb.out.drew').below hb1).alloc' _
              | exact (((HOb.out.drew').below hb1).alloc' _).alloc' _
              | exact ((HOb.out.alloc' _).drew').below hb1
              | exact (((HOb.out.alloc' _).drew').below hb1).alloc' _
              | exact ((((HOb.out.alloc' _).drew').below hb1).alloc' _).alloc' _
              | exact (((HOb.out.alloc' _).alloc' _).drew').below hb1
              | exact ((((HOb.out.alloc' _).alloc' _).drew').below hb1).alloc' _
              | exact (((((HOb.out.alloc' _).alloc' _).drew').below hb1).alloc' _).alloc' _) (by
            first
              | with_reducible exact (isl_zerosE _ _ (by first | rfl | simp) _)
              | with_reducible exact (isl_zerosE _ _ (by first | rfl | simp) _).drew'
              | with_reducible exact (isl_zerosE _ _ (by first | rfl | simp) _).drew'.below hb1
              | with_reducible exact ((isl_zerosE _ _ (by first | rfl | simp) _).below (below_one _ _)).drew'
              | with_reducible exact ((isl_zerosE _ _ (by first | rfl | simp) _).below (below_one _ _)).drew'.below hb1
              | with_reducible exact ((isl_zerosE _ _ (by first | rfl | simp) _).drew'.below hb1).below (below_one _ _)
              | with_reducible exact (isl_zerosE _ _ (by first | rfl | simp) _).below (below_one _ _)
              | with_reducible exact (isl_zerosE _ _ (by first | rfl | simp) _).below hb1)).mono ?_); rintro e w2 ⟨A, d, u, rfl, hI, hM, hb2⟩; obtain ⟨hc2, hf2⟩ := bcell hb2; have hs2 := hb2.size; (try simp at hs2); (try have q3 : w.heap.size < w2.heap.size := by omega); (try have q4 : w1.heap.size < w2.heap.size := by omega); (try have q5 : w1.heap.size + 1 < w2.heap.size := by omega); try simp at hc2 hf2))
    · have hw1 : Below w.heap.size w w1 := undrew hb1
      have hw2 := below_then (below_then hw1 (below_one _ _)) hb2
      have hz1 := (undrew hb1).size
      have hz2 := hb2.size
      simp at hz1 hz2
      have HL := Lib.hid (live_new (t := 59) hI hM hw2 (by first | omega | (simp; done) | (simp; omega)))
      clear hI hM hb1 hb2 hc1 hf1 hc2 hf2 hw1 hw2
      go_wp2_with fail
      go_meet
      exact ⟨A, d, u, _, rfl, rfl, rfl, rfl, HL⟩
    · have hw1 : Below w.heap.size w w1 := undrew hb1
      have hw2 := below_then (below_then hw1 (below_two _ _ _)) hb2
      have hz1 := (undrew hb1).size
      have hz2 := hb2.size
      simp at hz1 hz2
      have HL := Lib.hid (live_old ((hb2.block _ (by simp)).trans (heap_alloc2_new _ _ _)) hI hM hw2 (by first | omega | (simp; done) | (simp; omega)) (by first | omega | (simp; done) | (simp; omega)) (by first | omega | (simp; done) | (simp; omega)))
      clear hI hM hb1 hb2 hc1 hf1 hc2 hf2 hw1 hw2
      go_wp2_with fail
      go_meet
      exact ⟨A, d, u, _, rfl, rfl, rfl, rfl, HL⟩
    · have hw1 : Below w.heap.size w w1 := undrew hb1
      have hw2 := below_then (below_then hw1 (below_two _ _ _)) hb2
      have hz1 := (undrew hb1).size
      have hz2 := hb2.size
      simp at hz1 hz2
      have HL := Lib.hid (live_old ((hb2.block _ (by simp; omega)).trans (heap_alloc2_old _ _ _)) hI hM hw2 (by first | omega | (simp; done) | (simp; omega)) (by first | omega | (simp; done) | (simp; omega)) (by first | omega | (simp; done) | (simp; omega)))
      clear hI hM hb1 hb2 hc1 hf1 hc2 hf2 hw1 hw2
      go_wp2_with fail
      go_meet
      exact ⟨A, d, u, _, rfl, rfl, rfl, rfl, HL⟩
    · have hw1 : Below w.heap.size w w1 := below_then (below_one _ _) (undrew hb1)
      have hw2 := below_then hw1 hb2
      have hz1 := (undrew hb1).size
      have hz2 := hb2.size
      simp at hz1 hz2
      have HL := Lib.hid (live_new (t := 59) hI hM hw2 (by first | omega | (simp; done) | (simp; omega)))
      clear hI hM hb1 hb2 hc1 hf1 hc2 hf2 hw1 hw2
      go_wp2_with fail
      go_meet
      exact ⟨A, d, u, _, rfl, rfl, rfl, rfl, HL⟩
    · have hw1 : Below w.heap.size w w1 := below_then (below_one _ _) (undrew hb1)
      have hw2 := below_then (below_then hw1 (below_one _ _)) hb2
      have hz1 := (undrew hb1).size
      have hz2 := hb2.size
      simp at hz1 hz2
      have HL := Lib.hid (live_old ((hb2.block _ (by simp)).trans (heap_alloc_new _ _)) hI hM hw2 (by first | omega | (simp; done) | (simp; omega)) (by first | omega | (simp; done) | (simp; omega)) (by first | omega | (simp; done) | (simp; omega)))
      clear hI hM hb1 hb2 hc1 hf1 hc2 hf2 hw1 hw2
      go_wp2_with fail
      go_meet
      exact ⟨A, d, u, _, rfl, rfl, rfl, rfl, HL⟩
    · have hw1 : Below w.heap.size w w1 := below_then (below_two _ _ _) (undrew hb1)
      have hw2 := below_then hw1 hb2
      have hz1 := (undrew hb1).size
      have hz2 := hb2.size
      simp at hz1 hz2
      have HL := Lib.hid (live_old ((hb2.block _ (by omega)).trans (((undrew hb1).block _ (by simp)).trans (heap_alloc2_new _ _ _))) hI hM hw2 (by first | omega | (simp; done) | (simp; omega)) (by first | omega | (simp; done) | (simp; omega)) (by first | omega | (simp; done) | (simp; omega)))
      clear hI hM hb1 hb2 hc1 hf1 hc2 hf2 hw1 hw2
      go_wp2_with fail
      go_meet
      exact ⟨A, d, u, _, rfl, rfl, rfl, rfl, HL⟩
    · have hw1 : Below w.heap.size w w1 := below_then (below_one _ _) (undrew hb1)
      have hw2 := below_then (below_then hw1 (below_one _ _)) hb2
      have hz1 := (undrew hb1).size
      have hz2 := hb2.size
      simp at hz1 hz2
      have HL := Lib.hid (live_old ((hb2.block _ (by simp; omega)).trans (((below_one w1 _).block _ (by omega)).trans (((undrew hb1).block _ (by simp)).trans (heap_alloc_new _ _)))) hI hM hw2 (by first | omega | (simp; done) | (simp; omega)) (by first | omega | (simp; done) | (simp; omega)) (by first | omega | (simp; done) | (simp; omega)))
      clear hI hM hb1 hb2 hc1 hf1 hc2 hf2 hw1 hw2
      go_wp2_with fail
      go_meet
      exact ⟨A, d, u, _, rfl, rfl, rfl, rfl, HL⟩
    · have hw1 : Below w.heap.size w w1 := below_then (below_two _ _ _) (undrew hb1)
      have hw2 := below_then hw1 hb2
      have hz1 := (undrew hb1).size
      have hz2 := hb2.size
      simp at hz1 hz2
      have HL := Lib.hid (live_old ((hb2.block _ (by omega)).trans (((undrew hb1).block _ (by simp; omega)).trans (heap_alloc2_old _ _ _))) hI hM hw2 (by first | omega | (simp; done) | (simp; omega)) (by first | omega | (simp; done) | (simp; omega)) (by first | omega | (simp; done) | (simp; omega)))
      clear hI hM hb1 hb2 hc1 hf1 hc2 hf2 hw1 hw2
      go_wp2_with fail
      go_meet
      exact ⟨A, d, u, _, rfl, rfl, rfl, rfl, HL⟩
  case rest =>
    obtain ⟨A, d, u, rb, rfl, rfl, rfl, rfl, HL⟩ := hcut
    obtain ⟨wx, hwx⟩ : ∃ Z, Z = wc := ⟨_, rfl⟩
    subst hwx
    have EQ1 : ∀ W : World, (binOp .eql 37 (.agg #[.int .u64 0, .int .u64 8, .int .u64 1, .int .u64 0]) (.agg #[.int .u64 0, .int .u64 8, .int .u64 1, .int .u64 0])).run Tryd.prog W = .ok (.bool true) W := fun W => by kernel_rfl
    have EQ2 : ∀ W : World, (binOp .eql 37 (.agg #[.int .u64 0, .int .u64 0, .int .u64 1, .int .u64 0]) (.agg #[.int .u64 0, .int .u64 0, .int .u64 1, .int .u64 0])).run Tryd.prog W = .ok (.bool true) W := fun W => by kernel_rfl
    clear HMK H1
    go_wp2_with fail
    refine (HC.out _).mono ?_
    rintro e w3 ⟨rfl, hb3⟩
    go_wp2_with fail
    obtain ⟨l1, l2, l3, l4, l5, l6, l7⟩ := HL.out
    refine (H2.out _ _ _ ((HOb.out.below l4).below hb3) (l2.below hb3)).mono ?_
    rintro e w4 ⟨A2, d2, u2, rfl, m2, m3, hb4⟩
    have hb34 := below_then hb3 hb4
    obtain ⟨Au, cu, rfl, iu⟩ := made_len l3 10 rfl
    obtain ⟨Av, cv, rfl, iv⟩ := made_len m3 4 rfl
    obtain ⟨bA, off, rfl, h13⟩ := l2 13 (0, 8, 1, 0) rfl
    obtain ⟨bA', off', e', h3⟩ := l2 3 (0, 0, 1, 0) rfl
    injection e' with e'
    injection e' with e1 e2 _
    subst e1 e2
    have HX := Lib.hid (And.intro iu (And.intro iv (And.intro hb34 (And.intro h13 (And.intro h3 (And.intro l4 (And.intro l6 l7)))))))
    clear iu iv hb34 h13 h3 l1 l2 l3 l4 l5 l6 l7 m2 m3 hb3 hb4 HC H2 HL
    go_wp2_with fail
    refine (same_true Au _ [13, 1, 1, 1, 3, 3, 6, 6, 13, 13] cu 10 (by decide) _ (((HX.out.1.below HX.out.2.2.1).below (below_one _ _)).below (below_one _ _)) (isl_nat_litE _ _ (by simp) _ _)).mono ?_
    rintro e w5 ⟨rfl, hb5⟩
    have hx4 := HX.out.2.2.1
    have hw5 : Below wx.heap.size wx w5 := below_then (below_then hx4 (below_two w4 _ _)) hb5
    have a0 : w5.cell? ⟨bA, off + 52, none⟩ = some (.int .u64 0) := by
      have h := HX.out.2.2.2.1 0 _ rfl
      exact (hw5.cell (World.block_lt_of_cell? _ _ h)).trans h
    have a1 : w5.cell? ⟨bA, off + 53, none⟩ = some (.int .u64 8) := by
      have h := HX.out.2.2.2.1 1 _ rfl
      exact (hw5.cell (World.block_lt_of_cell? _ _ h)).trans h
    have a2 : w5.cell? ⟨bA, off + 54, none⟩ = some (.int .u64 1) := by
      have h := HX.out.2.2.2.1 2 _ rfl
      exact (hw5.cell (World.block_lt_of_cell? _ _ h)).trans h
    have a3 : w5.cell? ⟨bA, off + 55, none⟩ = some (.int .u64 0) := by
      have h := HX.out.2.2.2.1 3 _ rfl
      exact (hw5.cell (World.block_lt_of_cell? _ _ h)).trans h
    have b0 : w5.cell? ⟨bA, off + 12, none⟩ = some (.int .u64 0) := by
      have h := HX.out.2.2.2.2.1 0 _ rfl
      exact (hw5.cell (World.block_lt_of_cell? _ _ h)).trans h
    have b1 : w5.cell? ⟨bA, off + 13, none⟩ = some (.int .u64 0) := by
      have h := HX.out.2.2.2.2.1 1 _ rfl
      exact (hw5.cell (World.block_lt_of_cell? _ _ h)).trans h
    have b2 : w5.cell? ⟨bA, off + 14, none⟩ = some (.int .u64 1) := by
      have h := HX.out.2.2.2.2.1 2 _ rfl
      exact (hw5.cell (World.block_lt_of_cell? _ _ h)).trans h
    have b3 : w5.cell? ⟨bA, off + 15, none⟩ = some (.int .u64 0) := by
      have h := HX.out.2.2.2.2.1 3 _ rfl
      exact (hw5.cell (World.block_lt_of_cell? _ _ h)).trans h
    have c0 : w5.cell? ⟨rb, 0, none⟩ = some (.int .i64 0) := (hw5.cell (World.block_lt_of_cell? _ _ HX.out.2.2.2.2.2.2.1)).trans HX.out.2.2.2.2.2.2.1
    have c1 : w5.cell? ⟨rb, 1, none⟩ = some (.int .u32 0) := (hw5.cell (World.block_lt_of_cell? _ _ HX.out.2.2.2.2.2.2.2)).trans HX.out.2.2.2.2.2.2.2
    have hr5 := (hb5.block w4.heap.size (by simp; omega)).trans (heap_alloc2_old w4 _ _)
    obtain ⟨r0, -, r1, -, r2, -⟩ := cells3 hr5
    have hs5 : w4.heap.size < w5.heap.size := (Array.getElem?_eq_some_iff.1 hr5).1
    have HW5 := Lib.hid (And.intro hw5 (And.intro hb5 hr5))
    clear hx4 hw5 hb5 hr5
    go_wp2_with fail
    refine (same_true Av _ [1, 3, 6, 13] cv 4 (by decide) _ (((((HX.out.2.1.below (below_one _ _)).below (below_one _ _)).below HW5.out.2.1)).below (below_one _ _)) (isl_nat_litE _ _ (by simp) _ _)).mono ?_
    rintro e w6 ⟨rfl, hb6⟩
    obtain ⟨t0, -, t1, -, t2, -⟩ := cells3 ((hb6.block w4.heap.size (by simp; omega)).trans (((below_one w5 _).block w4.heap.size hs5).trans HW5.out.2.2))
    have hend := below_then (below_then HW5.out.1 (below_one w5 _)) hb6
    have HE := Lib.hid (HX.out.2.2.2.2.2.1.trans (hend.mono HX.out.2.2.2.2.2.1.size))
    clear a0 a1 a2 a3 b0 b1 b2 b3 c0 c1 r0 r1 r2 hb6 hend
    go_wp2_with fail
    go_ret
    exact Ret.mk rfl HE.out
end Go.Proofs.YtjhgccfnihbokaaDoor
