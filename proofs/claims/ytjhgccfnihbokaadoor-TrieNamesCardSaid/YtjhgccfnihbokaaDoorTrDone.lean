/- An operation that is done alone on a list of cells, as the laws of a table of routes do it. -/
import Derived.Test.YtjhgccfnihbokaaDoorTrGo
import Derived.Test.YtjhgccfnihbokaaDoorTrP
import Derived.Test.YtjhgccfnihbokaaDoorGRg
import Derived.Deep.LoopGhost
import Derived.Deep.DeepCutAuto
import Derived.Deep.RegionHeld3
import Derived.Deep.CutRange
namespace Go.Proofs.YtjhgccfnihbokaaDoor
open Go.RowKit Go.Lib Pt Opn

/-- The cells, the answer, the places, whether it is done. -/
def DoneD (z : List Q4 × (Int × Nat) × List Nat × Bool) (w : World) (e : Ending) (w' : World) : Prop :=
  ∃ A d u, e = .returned (.tuple #[.slice A z.1.length d, .agg #[.int .i64 z.2.1.1, .int .u32 (z.2.1.2 : Nat), .slice none 0 0], u, .bool z.2.2.2]) ∧ (A = none → z.1.length = 0 ∧ d = 0) ∧ IsL w' A 4 q4L z.1 ∧ MadeX w' w.heap.size 3 1 natL u z.2.2.1 ∧ Below w.heap.size w w'
/-- What a round finds. -/
def InvT (c : Cf) (w : World) (N cb rb fb : Nat) (cs : List Q4) (f : Ds) (ps : List Nat) (k : Nat) (A : Option Addr) (d : Nat) (u : Value) (wr : World) : Prop :=
  cs.length = N ∧ (∀ x ∈ cs, QWf x) ∧ DWf f ∧ ps.length ≤ k ∧ (A = none → N = 0 ∧ d = 0) ∧ (0 < N → ∀ b o, A = some ⟨b, o, none⟩ → b < w.heap.size ∨ fb < b) ∧ IsL wr A 4 q4L cs ∧ MadeX wr (fb + 1) 3 1 natL u ps ∧
    wr.heap[cb]? = some (.cells #[.int .u8 c.obj, .int .i64 c.inst, .int .i64 c.thr, .int .u8 c.kind, .int .i64 c.str, .int .i64 c.bits, .int .i64 c.cap, .int .i64 c.node, .int .i64 c.bat, .int .i64 c.chunk, .int .u64 c.lim, .int .u64 c.most] 30 (0, 0)) ∧
    (0 < N → ∀ b o, A = some ⟨b, o, none⟩ → u.ownBlock ≠ some b) ∧ wr.heap[rb]? = some (.cells #[.int .i64 0, .int .u32 0, .slice none 0 0] 59 (0, 0)) ∧ wr.heap[fb]? = some (.cells (frA f) 32 (0, 0)) ∧ Below w.heap.size w wr ∧ w.heap.size ≤ cb ∧ cb < fb ∧ w.heap.size ≤ rb ∧ rb < fb ∧ cb ≠ rb

theorem first_of (w : World) (a b c : Obj) : (((w.alloc a).alloc b).alloc c).heap[w.heap.size]? = some a := by
  rw [heap_alloc_old _ _ (by simp <;> omega), heap_alloc_old _ _ (by simp <;> omega)]; exact heap_alloc_new w a
theorem cells3 {w : World} {g : Nat} {a b c : Value} {t : TypeId} (h : w.heap[g]? = some (.cells #[a, b, c] t (0, 0))) :
    w.cell? ⟨g, 0, none⟩ = some a ∧ w.frozen? ⟨g, 0, none⟩ = false ∧ w.cell? ⟨g, 1, none⟩ = some b ∧ w.frozen? ⟨g, 1, none⟩ = false ∧ w.cell? ⟨g, 2, none⟩ = some c ∧ w.frozen? ⟨g, 2, none⟩ = false := by
  refine ⟨?_, ?_, ?_, ?_, ?_, ?_⟩ <;> simp [World.cell?, World.frozen?, h]
theorem int_info : (Tryd.prog.info? 3).map (fun i => (i.zero, i.size, i.bytes)) = some (some (.int .i64 0), 1, 8) := by kernel_rfl
theorem nat_one {n : Nat} : ∀ u ∈ natL n, u.oneCell' = true := fun u hu => by
  simp [natL] at hu
  subst hu
  rfl
theorem natBoxed (w : World) (a : Obj) (n : Nat) (t : TypeId) (j : Nat) (u : Value) (h : (natL n)[j]? = some u) : ((w.alloc a).alloc (.cells #[.int .i64 (n : Nat)] t)).cell? ⟨w.heap.size + 1, 0 + j, none⟩ = some u := by
  have hj : j = 0 := by have := (List.getElem?_eq_some_iff.1 h).1; rw [natL_len] at this; omega
  subst hj
  have e : u = .int .i64 (n : Nat) := by simpa [natL] using h.symm
  subst e
  have h2 : ((w.alloc a).alloc (.cells #[.int .i64 (n : Nat)] t)).heap[w.heap.size + 1]? = some (.cells #[.int .i64 (n : Nat)] t (0, 0)) := by simpa using heap_alloc_new (w.alloc a) (.cells #[.int .i64 (n : Nat)] t)
  unfold World.cell?
  rw [h2]
  rfl
theorem act_two {w : World} {xs : Array Value} {t : TypeId} {j : Nat} {v : Value} (o : Obj) (oA : Obj) (h : oA = .cells xs t) (hv : xs[j]? = some v := by rfl) : ((w.alloc oA).alloc o).cell? ⟨w.heap.size, j, none⟩ = some v := by
  subst h
  have h2 : ((w.alloc (.cells xs t)).alloc o).heap[w.heap.size]? = some (.cells xs t (0, 0)) := by
    rw [heap_alloc_old _ _ (by simp)]
    exact heap_alloc_new w _
  unfold World.cell?
  rw [h2]
  exact hv
theorem cellQ_info : (Tryd.prog.info? 37).map (fun i => (i.zero, i.size, i.bytes)) = some (some (.agg #[.int .u64 0, .int .u64 0, .int .u64 0, .int .u64 0]), 4, 32) := by kernel_rfl
theorem own_q4 {w : World} {B : Nat} {e : TypeId} {v : Value} {l : List Q4} (h : MadeX w B e 4 q4L v l) (hl : 0 < l.length) : ∃ g cap, v = .slice (some ⟨g, 0, none⟩) l.length cap ∧ B ≤ g ∧ g < w.heap.size ∧ (∀ o, w.frozen? ⟨g, o, none⟩ = false) ∧ IsL w (some ⟨g, 0, none⟩) 4 q4L l := by
  obtain ⟨A, c, e1, _, _, h1⟩ := MadeX.form q4L_len h
  rcases h.2 with ⟨_, h0⟩ | ⟨g, cap, cur, g1, g2, g3, _⟩
  · omega
  · rw [e1] at g1
    injection g1 with g1 _ g4
    subst g1 g4
    exact ⟨g, c, e1, g2, (Array.getElem?_eq_some_iff.1 g3).1, fun o => by unfold World.frozen?; rw [g3]; simp, h1⟩
theorem hx_len {N : Nat} {l : List Q4} (h : l.length = N) (A : Option Addr) (d : Nat) : Value.slice A N d = .slice A l.length d := by rw [h]
theorem hA_len {N : Nat} {l : List Q4} {A : Option Addr} {d : Nat} (h : l.length = N) (h2 : A = none → N = 0 ∧ d = 0) : A = none → l.length = 0 ∧ d = 0 := by rw [h]; exact h2
theorem len_le1 {N : Nat} {l : List Q4} (h : l.length = N) (h2 : N ≤ 1000) : ([] : List Q4).length + l.length ≤ 9223372036854775807 := by simp; omega
theorem len_le2 {N : Nat} {l : List Q4} (h : l.length = N) (h2 : N ≤ 1000) : (([] : List Q4).length + l.length) * 32 ≤ 140737488351232 := by simp; omega
theorem Obs.drew' {W : World} (h : Obs W) : Obs W.drew := h
theorem Obs.alloc' {W : World} (h : Obs W) (o : Obj) : Obs (W.alloc o) := h.below (below_one _ _)
theorem natBox1 (w : World) (n : Nat) (t : TypeId) (j : Nat) (u : Value) (h : (natL n)[j]? = some u) : (w.alloc (.cells #[.int .i64 (n : Nat)] t)).cell? ⟨w.heap.size, 0 + j, none⟩ = some u := by
  have hj : j = 0 := by have := (List.getElem?_eq_some_iff.1 h).1; rw [natL_len] at this; omega
  subst hj
  have e : u = .int .i64 (n : Nat) := by simpa [natL] using h.symm
  subst e
  unfold World.cell?
  rw [heap_alloc_new]
  rfl
theorem wr_cell {w3 w6 : World} {lit : Obj} (hb6 : Below w3.heap.size (w3.alloc lit) w6) {b j : Nat} {v : Value} (hc : w3.cell? ⟨b, j, none⟩ = some v) : w6.cell? ⟨b, j, none⟩ = some v :=
  (hb6.cell (p := ⟨b, j, none⟩) (World.block_lt_of_cell? _ _ hc)).trans (((below_one w3 lit).cell (p := ⟨b, j, none⟩) (World.block_lt_of_cell? _ _ hc)).trans hc)
theorem set4z {w : World} {g : Nat} {l : List Q4} {i : Nat} (hi : i < l.length) (h : IsL w (some ⟨g, 0, none⟩) 4 q4L l) (a b c : Nat) :
    IsL ((((w.setCell ⟨g, i * 4, none⟩ (.int .u64 0)).setCell ⟨g, i * 4 + 1, none⟩ (.int .u64 (a : Nat))).setCell ⟨g, i * 4 + 2, none⟩ (.int .u64 (b : Nat))).setCell ⟨g, i * 4 + 3, none⟩ (.int .u64 (c : Nat))) (some ⟨g, 0, none⟩) 4 q4L (l.set i (0, a, b, c)) := set4 hi h (0, a, b, c)
theorem bdrew (w : World) : Below w.heap.size w w.drew := ⟨rfl, rfl, rfl, Nat.le_refl _, fun _ _ => rfl⟩
theorem stored_grown (w : World) (g o : Nat) (x : Value) : w.grownBy (w.setCell ⟨g, o, none⟩ x) (some g) :=
  ⟨rfl, rfl, rfl, by simp [World.setCell], fun i _ hne => Below.heap_setCell w ⟨g, o, none⟩ x i (fun e => hne (by rw [e]))⟩
theorem madeX_down {X : Type} {s : Nat} {L : X → List Value} {e : TypeId} {w : World} {B B' : Nat} {v : Value} {l : List X} (h : MadeX w B e s L v l) (hB : B' ≤ B) : MadeX w B' e s L v l := by
  refine ⟨h.1, ?_⟩
  rcases h.2 with h | ⟨g, cap, cur, g1, g2, g3⟩
  · exact .inl h
  · exact .inr ⟨g, cap, cur, g1, Nat.le_trans hB g2, g3⟩
theorem madeX_set {X : Type} {s : Nat} {L : X → List Value} {e : TypeId} {w : World} {B g : Nat} {v : Value} {l : List X} (h : MadeX w B e s L v l) (hg : g < B) (o : Nat) (x : Value) : MadeX (w.setCell ⟨g, o, none⟩ x) B e s L v l :=
  h.grown (row := some g) (stored_grown w g o x) (.inr fun e => by have := (h.lt g e).1; omega)
theorem isl_set {w : World} {X : Type} {s : Nat} {L : X → List Value} {A : Option Addr} {l : List X} {g : Nat} (h : IsL w A s L l) (hA : 0 < l.length → ∀ b o, A = some ⟨b, o, none⟩ → b ≠ g) (o : Nat) (x : Value) : IsL (w.setCell ⟨g, o, none⟩ x) A s L l := by
  by_cases hl : 0 < l.length
  · exact isl_far h (hA hl) fun b j hb => World.cell?_setCell_other _ _ _ _ (fun e => hb (by injection e with e; exact e.symm))
  · intro i y hy
    have := (List.getElem?_eq_some_iff.1 hy).1
    omega
/-- The answer is laid down, and what is behind it. -/
theorem leaf_done {w Y : World} {rb fb : Nat} {cs : List Q4} {A : Option Addr} {u : Value} {ps : List Nat} {a b c : Value} {t : TypeId} (hrb : Y.heap[rb]? = some (.cells #[a, b, c] t (0, 0))) (h0 : w.heap.size ≤ rb) (hr : rb < fb) (hbY : Below w.heap.size w Y) (hl : IsL Y A 4 q4L cs)
    (hfar : 0 < cs.length → ∀ b o, A = some ⟨b, o, none⟩ → b < w.heap.size ∨ fb < b) (hm : MadeX Y (fb + 1) 3 1 natL u ps) (x y z : Value) (o : Obj) :
    let F := (((Y.setCell ⟨rb, 0, none⟩ x).setCell ⟨rb, 1, none⟩ y).setCell ⟨rb, 2, none⟩ z).alloc o
    (F.cell? ⟨rb, 0, none⟩ = some x ∧ F.cell? ⟨rb, 1, none⟩ = some y ∧ F.cell? ⟨rb, 2, none⟩ = some z) ∧ IsL F A 4 q4L cs ∧ MadeX F w.heap.size 3 1 natL u ps ∧ Below w.heap.size w F := by
  intro F
  obtain ⟨r0, _, r1, _, r2, _⟩ := cells3 hrb
  have hs : rb < (((Y.setCell ⟨rb, 0, none⟩ x).setCell ⟨rb, 1, none⟩ y).setCell ⟨rb, 2, none⟩ z).heap.size := by simpa [World.setCell] using (Array.getElem?_eq_some_iff.1 hrb).1
  have hk : ∀ j, F.cell? ⟨rb, j, none⟩ = (((Y.setCell ⟨rb, 0, none⟩ x).setCell ⟨rb, 1, none⟩ y).setCell ⟨rb, 2, none⟩ z).cell? ⟨rb, j, none⟩ := fun j => (below_one _ o).cell (p := ⟨rb, j, none⟩) hs
  have hf : 0 < cs.length → ∀ b o, A = some ⟨b, o, none⟩ → b ≠ rb := fun h b o e => by have := hfar h b o e; omega
  refine ⟨⟨?_, ?_, ?_⟩, ?_, ?_, ?_⟩
  · rw [hk]; simp [set_off, set_on, r0]
  · rw [hk]; simp [set_off, set_on, r1]
  · rw [hk]; simp [set_off, set_on, r2]
  · exact (isl_set (isl_set (isl_set hl hf _ _) hf _ _) hf _ _).below (below_one _ _)
  · exact madeX_down ((madeX_set (madeX_set (madeX_set hm (by omega) _ _) (by omega) _ _) (by omega) _ _).alloc o) (by omega)
  · have hq := ((hbY.setCell (p := ⟨rb, 0, none⟩) h0 x).setCell (p := ⟨rb, 1, none⟩) h0 y).setCell (p := ⟨rb, 2, none⟩) h0 z
    exact hq.alloc hq.size o

/-- The answer is laid down, and what is behind it. -/
theorem leaf_done0 {w Y : World} {rb fb : Nat} {cs : List Q4} {A : Option Addr} {u : Value} {ps : List Nat} {a b c : Value} {t : TypeId} (hrb : Y.heap[rb]? = some (.cells #[a, b, c] t (0, 0))) (h0 : w.heap.size ≤ rb) (hr : rb < fb) (hbY : Below w.heap.size w Y) (hl : IsL Y A 4 q4L cs)
    (hfar : 0 < cs.length → ∀ b o, A = some ⟨b, o, none⟩ → b < w.heap.size ∨ fb < b) (hm : MadeX Y (fb + 1) 3 1 natL u ps) (x y z : Value) :
    let F := ((Y.setCell ⟨rb, 0, none⟩ x).setCell ⟨rb, 1, none⟩ y).setCell ⟨rb, 2, none⟩ z
    (F.cell? ⟨rb, 0, none⟩ = some x ∧ F.cell? ⟨rb, 1, none⟩ = some y ∧ F.cell? ⟨rb, 2, none⟩ = some z) ∧ IsL F A 4 q4L cs ∧ MadeX F w.heap.size 3 1 natL u ps ∧ Below w.heap.size w F := by
  intro F
  obtain ⟨r0, _, r1, _, r2, _⟩ := cells3 hrb
  have hf : 0 < cs.length → ∀ b o, A = some ⟨b, o, none⟩ → b ≠ rb := fun h b o e => by have := hfar h b o e; omega
  refine ⟨⟨?_, ?_, ?_⟩, ?_, ?_, ?_⟩
  · simp [F, set_off, set_on, r0]
  · simp [F, set_off, set_on, r1]
  · simp [F, set_off, set_on, r2]
  · exact isl_set (isl_set (isl_set hl hf _ _) hf _ _) hf _ _
  · exact madeX_down (madeX_set (madeX_set (madeX_set hm (by omega) _ _) (by omega) _ _) (by omega) _ _) (by omega)
  · have hq := ((hbY.setCell (p := ⟨rb, 0, none⟩) h0 x).setCell (p := ⟨rb, 1, none⟩) h0 y).setCell (p := ⟨rb, 2, none⟩) h0 z
    exact hq

set_option maxRecDepth 100000 in
set_option maxHeartbeats 16000000 in
theorem done_any (c : Cf) (A : Option Addr) (d : Nat) (cs : List Q4) (o : O) (ho : Wf o) (hl : cs.length ≤ 1000) (hAn : A = none → cs.length = 0 ∧ d = 0) (hq : ∀ x ∈ cs, QWf x) (w : World) (hO : Obs w) (h : IsL w A 4 q4L cs) :
    Calls Tryd.prog 19 #[cfv c, .slice A cs.length d, opv o] w (DoneD (goT c 40 cs (startF o) []) w) := by
  have HOb := Lib.hid hO
  clear hO
  have HS := Lib.hid (fun W => gStart_any o ho W)
  obtain ⟨Z, hZ⟩ : ∃ Z, goT c 40 cs (startF o) [] = Z := ⟨_, rfl⟩
  have HF := Lib.hid (show DWf (startF o) by unfold Wf at ho; unfold DWf startF; simp only; omega)
  rw [hZ]
  have HZ := Lib.hid hZ
  obtain ⟨f0, hf0⟩ : ∃ f, startF o = f := ⟨_, rfl⟩
  rw [hf0] at HS HF HZ
  obtain ⟨N, hN⟩ : ∃ N, cs.length = N := ⟨_, rfl⟩
  rw [hN] at hl hAn ⊢
  have HI := Lib.hid (And.intro hN (And.intro hAn (And.intro hq h)))
  clear hZ hf0 hN hAn hq h ho
  obtain ⟨P, hP⟩ : ∃ P, P = DoneD Z w := ⟨_, rfl⟩
  rw [← hP]
  have HP := Lib.hid hP
  clear hP
  unfold cfv opv frv at *
  go_enter Tryd.func19, Tryd.ntmps19
  go_wp2_with fail
  refine (HS.out _).mono ?_
  rintro e w1 ⟨rfl, hb1⟩
  have hcb := blk_below (first_of w _ _ _) hb1
  have hrb := blk_below (new_third w _ _ _) hb1
  have hb01 := below_then (below_three w _ _ _) hb1
  have hz : w.heap.size + 1 + 1 < w1.heap.size := (Array.getElem?_eq_some_iff.1 hrb).1
  obtain ⟨W, hW⟩ : ∃ W, W = w1.alloc (.cells (frA f0) 32) := ⟨_, rfl⟩
  have HI0 : InvT c w N w.heap.size (w.heap.size + 1 + 1) w1.heap.size cs f0 [] 0 A d (.slice none 0 0) W := by
    obtain ⟨i1, i2, i3, i4⟩ := HI.out
    have hbW : Below w.heap.size w W := by rw [hW]; exact below_then hb01 (below_one _ _)
    refine ⟨i1, i3, HF.out, Nat.zero_le _, i2, fun hN b o e => ?_, i4.below hbW, MadeX.nil _ _ _ _ _, ?_, fun _ _ _ _ e => by simp [Value.ownBlock] at e, ?_, ?_, hbW, Nat.le_refl _, by omega, by omega, hz, by omega⟩
    · left
      subst e
      cases cs with
      | nil => simp at i1; omega
      | cons x l =>
        obtain ⟨b', off, e1, h1⟩ := i4 0 x rfl
        injection e1 with e1
        injection e1 with e1 _ _
        rw [e1]
        exact World.block_lt_of_cell? _ _ (h1 0 _ rfl)
    · rw [hW]; exact blk_below hcb (below_one _ _)
    · rw [hW]; exact blk_below hrb (below_one _ _)
    · rw [hW]; exact heap_alloc_new _ _
  have HJ := Lib.hid HI0
  obtain ⟨fb, hfb⟩ : ∃ fb, w1.heap.size = fb := ⟨_, rfl⟩
  rw [hfb] at HJ
  clear hcb hrb hb01 HI0 hb1 HI
  go_wp2_with fail
  rw [← hfb, hfb]
  have hW' : w1.alloc (.cells (frA f0) 32) = W := hW.symm
  unfold frA at hW'
  rw [hW']
  clear hW hW' hfb hz
  go_loopw [1, 11, 12] (fun u1 u11 u12 wr => ∃ (k : Nat) (cs' : List Q4) (f : Ds) (ps : List Nat) (A' : Option Addr) (d' : Nat), k ≤ 40 ∧ u12 = .int .i64 k ∧ u1 = .slice A' N d' ∧ Hid (goT c (40 - k) cs' f ps = Z ∧ InvT c w N w.heap.size (w.heap.size + 1 + 1) fb cs' f ps k A' d' u11 wr)) (fun _ _ iv _ => 40 - (RowKit.intOf iv).toNat)
  case atStart => exact ⟨0, cs, f0, [], A, d, by omega, rfl, rfl, Lib.hid ⟨HZ.out, HJ.out⟩⟩
  case round =>
    obtain ⟨k, cs', f, ps, A', d', hk, rfl, rfl, HR⟩ := hrel
    clear HZ HJ HF HS
    have i1 : (0 : Int) ≤ (k : Int) := by omega
    by_cases hlt : k < 40
    · have i2 : (k : Int) < 40 := by omega
      obtain ⟨hgo, hinv⟩ := HR.out
      obtain ⟨n, hn⟩ : ∃ n, 40 - k = n + 1 := ⟨39 - k, by omega⟩
      rw [hn] at hgo
      obtain ⟨v1, v2, v3, v4, v5, v6, v7, v8, v9, v18, v10, v11, v12, v13, v14, v15, v16, v17⟩ := hinv
      have HOr := Lib.hid (HOb.out.below v12)
      have HNX := Lib.hid (tNext_any c f v3 wr HOr.out)
      have hwx : (nextT c f).1.a < 18446744073709551616 ∧ (nextT c f).1.b < 18446744073709551616 ∧ (nextT c f).1.c < 18446744073709551616 := by have := nextT_wf (c := c) v3; omega
      unfold goT at hgo
      obtain ⟨⟨X, e⟩, hX⟩ : ∃ z, nextT c f = z := ⟨_, rfl⟩
      rw [hX] at HNX hgo hwx
      simp only at hgo hwx
      obtain ⟨k0, k1, k2, k3, k4, k5, k6, k7, k8, k9, k10, k11⟩ := cells12 v9
      obtain ⟨r0, z0, r1, z1, r2, z2⟩ := cells3 v10
      obtain ⟨q0, y0, q1, y1, q2, y2, q3, y3, q4, y4, q5, y5, q6, y6, q7, y7, q8, y8, q9, y9, q10, y10⟩ := cells11 v11
      have HV := Lib.hid (And.intro v6 (And.intro v7 (And.intro v8 (And.intro v12 (And.intro v9 (And.intro v10 v11))))))
      have s0 := (Array.getElem?_eq_some_iff.1 v11).1
      have HNN := Lib.hid hn
      clear v6 v7 v8 v9 v10 v11 v12 HR hX hn
      unfold acv cfv frv at HNX
      by_cases e0 : e = 0
      · subst e0
        rw [if_neg (by simp)] at hgo
        by_cases k4 : X.kind = 4
        · rw [if_pos k4] at hgo
          have k4' : ((X.kind : Int) == 4) = true := by simp [k4]
          clear k4
          go_wp2_with fail
          refine HNX.out.mono ?_
          rintro e' w2 ⟨rfl, hb2⟩
          obtain ⟨hc2, hf2⟩ := bcell hb2
          have s1 : fb < w2.heap.size := Nat.lt_of_lt_of_le s0 hb2.size
          have s2 : w.heap.size + 1 + 1 < w2.heap.size := by omega
          have s3 : w.heap.size < w2.heap.size := by omega
          have s4 : w.heap.size + 1 + 1 < wr.heap.size := by omega
          have s5 : w.heap.size < wr.heap.size := by omega
          obtain ⟨g1, g2, g3, g4, g5, g6, g7⟩ := HV.out
          have HL := Lib.hid (leaf_done (w := w) (blk_below g6 hb2) v15 v16 (g4.trans (hb2.mono g4.size)) (g2.below hb2) (by rw [v1]; exact g1) (g3.below hb2))
          clear g1 g2 g3 g4 g5 g6 g7
          go_wp2_with fail
          go_region
          all_goals go_wp2
          rw [HP.out]
          obtain ⟨⟨x0, x1, x2⟩, l1, l2, l3⟩ := HL.out (.int .i64 X.code) (.int .u32 (X.v : Nat)) (.slice none 0 0) (.cells #[.int .u8 (X.kind : Nat), .int .i64 (X.pl : Nat), .int .u64 (X.a : Nat), .int .u64 (X.b : Nat), .int .u64 (X.c : Nat), .int .i64 X.code, .int .u32 (X.v : Nat)] 26)
          subst hgo
          refine bodyPost_ret (v := .tuple #[.slice A' N d', .agg #[.int .i64 X.code, .int .u32 (X.v : Nat), .slice none 0 0], u11, .bool true]) ?_ rfl ⟨A', d', u11, by simp [v1], by rw [v1]; exact v5, l1.below (bdrew _), l2.below (bdrew _), l3.drew⟩
          simp [results, Tryd.results19, go_sem, x0, x1, x2]
        · rw [if_neg k4] at hgo
          have k4' : ((X.kind : Int) == 4) = false := by simp; omega
          by_cases hin : 1 ≤ X.pl ∧ X.pl < cs'.length ∧ (X.kind = 1 ∨ X.kind = 2)
          · have hpl := hin.2.1
            rw [v1] at hpl
            have p1 : ¬ (X.pl : Int) < 1 := by omega
            have p2 : ¬ (N : Int) ≤ X.pl := by omega
            have p3 : (0 : Int) ≤ X.pl := by omega
            have p4 : (X.pl : Int) < N := by omega
            rw [if_pos hin] at hgo
            have hk12 := hin.2.2
            have hin1 := hin.2.1
            obtain ⟨ds, hds⟩ : ∃ ds, (if X.kind = 2 then cs'.set X.pl (0, X.a, X.b, X.c) else cs') = ds := ⟨_, rfl⟩
            have hdl : ds.length = N := by rw [← hds]; split <;> simp [v1]
            have hdw : ∀ x ∈ ds, QWf x := by
              rw [← hds]
              split
              · intro x hx
                rcases List.mem_or_eq_of_mem_set hx with h | h
                · exact v2 x h
                · rw [h]; exact ⟨by simp, hwx.1, hwx.2.1, hwx.2.2⟩
              · exact v2
            simp only [hds] at hgo
            obtain ⟨⟨ct, ca, cb', cc⟩, hx⟩ : ∃ x, ds[X.pl]? = some x := ⟨_, List.getElem?_eq_getElem (by rw [hdl]; exact hpl)⟩
            rw [hx] at hgo
            simp only [Option.getD_some] at hgo
            have hqx := hdw _ (List.mem_of_getElem? hx)
            unfold QWf at hqx
            simp only at hqx
            have HAF := Lib.hid (fun W hO => tAfter_any c f v3 ct ca cb' cc hqx.1 hqx.2.1 hqx.2.2.1 hqx.2.2.2 W hO)
            have hfw := afterT_wf (c := c) v3 ca cb'
            obtain ⟨⟨G, e2⟩, hG⟩ : ∃ z, afterT c f ca cb' = z := ⟨_, rfl⟩
            rw [hG] at HAF hgo hfw
            simp only at hgo hfw
            have HDS := Lib.hid (And.intro hds (And.intro hin1 (And.intro hdl hdw)))
            clear hG hin hds hdw hwx hqx
            unfold cfv frv at HAF
            go_wp2_with fail
            refine HNX.out.mono ?_
            rintro e' w2 ⟨rfl, hb2⟩
            obtain ⟨hc2, hf2⟩ := bcell hb2
            have s1 : fb < w2.heap.size := Nat.lt_of_lt_of_le s0 hb2.size
            have s2 : w.heap.size + 1 + 1 < w2.heap.size := by omega
            have s3 : w.heap.size < w2.heap.size := by omega
            have s4 : w.heap.size + 1 + 1 < wr.heap.size := by omega
            have s5 : w.heap.size < wr.heap.size := by omega
            go_upto_region 11 with fail
            go_cut [63] (fun s63 wx => s63 = .bool false ∧ Hid (wx = w2.alloc (.cells #[.int .u8 (X.kind : Nat), .int .i64 (X.pl : Nat), .int .u64 (X.a : Nat), .int .u64 (X.b : Nat), .int .u64 (X.c : Nat), .int .i64 X.code, .int .u32 (X.v : Nat)] 26)))
            case first =>
              rcases hk12 with h1 | h1
              · have k1 : ((X.kind : Int) != 1) = false := by simp [h1]
                clear h1
                go_wp2_with fail
                go_meet
                exact ⟨congrArg Value.bool (by simp; omega), Lib.hid rfl⟩
              · have k1 : ((X.kind : Int) != 1) = true := by simp [h1]
                have k2 : ((X.kind : Int) != 2) = false := by simp [h1]
                clear h1
                go_wp2_with fail
                go_meet
                exact ⟨congrArg Value.bool (by simp; omega), Lib.hid rfl⟩
            case rest =>
              obtain ⟨rfl, hwc⟩ := hcut
              obtain ⟨w3, hw3⟩ : ∃ Z, Z = wc := ⟨_, rfl⟩
              subst hw3
              have hb3 : Below w2.heap.size w2 w3 := by rw [hwc.out]; exact below_one _ _
              have hact : w3.heap[w2.heap.size]? = some (.cells #[.int .u8 (X.kind : Nat), .int .i64 (X.pl : Nat), .int .u64 (X.a : Nat), .int .u64 (X.b : Nat), .int .u64 (X.c : Nat), .int .i64 X.code, .int .u32 (X.v : Nat)] 26 (0, 0)) := by rw [hwc.out]; exact heap_alloc_new _ _
              have hsz3 : w3.heap.size = w2.heap.size + 1 := by rw [hwc.out]; simp
              obtain ⟨ac0, -, ac1, -, ac2, -, ac3, -, ac4, -, ac5, -, ac6, -⟩ := cells7 hact
              have hb23 := below_then hb2 hb3
              have HACT := Lib.hid (And.intro ac1 (And.intro hb23 (And.intro hb2 hsz3)))
              have hm3 : ∀ b, b < wr.heap.size → b < w3.heap.size := fun b h => Nat.lt_of_lt_of_le h hb23.size
              have HI3 := Lib.hid (fun o1 => (HV.out.2.1.below hb23).below (below_one w3 o1))
              have hs2 : w2.heap.size < w3.heap.size := by omega
              clear hwc hact hsz3
              go_upto_if 69 with fail
              go_cut [1] (fun s1 wx => ∃ A2 d2, s1 = .slice A2 N d2 ∧ Hid ((A2 = none → N = 0 ∧ d2 = 0) ∧ (0 < N → ∀ b o, A2 = some ⟨b, o, none⟩ → (b < w.heap.size ∨ fb < b) ∧ u11.ownBlock ≠ some b) ∧ IsL wx A2 4 q4L ds ∧ Below w3.heap.size w3 wx))
              case first =>
                rcases hk12 with h1 | h1
                · have k2 : ((X.kind : Int) == 2) = false := by simp [h1]
                  have hres : ds = cs' := by rw [← HDS.out.1, if_neg (by omega)]
                  have HRES := Lib.hid hres
                  clear h1 hres
                  go_wp2_with fail
                  go_meet
                  refine ⟨A', d', rfl, Lib.hid ⟨v5, fun hN b o e => ⟨HV.out.1 hN b o e, v18 hN b o e⟩, ?_, Below.refl _ _⟩⟩
                  rw [HRES.out]
                  exact HV.out.2.1.below hb23
                · have k2 : ((X.kind : Int) == 2) = true := by simp [h1]
                  have hres : ds = cs'.set X.pl (0, X.a, X.b, X.c) := by rw [← HDS.out.1, if_pos h1]
                  have HRES := Lib.hid hres
                  clear h1 hres
                  go_wp2_with (at_builtin
                               refine wpList_joinX (w0 := w3.alloc _) rfl (.tmp 70) (.tmp 71) _ rfl Tryd.underlying47 cellQ_info rfl (by decide) (B := w3.heap.size) (l := []) (m := cs') (A := A') (c := d') q4L_len rfl (World.ownsRow_lit w3 #[] 0 (Nat.le_refl _) (by unfold maxLen; omega) rfl) (hx_len v1 A' d') (hA_len v1 v5) (HI3.out _) q4_one (len_le1 v1 hl) (len_le2 v1 hl) (by simp) (Below.refl _ _) ?_
                               intro v6' w6 hM6 hb6 hg6
                               obtain ⟨gq, cap, hv6, hgB, hgl, hfr, hIS⟩ := own_q4 (l := cs') hM6.out (by omega)
                               rw [v1] at hv6
                               subst hv6
                               have a1 := wr_cell hb6 ac1
                               have a2 := wr_cell hb6 ac2
                               have a3 := wr_cell hb6 ac3
                               have a4 := wr_cell hb6 ac4
                               have o0 := isl_at hIS (List.getElem?_eq_getElem HDS.out.2.1) 0 _ rfl
                               rw [Nat.add_zero] at o0
                               have o1 := isl_at hIS (List.getElem?_eq_getElem HDS.out.2.1) 1 _ rfl
                               have o2 := isl_at hIS (List.getElem?_eq_getElem HDS.out.2.1) 2 _ rfl
                               have o3 := isl_at hIS (List.getElem?_eq_getElem HDS.out.2.1) 3 _ rfl
                               have HQQ := Lib.hid (And.intro hgB (And.intro hIS hb6))
                               clear hgB hIS hb6 hM6 hg6 ac1 ac2 ac3 ac4)
                  go_meet
                  refine ⟨some ⟨gq, 0, none⟩, cap, rfl, Lib.hid ⟨nofun, fun hN b o e => ?_, ?_, ?_⟩⟩
                  · injection e with e
                    injection e with e _ _
                    subst e
                    have h1 := HQQ.out.1
                    have h2 := HACT.out.2.1.size
                    refine ⟨.inr (by omega), fun e' => ?_⟩
                    have h3 := (HV.out.2.2.1.lt _ e').2
                    omega
                  · rw [HRES.out]
                    exact set4z HDS.out.2.1 HQQ.out.2.1 X.a X.b X.c
                  · have h1 := HQQ.out.1
                    refine ((((Below.trans (below_one w3 _) HQQ.out.2.2).setCell (p := ⟨gq, _, none⟩) h1 _).setCell (p := ⟨gq, _, none⟩) h1 _).setCell (p := ⟨gq, _, none⟩) h1 _).setCell (p := ⟨gq, _, none⟩) h1 _
              case rest =>
                obtain ⟨A2, dd2, rfl, HWR⟩ := hcut
                obtain ⟨wb, hwb⟩ : ∃ Z, Z = wc := ⟨_, rfl⟩
                subst hwb
                have hbb : Below wr.heap.size wr wb := below_then hb23 HWR.out.2.2.2
                obtain ⟨bA, off, rfl, hel⟩ := HWR.out.2.2.1 X.pl _ hx
                have hap := (HWR.out.2.1 (by omega) bA off rfl).2
                have hac : wb.cell? ⟨w2.heap.size, 1, none⟩ = some (.int .i64 (X.pl : Nat)) := (HWR.out.2.2.2.cell (p := ⟨w2.heap.size, 1, none⟩) hs2).trans ac1
                have hs2b : w2.heap.size < wb.heap.size := Nat.lt_of_lt_of_le hs2 HWR.out.2.2.2.size
                have hb2s := hb2.size
                obtain ⟨g1, g2, g3, g4, g5, g6, g7⟩ := HV.out
                have HM := Lib.hid (fun o2 => (g3.below hbb).below (below_one wb o2))
                have HBQ := Lib.hid (fun o2 => (show Below (fb + 1) wr (wb.alloc o2) from (below_then hbb (below_one wb o2)).mono (by omega)))
                clear g1 g2 g3 g4 g5 g6 g7 hk12 ac0 ac1 ac2 ac3 ac4 ac5 ac6
                go_wp2_with (at_builtin
                             refine wpList_pushX (w0 := wr) rfl (.tmp 84) (.tmp 87) _ rfl Tryd.underlying62 int_info rfl (by decide) (by decide) (B := fb + 1) (L := natL) (l := ps) X.pl rfl rfl (HM.out _) wb.heap.size 0 1 rfl (fun j u h => natBox1 _ _ _ j u h) nat_one (by omega) (by omega) (HBQ.out _) ?_
                             intro v4' w4 hM4 hb4 hg4 ho4)
                have hsz4 := hb4.size
                have hne : ∀ b, b ≤ fb ∨ wr.heap.size ≤ b → some b ≠ u11.ownBlock := fun b hb e => by have := HV.out.2.2.1.lt b e.symm; omega
                have bAlt : bA < wb.heap.size := World.block_lt_of_cell? _ _ (hel 0 _ rfl)
                have hszb : wb.heap.size < w4.heap.size := Nat.lt_of_lt_of_le (by simp) hg4.out.size
                have K4 := Lib.hid (fun j v (h : (q4L (ct, ca, cb', cc))[j]? = some v) => hg4.out.cell (((below_one wb _).cell (p := ⟨bA, off + X.pl * 4 + j, none⟩) bAlt).trans (hel j v h)) (fun e => hap e.symm))
                have e0 := K4.out 0 (.int .u64 (ct : Nat)) rfl
                rw [Nat.add_zero] at e0
                have e1 := K4.out 1 (.int .u64 (ca : Nat)) rfl
                have e2' := K4.out 2 (.int .u64 (cb' : Nat)) rfl
                have e3 := K4.out 3 (.int .u64 (cc : Nat)) rfl
                have ka := hg4.out.cell (a := ⟨w2.heap.size, 1, none⟩) (v := .int .i64 (X.pl : Nat)) (((below_one wb _).cell (p := ⟨w2.heap.size, 1, none⟩) hs2b).trans hac) (hne _ (.inr hb2.size))
                obtain ⟨g1, g2, g3, g4, g5, g6, g7⟩ := HV.out
                have m5 := (hb4.block w.heap.size (by omega)).trans g5
                have m6 := (hb4.block (w.heap.size + 1 + 1) (by omega)).trans g6
                have m7 := (hb4.block fb (by omega)).trans g7
                have HL4 := Lib.hid (fun i x (h : ds[i]? = some x) => HWR.out.2.2.1 i x h)
                have O4 := HOb.out.below (g4.trans (hb4.mono (by omega)))
                obtain ⟨kk0, kk1, kk2, kk3, kk4, kk5, kk6, kk7, kk8, kk9, kk10, kk11⟩ := cells12 m5
                obtain ⟨ff0, -, ff1, -, ff2, -, ff3, -, ff4, -, ff5, -, ff6, -, ff7, -, ff8, -, ff9, -, ff10, -⟩ := cells11 m7
                have u1 : w.heap.size < w4.heap.size := by omega
                have u2 : fb < w4.heap.size := by omega
                have u3 : bA < w4.heap.size := Nat.lt_trans bAlt hszb
                have u4 := World.block_lt_of_cell? _ _ ka
                simp only at u4
                have M67 := Lib.hid (And.intro m6 (And.intro m7 (And.intro hb2 (And.intro hb4 (And.intro hap (And.intro hne hel))))))
                have V17 := Lib.hid (And.intro hdl (And.intro HDS.out.2.2.2 (And.intro v4 (And.intro HWR.out.1 (And.intro v13 (And.intro v14 (And.intro v15 (And.intro v16 (And.intro v17 (And.intro hfw (And.intro hgo hx)))))))))))
                have S0 := Lib.hid (And.intro s0 (And.intro hpl (And.intro hsz4 (And.intro bAlt (And.intro hszb O4)))))
                clear g1 g2 g3 g4 g5 g6 g7 m5 m6 m7 hc2 hf2 k0 k1 k2 k3 k5 k6 k7 k8 k9 k10 k11 r0 r1 r2 z0 z1 z2 q0 q1 q2 q3 q4 q5 q6 q7 q8 q9 q10 y0 y1 y2 y3 y4 y5 y6 y7 y8 y9 y10
                try clear hb2
                try clear hb4
                try clear hap
                try clear hne
                try clear hel
                try clear v1
                try clear v2
                try clear v4
                try clear v5
                try clear v13
                try clear v14
                try clear v15
                try clear v16
                try clear v17
                try clear hfw
                try clear hgo
                try clear hx
                try clear s0
                try clear s1
                try clear s2
                try clear s3
                try clear s4
                try clear s5
                try clear p1
                try clear p2
                try clear k1
                try clear k2
                try clear k4
                try clear k4'
                try clear h2
                try clear hwx
                try clear hqx
                try clear hpl
                try clear hsz4
                try clear bAlt
                try clear v3
                try clear v18
                try clear hl
                try clear hin1
                try clear hdl
                try clear hbb
                try clear hb3
                try clear hb23
                try clear hm3
                try clear hs2
                try clear hs2b
                try clear hb2s
                try clear hac
                try clear HM
                try clear HBQ
                try clear HI3
                try clear HACT
                try clear HNX
                go_cut [15, 16] (fun s15 s16 wx => ∃ g : Nat, s15 = .pointer (some ⟨g, 0, none⟩) ∧ s16 = .int .i64 e2 ∧ Hid (MidT w4 G g wx))
                case first =>
                  go_region_held3 (fun W => w4.heap.size ≤ W.heap.size ∧ ∀ b o, b < w4.heap.size → W.cell? ⟨b, o, none⟩ = w4.cell? ⟨b, o, none⟩)
                    (first
                      | with_reducible exact keep_set11 (keep_below hb5 (keep1 w4 _)) _ (Nat.le_refl _) _ _ _ _ _ _ _ _ _ _ _
                      | with_reducible exact keep0 w4
                      | with_reducible exact keep1 w4 _
                      | with_reducible exact keep_below hb5 (keep1 w4 _)
                      | with_reducible exact keep_below hb5 (keep0 w4)
                      | with_reducible exact keep_alloc (keep_below hb5 (keep0 w4)) _
                      | fail)
                    (first
                      | ((with_reducible refine (HAF.out _ (by first | exact O4.drew' | exact (O4.alloc' _).drew')).mono ?_); rintro e w5 ⟨rfl, hb5⟩; have hq5 := held_cells hb5; obtain ⟨qa0, qf0, qa1, qf1, qa2, qf2, qa3, qf3, qa4, qf4, qa5, qf5, qa6, qf6, qa7, qf7, qa8, qf8, qa9, qf9, qa10, qf10⟩ := hq5)
                      | ((with_reducible refine (HAF.out _ (by first | exact O4.drew' | exact (O4.alloc' _).drew')).mono ?_); rintro e w5 ⟨rfl, hb5⟩))
                  all_goals
                    go_wp2_with fail
                    go_meet
                    first
                      | with_reducible exact ⟨_, rfl, rfl, Lib.hid (midT_first hb5)⟩
                      | with_reducible exact ⟨_, rfl, rfl, Lib.hid (midT_last hb5)⟩
                case rest =>
                  obtain ⟨g, rfl, rfl, HMid⟩ := hcut
                  obtain ⟨c1, c2, c3, c4⟩ := HMid.out
                  obtain ⟨d0, d1, d2, d3, d4, d5, d6, d7, d8, d9, d10⟩ := c1.cells
                  obtain ⟨m6, m7, hb2, hb4, hap, hne, hel⟩ := M67.out
                  obtain ⟨v1, v2, v4, v5, v13, v14, v15, v16, v17, hfw, hgo, hx⟩ := V17.out
                  obtain ⟨s0, hpl, hsz4, bAlt, hszb, -⟩ := S0.out
                  have n6 := (c4.block _ (by omega)).trans m6
                  have n7 := (c4.block _ (by omega)).trans m7
                  have HLX := Lib.hid (show IsL wc (some ⟨bA, off, none⟩) 4 q4L ds from fun i x h => by
                    obtain ⟨b', o', e, h1⟩ := HL4.out i x h
                    refine ⟨b', o', e, fun j u hu => ?_⟩
                    injection e with e
                    injection e with e1 e2 _
                    subst e1 e2
                    have h2 := hg4.out.cell (((below_one wb _).cell (p := ⟨bA, off + i * 4 + j, none⟩) bAlt).trans (h1 j u hu)) (fun e => hap e.symm)
                    exact (c4.cell (World.block_lt_of_cell? _ _ h2)).trans h2)
                  have HMX := Lib.hid (hM4.out.below c4)
                  have hbw := HV.out.2.2.2.1
                  have HBX := Lib.hid (show Below w.heap.size w wc from hbw.trans ((hb4.mono (by omega)).trans (c4.mono (by omega))))
                  have hcb := (c4.block w.heap.size (by omega)).trans ((hb4.block w.heap.size (by omega)).trans HV.out.2.2.2.2.1)
                  have HCB := Lib.hid hcb
                  have HFAR := Lib.hid (show 0 < N → ∀ b o, some (⟨bA, off, none⟩ : Addr) = some ⟨b, o, none⟩ → b < w.heap.size ∨ fb < b from fun hN b o e => (HWR.out.2.1 hN b o e).1)
                  have HAPX := Lib.hid (show v4'.ownBlock ≠ some bA from fun e => by
                    rcases ho4.out with h | h
                    · exact hap (h.symm.trans e)
                    · rw [h] at e
                      injection e with e
                      simp at e
                      omega)
                  clear hbw hcb hap hne hel hM4 hg4 ho4 HL4 HV HMid c4 m6 m7 hb2 hb4 kk0 kk1 kk2 kk3 kk4 kk5 kk6 kk7 kk8 kk9 kk10 kk11 ff0 ff1 ff2 ff3 ff4 ff5 ff6 ff7 ff8 ff9 ff10 e0 e1 e2' e3 ka
                  by_cases h2 : e2 = 0
                  · subst h2
                    rw [if_neg (by simp)] at hgo
                    unfold frA at n7
                    obtain ⟨tt0, tf0, tt1, tf1, tt2, tf2, tt3, tf3, tt4, tf4, tt5, tf5, tt6, tf6, tt7, tf7, tt8, tf8, tt9, tf9, tt10, tf10⟩ := cells11 n7
                    have HINV := Lib.hid (show InvT c w N w.heap.size (w.heap.size + 1 + 1) fb ds G (ps ++ [X.pl]) (k + 1) (some ⟨bA, off, none⟩) dd2 v4' (((((((((((wc.setCell ⟨fb, 0, none⟩ (.int .u8 (G.kind : Nat))).setCell ⟨fb, 1, none⟩ (.int .u32 (G.a : Nat))).setCell ⟨fb, 2, none⟩ (.int .u32 (G.b : Nat))).setCell ⟨fb, 3, none⟩ (.int .u8 (G.pc : Nat))).setCell ⟨fb, 4, none⟩ (.int .u8 (G.i : Nat))).setCell ⟨fb, 5, none⟩ (.int .u8 (G.j : Nat))).setCell ⟨fb, 6, none⟩ (.int .u8 (G.n : Nat))).setCell ⟨fb, 7, none⟩ (.int .u8 (G.p : Nat))).setCell ⟨fb, 8, none⟩ (.int .u8 (G.h : Nat))).setCell ⟨fb, 9, none⟩ (.int .u32 (G.x : Nat))).setCell ⟨fb, 10, none⟩ (.int .u32 (G.y : Nat))) from by
                      have hgr := set11_grown wc fb (.int .u8 (G.kind : Nat)) (.int .u32 (G.a : Nat)) (.int .u32 (G.b : Nat)) (.int .u8 (G.pc : Nat)) (.int .u8 (G.i : Nat)) (.int .u8 (G.j : Nat)) (.int .u8 (G.n : Nat)) (.int .u8 (G.p : Nat)) (.int .u8 (G.h : Nat)) (.int .u32 (G.x : Nat)) (.int .u32 (G.y : Nat))
                      have hbA := HFAR.out (by omega) bA off rfl
                      have hfl := (Array.getElem?_eq_some_iff.1 n7).1
                      refine ⟨v1, v2, hfw, by simp; omega, v5, HFAR.out, fun i x h => ?_, HMX.out.grown hgr (.inr fun e => by have := (HMX.out.lt _ e).1; omega), (hgr.block _ (by omega) (fun e => by injection e; omega)).trans HCB.out, fun _ b o e => ?_, (hgr.block _ (by omega) (fun e => by injection e; omega)).trans n6, set11_heap n7 G, HBX.out.grown hgr HBX.out.size (fun q hq => by injection hq; omega), v13, v14, v15, v16, v17⟩
                      · obtain ⟨b', o', e, h1⟩ := HLX.out i x h
                        refine ⟨b', o', e, fun j u hu => hgr.cell (h1 j u hu) (fun e2 => ?_)⟩
                        injection e with e
                        injection e with e _ _
                        injection e2 with e2
                        simp only at e2
                        omega
                      · injection e with e
                        injection e with e _ _
                        rw [← e]
                        exact HAPX.out)
                    have HGO := Lib.hid hgo
                    have HK := Lib.hid (show 40 - (k + 1) = n by have := HNN.out; omega)
                    clear n6 n7 HLX HMX HBX HCB HFAR HAPX
                    go_wp2_with fail
                    go_roundw
                    case rel => exact ⟨k + 1, ds, G, ps ++ [X.pl], some ⟨bA, off, none⟩, dd2, by omega, by go_num, rfl, Lib.hid ⟨by rw [HK.out]; exact HGO.out, HINV.out⟩⟩
                    case measure => simp [RowKit.intOf]; omega
                  · rw [if_pos h2] at hgo
                    have h3 : (e2 != 0) = true := bne_iff_ne.2 h2
                    obtain ⟨r0, z0, r1, z1, r2, z2⟩ := cells3 n6
                    have HL := Lib.hid (leaf_done0 (w := w) n6 v15 v16 HBX.out HLX.out (by rw [v1]; exact HFAR.out) HMX.out)
                    clear n6 n7 d0 d1 d2 d3 d4 d5 d6 d7 d8 d9 d10
                    go_wp2_with fail
                    rw [HP.out]
                    obtain ⟨⟨x0, x1, x2⟩, l1, l2, l3⟩ := HL.out (.int .i64 0) (.int .u32 0) (.slice none 0 0)
                    subst hgo
                    refine bodyPost_ret (v := .tuple #[.slice (some ⟨bA, off, none⟩) N dd2, .agg #[.int .i64 0, .int .u32 0, .slice none 0 0], v4', .bool false]) ?_ rfl ⟨_, dd2, v4', by simp [v1], by rw [v1]; exact v5, l1, l2, l3⟩
                    simp [results, Tryd.results19, go_sem, x0, x1, x2]
          · rw [if_neg hin] at hgo
            rw [v1] at hin
            have hout : (X.pl : Int) < 1 ∨ (¬ (X.pl : Int) < 1 ∧ (N : Int) ≤ X.pl) ∨ (¬ (X.pl : Int) < 1 ∧ ¬ (N : Int) ≤ X.pl ∧ ((X.kind : Int) != 1) = true ∧ ((X.kind : Int) != 2) = true) := by
              by_cases h1 : X.pl < 1
              · left; omega
              · by_cases h2 : N ≤ X.pl
                · right; left; omega
                · right; right
                  refine ⟨by omega, by omega, bne_iff_ne.2 (by omega), bne_iff_ne.2 (by omega)⟩
            clear hin k4
            rcases hout with o1 | ⟨o1, o2⟩ | ⟨o1, o2, o3, o4⟩
            · go_wp2_with fail
              refine HNX.out.mono ?_
              rintro e' w2 ⟨rfl, hb2⟩
              obtain ⟨hc2, hf2⟩ := bcell hb2
              have s1 : fb < w2.heap.size := Nat.lt_of_lt_of_le s0 hb2.size
              have s2 : w.heap.size + 1 + 1 < w2.heap.size := by omega
              have s3 : w.heap.size < w2.heap.size := by omega
              have s4 : w.heap.size + 1 + 1 < wr.heap.size := by omega
              have s5 : w.heap.size < wr.heap.size := by omega
              obtain ⟨g1, g2, g3, g4, g5, g6, g7⟩ := HV.out
              have HL := Lib.hid (leaf_done (w := w) (blk_below g6 hb2) v15 v16 (g4.trans (hb2.mono g4.size)) (g2.below hb2) (by rw [v1]; exact g1) (g3.below hb2))
              clear g1 g2 g3 g4 g5 g6 g7
              go_wp2_with fail
              rw [HP.out]
              obtain ⟨⟨x0, x1, x2⟩, l1, l2, l3⟩ := HL.out (.int .i64 0) (.int .u32 0) (.slice none 0 0) (.cells #[.int .u8 (X.kind : Nat), .int .i64 (X.pl : Nat), .int .u64 (X.a : Nat), .int .u64 (X.b : Nat), .int .u64 (X.c : Nat), .int .i64 X.code, .int .u32 (X.v : Nat)] 26)
              subst hgo
              refine bodyPost_ret (v := .tuple #[.slice A' N d', .agg #[.int .i64 0, .int .u32 0, .slice none 0 0], u11, .bool false]) ?_ rfl ⟨A', d', u11, by simp [v1], by rw [v1]; exact v5, l1, l2, l3⟩
              simp [results, Tryd.results19, go_sem, x0, x1, x2]
            · go_wp2_with fail
              refine HNX.out.mono ?_
              rintro e' w2 ⟨rfl, hb2⟩
              obtain ⟨hc2, hf2⟩ := bcell hb2
              have s1 : fb < w2.heap.size := Nat.lt_of_lt_of_le s0 hb2.size
              have s2 : w.heap.size + 1 + 1 < w2.heap.size := by omega
              have s3 : w.heap.size < w2.heap.size := by omega
              have s4 : w.heap.size + 1 + 1 < wr.heap.size := by omega
              have s5 : w.heap.size < wr.heap.size := by omega
              obtain ⟨g1, g2, g3, g4, g5, g6, g7⟩ := HV.out
              have HL := Lib.hid (leaf_done (w := w) (blk_below g6 hb2) v15 v16 (g4.trans (hb2.mono g4.size)) (g2.below hb2) (by rw [v1]; exact g1) (g3.below hb2))
              clear g1 g2 g3 g4 g5 g6 g7
              go_wp2_with fail
              rw [HP.out]
              obtain ⟨⟨x0, x1, x2⟩, l1, l2, l3⟩ := HL.out (.int .i64 0) (.int .u32 0) (.slice none 0 0) (.cells #[.int .u8 (X.kind : Nat), .int .i64 (X.pl : Nat), .int .u64 (X.a : Nat), .int .u64 (X.b : Nat), .int .u64 (X.c : Nat), .int .i64 X.code, .int .u32 (X.v : Nat)] 26)
              subst hgo
              refine bodyPost_ret (v := .tuple #[.slice A' N d', .agg #[.int .i64 0, .int .u32 0, .slice none 0 0], u11, .bool false]) ?_ rfl ⟨A', d', u11, by simp [v1], by rw [v1]; exact v5, l1, l2, l3⟩
              simp [results, Tryd.results19, go_sem, x0, x1, x2]
            · go_wp2_with fail
              refine HNX.out.mono ?_
              rintro e' w2 ⟨rfl, hb2⟩
              obtain ⟨hc2, hf2⟩ := bcell hb2
              have s1 : fb < w2.heap.size := Nat.lt_of_lt_of_le s0 hb2.size
              have s2 : w.heap.size + 1 + 1 < w2.heap.size := by omega
              have s3 : w.heap.size < w2.heap.size := by omega
              have s4 : w.heap.size + 1 + 1 < wr.heap.size := by omega
              have s5 : w.heap.size < wr.heap.size := by omega
              obtain ⟨g1, g2, g3, g4, g5, g6, g7⟩ := HV.out
              have HL := Lib.hid (leaf_done (w := w) (blk_below g6 hb2) v15 v16 (g4.trans (hb2.mono g4.size)) (g2.below hb2) (by rw [v1]; exact g1) (g3.below hb2))
              clear g1 g2 g3 g4 g5 g6 g7
              go_wp2_with fail
              rw [HP.out]
              obtain ⟨⟨x0, x1, x2⟩, l1, l2, l3⟩ := HL.out (.int .i64 0) (.int .u32 0) (.slice none 0 0) (.cells #[.int .u8 (X.kind : Nat), .int .i64 (X.pl : Nat), .int .u64 (X.a : Nat), .int .u64 (X.b : Nat), .int .u64 (X.c : Nat), .int .i64 X.code, .int .u32 (X.v : Nat)] 26)
              subst hgo
              refine bodyPost_ret (v := .tuple #[.slice A' N d', .agg #[.int .i64 0, .int .u32 0, .slice none 0 0], u11, .bool false]) ?_ rfl ⟨A', d', u11, by simp [v1], by rw [v1]; exact v5, l1, l2, l3⟩
              simp [results, Tryd.results19, go_sem, x0, x1, x2]
      · rw [if_pos e0] at hgo
        have e1 : (e != 0) = true := bne_iff_ne.2 e0
        go_wp2_with fail
        refine HNX.out.mono ?_
        rintro e' w2 ⟨rfl, hb2⟩
        obtain ⟨hc2, hf2⟩ := bcell hb2
        have s1 : fb < w2.heap.size := Nat.lt_of_lt_of_le s0 hb2.size
        have s2 : w.heap.size + 1 + 1 < w2.heap.size := by omega
        have s3 : w.heap.size < w2.heap.size := by omega
        have s4 : w.heap.size + 1 + 1 < wr.heap.size := by omega
        have s5 : w.heap.size < wr.heap.size := by omega
        obtain ⟨g1, g2, g3, g4, g5, g6, g7⟩ := HV.out
        have HL := Lib.hid (leaf_done (w := w) (blk_below g6 hb2) v15 v16 (g4.trans (hb2.mono g4.size)) (g2.below hb2) (by rw [v1]; exact g1) (g3.below hb2))
        clear g1 g2 g3 g4 g5 g6 g7
        go_wp2_with fail
        rw [HP.out]
        obtain ⟨⟨x0, x1, x2⟩, l1, l2, l3⟩ := HL.out (.int .i64 0) (.int .u32 0) (.slice none 0 0) (.cells #[.int .u8 (X.kind : Nat), .int .i64 (X.pl : Nat), .int .u64 (X.a : Nat), .int .u64 (X.b : Nat), .int .u64 (X.c : Nat), .int .i64 X.code, .int .u32 (X.v : Nat)] 26)
        subst hgo
        refine bodyPost_ret (v := .tuple #[.slice A' N d', .agg #[.int .i64 0, .int .u32 0, .slice none 0 0], u11, .bool false]) ?_ rfl ⟨A', d', u11, by simp [v1], by rw [v1]; exact v5, l1, l2, l3⟩
        simp [results, Tryd.results19, go_sem, x0, x1, x2]
    · obtain rfl : k = 40 := by omega
      have i2 : ¬ ((40 : Nat) : Int) < 40 := by decide
      obtain ⟨hgo, hinv⟩ := HR.out
      obtain ⟨v1, v2, v3, v4, v5, v6, v7, v8, v9, v18, v10, v11, v12, v13, v14, v15, v16, v17⟩ := hinv
      rw [Nat.sub_self] at hgo
      unfold goT at hgo
      obtain ⟨r0, z0, r1, z1, r2, z2⟩ := cells3 v10
      have HL := Lib.hid (leaf_done0 (w := w) v10 v15 v16 v12 v7 (by rw [v1]; exact v6) v8)
      clear HR v6 v7 v8 v9 v10 v11 v12
      go_wp2_with fail
      rw [HP.out]
      obtain ⟨⟨x0, x1, x2⟩, l1, l2, l3⟩ := HL.out (.int .i64 0) (.int .u32 0) (.slice none 0 0)
      subst hgo
      refine bodyPost_ret (v := .tuple #[.slice A' N d', .agg #[.int .i64 0, .int .u32 0, .slice none 0 0], u11, .bool false]) ?_ rfl ⟨_, d', u11, by simp [v1], by rw [v1]; exact v5, l1, l2, l3⟩
      simp [results, Tryd.results19, go_sem, x0, x1, x2]
end Go.Proofs.YtjhgccfnihbokaaDoor
