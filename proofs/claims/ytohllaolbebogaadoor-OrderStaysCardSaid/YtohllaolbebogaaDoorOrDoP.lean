/- The program's own Do of an index: what is refused, what does not fit, and each kind of operation; its answer's rows lie apart from the rows. -/
import Derived.Test.YtohllaolbebogaaDoorOrTake
import Derived.Test.YtohllaolbebogaaDoorOrScan
import Derived.Test.YtohllaolbebogaaDoorOrAre
import Derived.Test.YtohllaolbebogaaDoorOrDo
import Derived.Test.YtohllaolbebogaaDoorOrFacts
import Derived.Test.YtohllaolbebogaaDoorOpChk
import Derived.Test.YtohllaolbebogaaDoorObLaid
namespace Go.Proofs.YtohllaolbebogaaDoor
open Go.RowKit Go.Lib Tb Pt Opn

theorem third_new (w : World) (a b c : Obj) : (((w.alloc a).alloc b).alloc c).heap[w.heap.size + 1 + 1]? = some c := by simpa using heap_alloc_new ((w.alloc a).alloc b) c
theorem sl_nil (W : World) : (binOp .eql 22 (.slice none 0 0) (.slice none 0 0)).run Tryd.prog W = .ok (.bool true) W := by kernel_rfl
theorem sl_some (a : Addr) (n d : Nat) (W : World) : (binOp .eql 22 (.slice (some a) n d) (.slice none 0 0)).run Tryd.prog W = .ok (.bool false) W := by kernel_rfl

set_option maxRecDepth 100000 in
set_option maxHeartbeats 1000000 in
theorem clone_any (A : Option Addr) (l : List R) (d : Nat) (hl : l.length ≤ 1000000) (hA : A = none → l.length = 0 ∧ d = 0) (w : World) (h : IsR w A l) :
    Calls Tryd.prog 23 #[.slice A l.length d] w (RetR l w) := by
  have HA := Lib.hid h
  have HN := Lib.hid hA
  clear h hA
  cases A with
  | none =>
    obtain ⟨h1, h2⟩ := HN.out rfl
    obtain rfl : l = [] := List.eq_nil_of_length_eq_zero h1
    subst h2
    have hE := sl_nil
    go_enter Tryd.func23, Tryd.ntmps23
    go_wp2
    go_ret
    exact ⟨_, rfl, MadeX.nil _ _ _ _ _, Below.refl _ _⟩
  | some ad =>
    have hE := sl_some ad
    go_enter Tryd.func23, Tryd.ntmps23
    go_wp2_with (at_builtin
                 refine wpList_joinX (w0 := w) rfl (.tmp 5) (.tmp 6) _ rfl Tryd.underlying22 row_info rfl (by decide) (B := w.heap.size) (l := []) rowL_len rfl (World.ownsRow_lit w #[] 0 (Nat.le_refl _) (by unfold maxLen; omega) rfl) rfl HN.out (HA.out.below (below_one _ _)) row_one (by simp; omega) (by simp; omega) (Nat.le_refl _) (below_one _ _) ?_
                 intro v W Hv hbW Hg)
    go_ret
    exact ⟨_, rfl, Hv.out, hbW⟩

/-- What Do leaves: rows in memory of its own, and an answer whose rows lie apart from them. -/
def Did7 (s : List R × Int × Int × List R) (err : Int) (w : World) (e : Ending) (w' : World) : Prop := ∃ u r, e = .returned (.tuple #[u, .agg #[.int .i64 s.2.1, .int .u32 s.2.2.1, r], .int .i64 err]) ∧
  MadeX w' w.heap.size 37 2 rowL u s.1 ∧ MadeX w' w.heap.size 37 2 rowL r s.2.2.2 ∧ (u.ownBlock = none ∨ u.ownBlock ≠ r.ownBlock) ∧ Below w.heap.size w w'
theorem own_apart (u : Value) : u.ownBlock = none ∨ u.ownBlock ≠ (Value.slice none 0 0).ownBlock := by
  cases h : u.ownBlock with
  | none => exact .inl rfl
  | some b => exact .inr (by simp [Value.ownBlock])

set_option maxRecDepth 100000 in
set_option maxHeartbeats 4000000 in
theorem odo_conf (c : Cf) (A : Option Addr) (N d : Nat) (o : O) (hno : ¬ (Ok c ∧ c.obj = 2)) (w : World) :
    Calls Tryd.prog 11 #[cfv c, .slice A N d, opv o] w (Did7 ([], 0, 0, []) 40 w) := by
  have HM := Lib.hid (oisOf_any c)
  rw [decide_eq_false hno] at HM
  clear hno
  unfold cfv opv at *
  go_enter Tryd.func11, Tryd.ntmps11
  go_wp2_with (go_at_call 21; refine (HM.out _).mono ?_; rintro e w1 ⟨rfl, hb1⟩; obtain ⟨hc1, hf1⟩ := bcell hb1)
  refine bodyPost_ret (v := .tuple #[.slice none 0 0, .agg #[.int .i64 0, .int .u32 0, .slice none 0 0], .int .i64 40]) ?_ rfl ⟨_, _, rfl, MadeX.nil _ _ _ _ _, MadeX.nil _ _ _ _ _, own_apart _, ?_⟩
  · simp [results, Tryd.results11, go_sem, hc1]
  · exact (((below_then (below_three _ _ _ _) hb1).setCell (by simp; omega) _).setCell (by simp; omega) _).setCell (by simp; omega) _

set_option maxRecDepth 100000 in
set_option maxHeartbeats 4000000 in
theorem odo_arg (c : Cf) (A : Option Addr) (l : List R) (d : Nat) (o : O) (hl : l.length ≤ 1000000) (hg : Ok c ∧ c.obj = 2) (hno : ¬ IsOr c l) (w : World) (h : IsR w A l) :
    Calls Tryd.prog 11 #[cfv c, .slice A l.length d, opv o] w (Did7 ([], 0, 0, []) 2 w) := by
  have HM := Lib.hid (oisOf_any c)
  rw [decide_eq_true hg] at HM
  have HR := Lib.hid (fun W hA => oare_any c A l d hl W hA)
  have e : decide ((l.length : Int) ≤ c.cap ∧ Up l ∧ ∀ x ∈ l, OrOk x) = false := decide_eq_false fun g => hno ⟨hg.1, hg.2, g.1, g.2.1, g.2.2⟩
  rw [e] at HR
  have HA := Lib.hid h
  clear e hg hno h
  generalize l.length = N at *
  unfold cfv opv at *
  go_enter Tryd.func11, Tryd.ntmps11
  go_wp2_with (first
    | (go_at_call 21; refine (HM.out _).mono ?_; rintro e w1 ⟨rfl, hb1⟩; obtain ⟨hc1, hf1⟩ := bcell hb1)
    | (go_at_call 22; refine (HR.out _ (HA.out.below (below_then (below_three _ _ _ _) hb1))).mono ?_; rintro e w2 ⟨rfl, hb2⟩; replace hb1 := below_then hb1 hb2; clear hc1 hf1 hb2; obtain ⟨hc1, hf1⟩ := bcell hb1))
  refine bodyPost_ret (v := .tuple #[.slice none 0 0, .agg #[.int .i64 0, .int .u32 0, .slice none 0 0], .int .i64 2]) ?_ rfl ⟨_, _, rfl, MadeX.nil _ _ _ _ _, MadeX.nil _ _ _ _ _, own_apart _, ?_⟩
  · simp [results, Tryd.results11, go_sem, hc1]
  · exact (((below_then (below_three _ _ _ _) hb1).setCell (by simp; omega) _).setCell (by simp; omega) _).setCell (by simp; omega) _

set_option maxRecDepth 100000 in
set_option maxHeartbeats 4000000 in
theorem odo_bad (c : Cf) (A : Option Addr) (l : List R) (d : Nat) (o : O) (ho : Wf o) (hAn : A = none → l.length = 0 ∧ d = 0) (hl : l.length ≤ 100000) (ht : IsOr c l) (hbad : chk c o ≠ 0) (w : World) (hp : Obs w) (h : IsR w A l) :
    Calls Tryd.prog 11 #[cfv c, .slice A l.length d, opv o] w (Did7 (l, chk c o, 0, []) 0 w) := by
  have HM := Lib.hid (oisOf_any c)
  have hg : Ok c ∧ c.obj = 2 := ⟨ht.1, ht.2.1⟩
  rw [decide_eq_true hg] at HM
  obtain ⟨cap, hcap⟩ : ∃ cap : Nat, c.cap = cap := by
    have hb := hg.1.2.2
    unfold RestOk at hb
    exact ⟨c.cap.toNat, by omega⟩
  have HR := Lib.hid (fun W hA => oare_any c A l d (by omega) W hA)
  have e : decide ((l.length : Int) ≤ c.cap ∧ Up l ∧ ∀ x ∈ l, OrOk x) = true := decide_eq_true ⟨ht.2.2.1, ht.2.2.2.1, ht.2.2.2.2⟩
  rw [e] at HR
  have HA := Lib.hid h
  have HCL := Lib.hid (fun W hA => clone_any A l d (by omega) hAn W hA)
  have HCK := Lib.hid (check_op c o ho)
  have HP := Lib.hid hp
  have hob := hg.2
  have hlc : l.length ≤ cap := by have := ht.2.2.1; omega
  have HV := Lib.hid (And.intro ht.2.2.2.1 (show ∀ x ∈ l, x.2 ≤ 2147483647 from fun x hx => (ht.2.2.2.2 x hx).2))
  have hbad2 : (chk c o != 0) = true := bne_iff_ne.2 hbad
  generalize chk c o = x at *
  clear e h ht hAn ho hp hg
  unfold cfv opv at *
  rw [hob] at HM HR HCK ⊢
  rw [hcap] at HM HR HCK ⊢
  clear hob hcap
  generalize hN : l.length = N at *
  have HNL := Lib.hid hN
  clear hN
  go_enter Tryd.func11, Tryd.ntmps11
  go_wp2_with (first
    | (go_at_call 21; refine (HM.out _).mono ?_; rintro e w1 ⟨rfl, hb1⟩; obtain ⟨hc1, hf1⟩ := bcell hb1)
    | (go_at_call 22; refine (HR.out _ (HA.out.below (below_then (below_three _ _ _ _) hb1))).mono ?_; rintro e w2 ⟨rfl, hb2⟩; replace hb1 := below_then hb1 hb2; clear hc1 hf1 hb2; obtain ⟨hc1, hf1⟩ := bcell hb1)
    | (go_at_call 23; refine (HCL.out _ (HA.out.below (below_then (below_three _ _ _ _) hb1))).mono ?_; rintro e w3 ⟨u3, rfl, hM3, hb3⟩; have hs1 := hb1.size; replace hb1 := below_then hb1 hb3; clear hc1 hf1 hb3; obtain ⟨hc1, hf1⟩ := bcell hb1; have HM3 := Lib.hid hM3; clear hM3)
    | (go_at_call 24; refine (HCK.out _ (HP.out.below (below_then (below_three _ _ _ _) hb1))).mono ?_; rintro e w4 ⟨rfl, hb4⟩; replace hb1 := below_then hb1 hb4; clear hc1 hf1; obtain ⟨hc1, hf1⟩ := bcell hb1))
  have HM4 := Lib.hid (HM3.out.below hb4)
  have hne : u3.ownBlock ≠ some (w.heap.size + 1 + 1) := fun e => by
    have := (MadeX.lt HM3.out _ e).1
    simp at hs1; omega
  refine bodyPost_ret (v := .tuple #[u3, .agg #[.int .i64 x, .int .u32 0, .slice none 0 0], .int .i64 0]) ?_ rfl ⟨_, _, rfl, ?_, MadeX.nil _ _ _ _ _, own_apart _, ?_⟩
  · simp [results, Tryd.results11, go_sem, hc1]
  · exact made_stored3 (MadeX.down' HM4.out (by simp at hs1; omega)) hne _ _ _
  · exact (((below_then (below_three _ _ _ _) hb1).setCell (by simp; omega) _).setCell (by simp; omega) _).setCell (by simp; omega) _

set_option maxRecDepth 100000 in
set_option maxHeartbeats 4000000 in
theorem odo_put (c : Cf) (A : Option Addr) (l : List R) (d : Nat) (o : O) (ho : Wf o) (hAn : A = none → l.length = 0 ∧ d = 0) (hl : l.length ≤ 100000) (ht : IsOr c l) (hk : o.k = 4) (hgood : chk c o = 0) (w : World) (hp : Obs w) (h : IsR w A l) :
    Calls Tryd.prog 11 #[cfv c, .slice A l.length d, opv o] w (Did7 ((putR c.cap.toNat l o.a o.b).1, (putR c.cap.toNat l o.a o.b).2.1, (putR c.cap.toNat l o.a o.b).2.2, []) 0 w) := by
  have HM := Lib.hid (oisOf_any c)
  have hg : Ok c ∧ c.obj = 2 := ⟨ht.1, ht.2.1⟩
  rw [decide_eq_true hg] at HM
  obtain ⟨cap, hcap⟩ : ∃ cap : Nat, c.cap = cap := by
    have hb := hg.1.2.2
    unfold RestOk at hb
    exact ⟨c.cap.toNat, by omega⟩
  have HR := Lib.hid (fun W hA => oare_any c A l d (by omega) W hA)
  have e : decide ((l.length : Int) ≤ c.cap ∧ Up l ∧ ∀ x ∈ l, OrOk x) = true := decide_eq_true ⟨ht.2.2.1, ht.2.2.2.1, ht.2.2.2.2⟩
  rw [e] at HR
  have HA := Lib.hid h
  have HCL := Lib.hid (fun W hA => clone_any A l d (by omega) hAn W hA)
  have HCK := Lib.hid (check_op c o ho)
  have HP := Lib.hid hp
  have hob := hg.2
  have hlc : l.length ≤ cap := by have := ht.2.2.1; omega
  have HV := Lib.hid (And.intro ht.2.2.2.1 (show ∀ x ∈ l, x.2 ≤ 2147483647 from fun x hx => (ht.2.2.2.2 x hx).2))
  have hfit := fits_two hob hgood
  rw [hgood] at HCK
  have HI := Lib.hid (fun W B (hB : B ≤ W.heap.size) v hm => oput_any c cap hcap o ho W B hB v l (by omega) hlc HV.out.1 HV.out.2 hm)
  rw [show c.cap.toNat = cap by omega]
  obtain ⟨s, hs⟩ : ∃ s, putR cap l o.a o.b = s := ⟨_, rfl⟩
  rw [hs] at HI ⊢
  clear hs
  obtain ⟨rows, x, y⟩ := s
  obtain ⟨res, hres⟩ : ∃ res : List R, res = [] := ⟨_, rfl⟩
  rw [← hres]
  have HRE := Lib.hid hres
  clear hres
  clear e h ht hAn ho hp hg hgood hfit
  unfold cfv opv at *
  rw [hob] at HM HR HCK HI ⊢
  rw [hcap] at HM HR HCK HI ⊢
  rw [hk] at HCK HI ⊢
  clear hob hcap hk
  generalize hN : l.length = N at *
  have HNL := Lib.hid hN
  clear hN
  go_enter Tryd.func11, Tryd.ntmps11
  go_wp2_with (first
    | (go_at_call 21; refine (HM.out _).mono ?_; rintro e w1 ⟨rfl, hb1⟩; obtain ⟨hc1, hf1⟩ := bcell hb1)
    | (go_at_call 22; refine (HR.out _ (HA.out.below (below_then (below_three _ _ _ _) hb1))).mono ?_; rintro e w2 ⟨rfl, hb2⟩; replace hb1 := below_then hb1 hb2; clear hc1 hf1 hb2; obtain ⟨hc1, hf1⟩ := bcell hb1)
    | (go_at_call 23; refine (HCL.out _ (HA.out.below (below_then (below_three _ _ _ _) hb1))).mono ?_; rintro e w3 ⟨u3, rfl, hM3, hb3⟩; have hs1 := hb1.size; replace hb1 := below_then hb1 hb3; clear hc1 hf1 hb3; obtain ⟨hc1, hf1⟩ := bcell hb1; have HM3 := Lib.hid hM3; clear hM3)
    | (go_at_call 24; refine (HCK.out _ (HP.out.below (below_then (below_three _ _ _ _) hb1))).mono ?_; rintro e w4 ⟨rfl, hb4⟩; replace hb1 := below_then hb1 hb4; clear hc1 hf1; obtain ⟨hc1, hf1⟩ := bcell hb1))
  have HM4 := Lib.hid (HM3.out.below hb4)
  have hne : u3.ownBlock ≠ some (w.heap.size + 1 + 1) := fun e => by
    have := (MadeX.lt HM3.out _ e).1
    simp at hs1; omega
  have hq : w.heap.size + 1 + 1 < w4.heap.size := by have := hb1.size; simp at this; omega
  have hbw := below_then (below_three _ _ _ _) hb1
  have hB4 : MadeX w4 w.heap.size 37 2 rowL u3 l := MadeX.down' HM4.out (by simp at hs1; omega)
  refine (HI.out w4 w.heap.size hbw.size u3 hB4).mono ?_
  rintro e w5 ⟨u, rfl, hM5, hg5⟩
  have hMr : MadeX w5 w.heap.size 37 2 rowL (.slice none 0 0) res := by rw [HRE.out]; exact MadeX.nil _ _ _ _ _
  have HAP := Lib.hid (own_apart u)
  unfold resv
  have hx : ∀ j, w5.cell? ⟨w.heap.size + 1 + 1, j, none⟩ = w4.cell? ⟨w.heap.size + 1 + 1, j, none⟩ := fun j => World.cell?_of_block (hg5.block _ hq (fun e => hne e.symm))
  have hy : ∀ j, w5.frozen? ⟨w.heap.size + 1 + 1, j, none⟩ = w4.frozen? ⟨w.heap.size + 1 + 1, j, none⟩ := fun j => World.frozen?_of_block (hg5.block _ hq (fun e => hne e.symm))
  have r0 : w5.cell? ⟨w.heap.size + 1 + 1, 0, none⟩ = some (.int .i64 0) := (hx 0).trans ((hc1 _ _ (by simp)).trans (by simp [go_sem]))
  have r1 : w5.cell? ⟨w.heap.size + 1 + 1, 1, none⟩ = some (.int .u32 0) := (hx 1).trans ((hc1 _ _ (by simp)).trans (by simp [go_sem]))
  have r2 : w5.cell? ⟨w.heap.size + 1 + 1, 2, none⟩ = some (.slice none 0 0) := (hx 2).trans ((hc1 _ _ (by simp)).trans (by simp [go_sem]))
  have f0 : w5.frozen? ⟨w.heap.size + 1 + 1, 0, none⟩ = false := (hy 0).trans ((hf1 _ _ (by simp)).trans (by simp [go_sem]))
  have f1 : w5.frozen? ⟨w.heap.size + 1 + 1, 1, none⟩ = false := (hy 1).trans ((hf1 _ _ (by simp)).trans (by simp [go_sem]))
  have f2 : w5.frozen? ⟨w.heap.size + 1 + 1, 2, none⟩ = false := (hy 2).trans ((hf1 _ _ (by simp)).trans (by simp [go_sem]))
  have h3 := HM3.out
  have hb5 := Lib.hid (hbw.grown hg5 hbw.size (fun k hk => by have := (MadeX.lt h3 k hk).1; simp at hs1; omega))
  have hre : w5.heap[w.heap.size + 1 + 1]? = some (.cells #[.int .i64 0, .int .u32 0, .slice none 0 0] 27 (0, 0)) := (hg5.block _ hq (fun e => hne e.symm)).trans ((hb1.block (w.heap.size + 1 + 1) (by simp)).trans (third_new _ _ _ _))
  have HNU := Lib.hid (made_ne hM5 hre (by decide))
  have HNR := Lib.hid (made_ne hMr hre (by decide))
  have HM5 := Lib.hid hM5
  have HMr := Lib.hid hMr
  clear hx hy hc1 hf1 hre hbw hM5 hMr hg5 h3 hB4
  have mixed : Tryd.prog.follows Departure.mixedOrders = true := by kernel_rfl
  go_wp2
  obtain ⟨W6, hW6⟩ : ∃ W6, W6 = ((w5.setCell ⟨w.heap.size + 1 + 1, 0, none⟩ (.int .i64 x)).setCell ⟨w.heap.size + 1 + 1, 1, none⟩ (.int .u32 y)).setCell ⟨w.heap.size + 1 + 1, 2, none⟩ (.slice none 0 0) := ⟨_, rfl⟩
  rw [← hW6]
  have s0 : W6.cell? ⟨w.heap.size + 1 + 1, 0, none⟩ = some (.int .i64 x) := by rw [hW6]; simp [go_sem, r0]
  have s1 : W6.cell? ⟨w.heap.size + 1 + 1, 1, none⟩ = some (.int .u32 y) := by rw [hW6]; simp [go_sem, r1]
  have s2 : W6.cell? ⟨w.heap.size + 1 + 1, 2, none⟩ = some (.slice none 0 0) := by rw [hW6]; simp [go_sem, r2]
  have t0 : W6.frozen? ⟨w.heap.size + 1 + 1, 0, none⟩ = false := by rw [hW6]; simp [go_sem, f0]
  have t1 : W6.frozen? ⟨w.heap.size + 1 + 1, 1, none⟩ = false := by rw [hW6]; simp [go_sem, f1]
  have t2 : W6.frozen? ⟨w.heap.size + 1 + 1, 2, none⟩ = false := by rw [hW6]; simp [go_sem, f2]
  have HM6 := Lib.hid (show MadeX W6 w.heap.size 37 2 rowL u rows by rw [hW6]; exact made_stored3 HM5.out HNU.out _ _ _)
  have HM7 := Lib.hid (show MadeX W6 w.heap.size 37 2 rowL (.slice none 0 0) res by rw [hW6]; exact made_stored3 HMr.out HNR.out _ _ _)
  have hb6 := Lib.hid (show Below w.heap.size w W6 by rw [hW6]; exact ((hb5.out.setCell (by simp; omega) _).setCell (by simp; omega) _).setCell (by simp; omega) _)
  clear hW6 r0 r1 r2 f0 f1 f2
  go_region
  go_wp2
  refine bodyPost_ret (v := .tuple #[u, .agg #[.int .i64 x, .int .u32 y, .slice none 0 0], .int .i64 0]) ?_ rfl ⟨_, _, rfl, ?_, ?_, HAP.out, ?_⟩
  · simp [results, Tryd.results11, go_sem, s0, s1, s2]
  · exact made_stored3 (MadeX.below HM6.out (below_drew _)) HNU.out _ _ _
  · exact made_stored3 (MadeX.below HM7.out (below_drew _)) HNR.out _ _ _
  · exact ((hb6.out.drew.setCell (by simp; omega) _).setCell (by simp; omega) _).setCell (by simp; omega) _

set_option maxRecDepth 100000 in
set_option maxHeartbeats 4000000 in
theorem odo_take (c : Cf) (A : Option Addr) (l : List R) (d : Nat) (o : O) (ho : Wf o) (hAn : A = none → l.length = 0 ∧ d = 0) (hl : l.length ≤ 100000) (ht : IsOr c l) (hk : o.k = 5) (hgood : chk c o = 0) (w : World) (hp : Obs w) (h : IsR w A l) :
    Calls Tryd.prog 11 #[cfv c, .slice A l.length d, opv o] w (Did7 ((takeR l o.a).1, (takeR l o.a).2.1, (takeR l o.a).2.2, []) 0 w) := by
  have HM := Lib.hid (oisOf_any c)
  have hg : Ok c ∧ c.obj = 2 := ⟨ht.1, ht.2.1⟩
  rw [decide_eq_true hg] at HM
  obtain ⟨cap, hcap⟩ : ∃ cap : Nat, c.cap = cap := by
    have hb := hg.1.2.2
    unfold RestOk at hb
    exact ⟨c.cap.toNat, by omega⟩
  have HR := Lib.hid (fun W hA => oare_any c A l d (by omega) W hA)
  have e : decide ((l.length : Int) ≤ c.cap ∧ Up l ∧ ∀ x ∈ l, OrOk x) = true := decide_eq_true ⟨ht.2.2.1, ht.2.2.2.1, ht.2.2.2.2⟩
  rw [e] at HR
  have HA := Lib.hid h
  have HCL := Lib.hid (fun W hA => clone_any A l d (by omega) hAn W hA)
  have HCK := Lib.hid (check_op c o ho)
  have HP := Lib.hid hp
  have hob := hg.2
  have hlc : l.length ≤ cap := by have := ht.2.2.1; omega
  have HV := Lib.hid (And.intro ht.2.2.2.1 (show ∀ x ∈ l, x.2 ≤ 2147483647 from fun x hx => (ht.2.2.2.2 x hx).2))
  have hfit := fits_two hob hgood
  rw [hgood] at HCK
  have HI := Lib.hid (fun W B (hB : B ≤ W.heap.size) v hm => otake_any o ho W B v l (by omega) HV.out.1 HV.out.2 hm)
  obtain ⟨s, hs⟩ : ∃ s, takeR l o.a = s := ⟨_, rfl⟩
  rw [hs] at HI ⊢
  clear hs
  obtain ⟨rows, x, y⟩ := s
  obtain ⟨res, hres⟩ : ∃ res : List R, res = [] := ⟨_, rfl⟩
  rw [← hres]
  have HRE := Lib.hid hres
  clear hres
  clear e h ht hAn ho hp hg hgood hfit
  unfold cfv opv at *
  rw [hob] at HM HR HCK ⊢
  rw [hcap] at HM HR HCK ⊢
  rw [hk] at HCK HI ⊢
  clear hob hcap hk
  generalize hN : l.length = N at *
  have HNL := Lib.hid hN
  clear hN
  go_enter Tryd.func11, Tryd.ntmps11
  go_wp2_with (first
    | (go_at_call 21; refine (HM.out _).mono ?_; rintro e w1 ⟨rfl, hb1⟩; obtain ⟨hc1, hf1⟩ := bcell hb1)
    | (go_at_call 22; refine (HR.out _ (HA.out.below (below_then (below_three _ _ _ _) hb1))).mono ?_; rintro e w2 ⟨rfl, hb2⟩; replace hb1 := below_then hb1 hb2; clear hc1 hf1 hb2; obtain ⟨hc1, hf1⟩ := bcell hb1)
    | (go_at_call 23; refine (HCL.out _ (HA.out.below (below_then (below_three _ _ _ _) hb1))).mono ?_; rintro e w3 ⟨u3, rfl, hM3, hb3⟩; have hs1 := hb1.size; replace hb1 := below_then hb1 hb3; clear hc1 hf1 hb3; obtain ⟨hc1, hf1⟩ := bcell hb1; have HM3 := Lib.hid hM3; clear hM3)
    | (go_at_call 24; refine (HCK.out _ (HP.out.below (below_then (below_three _ _ _ _) hb1))).mono ?_; rintro e w4 ⟨rfl, hb4⟩; replace hb1 := below_then hb1 hb4; clear hc1 hf1; obtain ⟨hc1, hf1⟩ := bcell hb1))
  have HM4 := Lib.hid (HM3.out.below hb4)
  have hne : u3.ownBlock ≠ some (w.heap.size + 1 + 1) := fun e => by
    have := (MadeX.lt HM3.out _ e).1
    simp at hs1; omega
  have hq : w.heap.size + 1 + 1 < w4.heap.size := by have := hb1.size; simp at this; omega
  have hbw := below_then (below_three _ _ _ _) hb1
  have hB4 : MadeX w4 w.heap.size 37 2 rowL u3 l := MadeX.down' HM4.out (by simp at hs1; omega)
  refine (HI.out w4 w.heap.size hbw.size u3 hB4).mono ?_
  rintro e w5 ⟨u, rfl, hM5, hg5⟩
  have hMr : MadeX w5 w.heap.size 37 2 rowL (.slice none 0 0) res := by rw [HRE.out]; exact MadeX.nil _ _ _ _ _
  have HAP := Lib.hid (own_apart u)
  unfold resv
  have hx : ∀ j, w5.cell? ⟨w.heap.size + 1 + 1, j, none⟩ = w4.cell? ⟨w.heap.size + 1 + 1, j, none⟩ := fun j => World.cell?_of_block (hg5.block _ hq (fun e => hne e.symm))
  have hy : ∀ j, w5.frozen? ⟨w.heap.size + 1 + 1, j, none⟩ = w4.frozen? ⟨w.heap.size + 1 + 1, j, none⟩ := fun j => World.frozen?_of_block (hg5.block _ hq (fun e => hne e.symm))
  have r0 : w5.cell? ⟨w.heap.size + 1 + 1, 0, none⟩ = some (.int .i64 0) := (hx 0).trans ((hc1 _ _ (by simp)).trans (by simp [go_sem]))
  have r1 : w5.cell? ⟨w.heap.size + 1 + 1, 1, none⟩ = some (.int .u32 0) := (hx 1).trans ((hc1 _ _ (by simp)).trans (by simp [go_sem]))
  have r2 : w5.cell? ⟨w.heap.size + 1 + 1, 2, none⟩ = some (.slice none 0 0) := (hx 2).trans ((hc1 _ _ (by simp)).trans (by simp [go_sem]))
  have f0 : w5.frozen? ⟨w.heap.size + 1 + 1, 0, none⟩ = false := (hy 0).trans ((hf1 _ _ (by simp)).trans (by simp [go_sem]))
  have f1 : w5.frozen? ⟨w.heap.size + 1 + 1, 1, none⟩ = false := (hy 1).trans ((hf1 _ _ (by simp)).trans (by simp [go_sem]))
  have f2 : w5.frozen? ⟨w.heap.size + 1 + 1, 2, none⟩ = false := (hy 2).trans ((hf1 _ _ (by simp)).trans (by simp [go_sem]))
  have h3 := HM3.out
  have hb5 := Lib.hid (hbw.grown hg5 hbw.size (fun k hk => by have := (MadeX.lt h3 k hk).1; simp at hs1; omega))
  have hre : w5.heap[w.heap.size + 1 + 1]? = some (.cells #[.int .i64 0, .int .u32 0, .slice none 0 0] 27 (0, 0)) := (hg5.block _ hq (fun e => hne e.symm)).trans ((hb1.block (w.heap.size + 1 + 1) (by simp)).trans (third_new _ _ _ _))
  have HNU := Lib.hid (made_ne hM5 hre (by decide))
  have HNR := Lib.hid (made_ne hMr hre (by decide))
  have HM5 := Lib.hid hM5
  have HMr := Lib.hid hMr
  clear hx hy hc1 hf1 hre hbw hM5 hMr hg5 h3 hB4
  have mixed : Tryd.prog.follows Departure.mixedOrders = true := by kernel_rfl
  go_wp2
  obtain ⟨W6, hW6⟩ : ∃ W6, W6 = ((w5.setCell ⟨w.heap.size + 1 + 1, 0, none⟩ (.int .i64 x)).setCell ⟨w.heap.size + 1 + 1, 1, none⟩ (.int .u32 y)).setCell ⟨w.heap.size + 1 + 1, 2, none⟩ (.slice none 0 0) := ⟨_, rfl⟩
  rw [← hW6]
  have s0 : W6.cell? ⟨w.heap.size + 1 + 1, 0, none⟩ = some (.int .i64 x) := by rw [hW6]; simp [go_sem, r0]
  have s1 : W6.cell? ⟨w.heap.size + 1 + 1, 1, none⟩ = some (.int .u32 y) := by rw [hW6]; simp [go_sem, r1]
  have s2 : W6.cell? ⟨w.heap.size + 1 + 1, 2, none⟩ = some (.slice none 0 0) := by rw [hW6]; simp [go_sem, r2]
  have t0 : W6.frozen? ⟨w.heap.size + 1 + 1, 0, none⟩ = false := by rw [hW6]; simp [go_sem, f0]
  have t1 : W6.frozen? ⟨w.heap.size + 1 + 1, 1, none⟩ = false := by rw [hW6]; simp [go_sem, f1]
  have t2 : W6.frozen? ⟨w.heap.size + 1 + 1, 2, none⟩ = false := by rw [hW6]; simp [go_sem, f2]
  have HM6 := Lib.hid (show MadeX W6 w.heap.size 37 2 rowL u rows by rw [hW6]; exact made_stored3 HM5.out HNU.out _ _ _)
  have HM7 := Lib.hid (show MadeX W6 w.heap.size 37 2 rowL (.slice none 0 0) res by rw [hW6]; exact made_stored3 HMr.out HNR.out _ _ _)
  have hb6 := Lib.hid (show Below w.heap.size w W6 by rw [hW6]; exact ((hb5.out.setCell (by simp; omega) _).setCell (by simp; omega) _).setCell (by simp; omega) _)
  clear hW6 r0 r1 r2 f0 f1 f2
  go_region
  go_wp2
  refine bodyPost_ret (v := .tuple #[u, .agg #[.int .i64 x, .int .u32 y, .slice none 0 0], .int .i64 0]) ?_ rfl ⟨_, _, rfl, ?_, ?_, HAP.out, ?_⟩
  · simp [results, Tryd.results11, go_sem, s0, s1, s2]
  · exact made_stored3 (MadeX.below HM6.out (below_drew _)) HNU.out _ _ _
  · exact made_stored3 (MadeX.below HM7.out (below_drew _)) HNR.out _ _ _
  · exact ((hb6.out.drew.setCell (by simp; omega) _).setCell (by simp; omega) _).setCell (by simp; omega) _

set_option maxRecDepth 100000 in
set_option maxHeartbeats 4000000 in
theorem odo_get (c : Cf) (A : Option Addr) (l : List R) (d : Nat) (o : O) (ho : Wf o) (hAn : A = none → l.length = 0 ∧ d = 0) (hl : l.length ≤ 100000) (ht : IsOr c l) (hk : o.k = 6) (hgood : chk c o = 0) (w : World) (hp : Obs w) (h : IsR w A l) :
    Calls Tryd.prog 11 #[cfv c, .slice A l.length d, opv o] w (Did7 (l, (getR l o.a).1, (getR l o.a).2, []) 0 w) := by
  have HM := Lib.hid (oisOf_any c)
  have hg : Ok c ∧ c.obj = 2 := ⟨ht.1, ht.2.1⟩
  rw [decide_eq_true hg] at HM
  obtain ⟨cap, hcap⟩ : ∃ cap : Nat, c.cap = cap := by
    have hb := hg.1.2.2
    unfold RestOk at hb
    exact ⟨c.cap.toNat, by omega⟩
  have HR := Lib.hid (fun W hA => oare_any c A l d (by omega) W hA)
  have e : decide ((l.length : Int) ≤ c.cap ∧ Up l ∧ ∀ x ∈ l, OrOk x) = true := decide_eq_true ⟨ht.2.2.1, ht.2.2.2.1, ht.2.2.2.2⟩
  rw [e] at HR
  have HA := Lib.hid h
  have HCL := Lib.hid (fun W hA => clone_any A l d (by omega) hAn W hA)
  have HCK := Lib.hid (check_op c o ho)
  have HP := Lib.hid hp
  have hob := hg.2
  have hlc : l.length ≤ cap := by have := ht.2.2.1; omega
  have HV := Lib.hid (And.intro ht.2.2.2.1 (show ∀ x ∈ l, x.2 ≤ 2147483647 from fun x hx => (ht.2.2.2.2 x hx).2))
  have hfit := fits_two hob hgood
  rw [hgood] at HCK
  have HI := Lib.hid (fun W A' d' hA => oget_any A' l d' o ho (by omega) HV.out.1 HV.out.2 W hA)
  obtain ⟨x, hx⟩ : ∃ x, (getR l o.a).1 = x := ⟨_, rfl⟩
  obtain ⟨y, hy⟩ : ∃ y, (getR l o.a).2 = y := ⟨_, rfl⟩
  rw [hx, hy] at HI ⊢
  unfold resv at HI
  clear hx hy
  obtain ⟨rows, hrows⟩ : ∃ rows, rows = l := ⟨_, rfl⟩
  obtain ⟨res, hres⟩ : ∃ res : List R, res = [] := ⟨_, rfl⟩
  have HRE := Lib.hid hres
  have HRO := Lib.hid hrows
  have e2 : (l, x, y, ([] : List R)) = (rows, x, y, res) := by rw [hrows, hres]
  rw [e2]
  clear hres hrows e2
  clear e h ht hAn ho hp hg hgood hfit
  unfold cfv opv at *
  rw [hob] at HM HR HCK ⊢
  rw [hcap] at HM HR HCK ⊢
  rw [hk] at HCK HI ⊢
  clear hob hcap hk
  generalize hN : l.length = N at *
  have HNL := Lib.hid hN
  clear hN
  go_enter Tryd.func11, Tryd.ntmps11
  go_wp2_with (first
    | (go_at_call 21; refine (HM.out _).mono ?_; rintro e w1 ⟨rfl, hb1⟩; obtain ⟨hc1, hf1⟩ := bcell hb1)
    | (go_at_call 22; refine (HR.out _ (HA.out.below (below_then (below_three _ _ _ _) hb1))).mono ?_; rintro e w2 ⟨rfl, hb2⟩; replace hb1 := below_then hb1 hb2; clear hc1 hf1 hb2; obtain ⟨hc1, hf1⟩ := bcell hb1)
    | (go_at_call 23; refine (HCL.out _ (HA.out.below (below_then (below_three _ _ _ _) hb1))).mono ?_; rintro e w3 ⟨u3, rfl, hM3, hb3⟩; have hs1 := hb1.size; replace hb1 := below_then hb1 hb3; clear hc1 hf1 hb3; obtain ⟨hc1, hf1⟩ := bcell hb1; have HM3 := Lib.hid hM3; clear hM3)
    | (go_at_call 24; refine (HCK.out _ (HP.out.below (below_then (below_three _ _ _ _) hb1))).mono ?_; rintro e w4 ⟨rfl, hb4⟩; replace hb1 := below_then hb1 hb4; clear hc1 hf1; obtain ⟨hc1, hf1⟩ := bcell hb1))
  have HM4 := Lib.hid (HM3.out.below hb4)
  have hne : u3.ownBlock ≠ some (w.heap.size + 1 + 1) := fun e => by
    have := (MadeX.lt HM3.out _ e).1
    simp at hs1; omega
  have hq : w.heap.size + 1 + 1 < w4.heap.size := by have := hb1.size; simp at this; omega
  have hbw := below_then (below_three _ _ _ _) hb1
  have hB4 : MadeX w4 w.heap.size 37 2 rowL u3 l := MadeX.down' HM4.out (by simp at hs1; omega)
  obtain ⟨A', d', hu3, hd', hAn', hA'⟩ := MadeX.form rowL_len HM4.out
  rw [HNL.out] at hu3 hd' hAn'
  have HU3 := Lib.hid hu3
  have hlt4 := fun k hk => (MadeX.lt HM4.out k hk).2
  rw [hu3] at hlt4
  rw [hu3]
  refine (HI.out w4 A' d' hA').mono ?_
  rintro e w5 ⟨rfl, hbl⟩
  obtain ⟨u, hu⟩ : ∃ u, u = u3 := ⟨_, rfl⟩
  rw [← hu3]
  have hg5 : w4.grownBy w5 u3.ownBlock := grown_below hbl _
  have hM5 : MadeX w5 w.heap.size 37 2 rowL u rows := by rw [HRO.out, hu]; exact MadeX.below hB4 hbl
  have hMr : MadeX w5 w.heap.size 37 2 rowL (.slice none 0 0) res := by rw [HRE.out]; exact MadeX.nil _ _ _ _ _
  have HAP := Lib.hid (own_apart u)
  clear hu3 hd' hAn' hA' hlt4 hbl
  subst hu
  have hx : ∀ j, w5.cell? ⟨w.heap.size + 1 + 1, j, none⟩ = w4.cell? ⟨w.heap.size + 1 + 1, j, none⟩ := fun j => World.cell?_of_block (hg5.block _ hq (fun e => hne e.symm))
  have hy : ∀ j, w5.frozen? ⟨w.heap.size + 1 + 1, j, none⟩ = w4.frozen? ⟨w.heap.size + 1 + 1, j, none⟩ := fun j => World.frozen?_of_block (hg5.block _ hq (fun e => hne e.symm))
  have r0 : w5.cell? ⟨w.heap.size + 1 + 1, 0, none⟩ = some (.int .i64 0) := (hx 0).trans ((hc1 _ _ (by simp)).trans (by simp [go_sem]))
  have r1 : w5.cell? ⟨w.heap.size + 1 + 1, 1, none⟩ = some (.int .u32 0) := (hx 1).trans ((hc1 _ _ (by simp)).trans (by simp [go_sem]))
  have r2 : w5.cell? ⟨w.heap.size + 1 + 1, 2, none⟩ = some (.slice none 0 0) := (hx 2).trans ((hc1 _ _ (by simp)).trans (by simp [go_sem]))
  have f0 : w5.frozen? ⟨w.heap.size + 1 + 1, 0, none⟩ = false := (hy 0).trans ((hf1 _ _ (by simp)).trans (by simp [go_sem]))
  have f1 : w5.frozen? ⟨w.heap.size + 1 + 1, 1, none⟩ = false := (hy 1).trans ((hf1 _ _ (by simp)).trans (by simp [go_sem]))
  have f2 : w5.frozen? ⟨w.heap.size + 1 + 1, 2, none⟩ = false := (hy 2).trans ((hf1 _ _ (by simp)).trans (by simp [go_sem]))
  have h3 := HM3.out
  have hb5 := Lib.hid (hbw.grown hg5 hbw.size (fun k hk => by have := (MadeX.lt h3 k hk).1; simp at hs1; omega))
  have hre : w5.heap[w.heap.size + 1 + 1]? = some (.cells #[.int .i64 0, .int .u32 0, .slice none 0 0] 27 (0, 0)) := (hg5.block _ hq (fun e => hne e.symm)).trans ((hb1.block (w.heap.size + 1 + 1) (by simp)).trans (third_new _ _ _ _))
  have HNU := Lib.hid (made_ne hM5 hre (by decide))
  have HNR := Lib.hid (made_ne hMr hre (by decide))
  have HM5 := Lib.hid hM5
  have HMr := Lib.hid hMr
  clear hx hy hc1 hf1 hre hbw hM5 hMr hg5 h3 hB4
  have mixed : Tryd.prog.follows Departure.mixedOrders = true := by kernel_rfl
  go_wp2
  obtain ⟨W6, hW6⟩ : ∃ W6, W6 = ((w5.setCell ⟨w.heap.size + 1 + 1, 0, none⟩ (.int .i64 x)).setCell ⟨w.heap.size + 1 + 1, 1, none⟩ (.int .u32 y)).setCell ⟨w.heap.size + 1 + 1, 2, none⟩ (.slice none 0 0) := ⟨_, rfl⟩
  rw [← hW6]
  have s0 : W6.cell? ⟨w.heap.size + 1 + 1, 0, none⟩ = some (.int .i64 x) := by rw [hW6]; simp [go_sem, r0]
  have s1 : W6.cell? ⟨w.heap.size + 1 + 1, 1, none⟩ = some (.int .u32 y) := by rw [hW6]; simp [go_sem, r1]
  have s2 : W6.cell? ⟨w.heap.size + 1 + 1, 2, none⟩ = some (.slice none 0 0) := by rw [hW6]; simp [go_sem, r2]
  have t0 : W6.frozen? ⟨w.heap.size + 1 + 1, 0, none⟩ = false := by rw [hW6]; simp [go_sem, f0]
  have t1 : W6.frozen? ⟨w.heap.size + 1 + 1, 1, none⟩ = false := by rw [hW6]; simp [go_sem, f1]
  have t2 : W6.frozen? ⟨w.heap.size + 1 + 1, 2, none⟩ = false := by rw [hW6]; simp [go_sem, f2]
  have HM6 := Lib.hid (show MadeX W6 w.heap.size 37 2 rowL u rows by rw [hW6]; exact made_stored3 HM5.out HNU.out _ _ _)
  have HM7 := Lib.hid (show MadeX W6 w.heap.size 37 2 rowL (.slice none 0 0) res by rw [hW6]; exact made_stored3 HMr.out HNR.out _ _ _)
  have hb6 := Lib.hid (show Below w.heap.size w W6 by rw [hW6]; exact ((hb5.out.setCell (by simp; omega) _).setCell (by simp; omega) _).setCell (by simp; omega) _)
  clear hW6 r0 r1 r2 f0 f1 f2
  go_region
  go_wp2
  refine bodyPost_ret (v := .tuple #[u, .agg #[.int .i64 x, .int .u32 y, .slice none 0 0], .int .i64 0]) ?_ rfl ⟨_, _, rfl, ?_, ?_, HAP.out, ?_⟩
  · simp [results, Tryd.results11, go_sem, s0, s1, s2]
  · exact made_stored3 (MadeX.below HM6.out (below_drew _)) HNU.out _ _ _
  · exact made_stored3 (MadeX.below HM7.out (below_drew _)) HNR.out _ _ _
  · exact ((hb6.out.drew.setCell (by simp; omega) _).setCell (by simp; omega) _).setCell (by simp; omega) _

set_option maxRecDepth 100000 in
set_option maxHeartbeats 4000000 in
theorem odo_floor (c : Cf) (A : Option Addr) (l : List R) (d : Nat) (o : O) (ho : Wf o) (hAn : A = none → l.length = 0 ∧ d = 0) (hl : l.length ≤ 100000) (ht : IsOr c l) (hk : o.k = 7) (hgood : chk c o = 0) (w : World) (hp : Obs w) (h : IsR w A l) :
    Calls Tryd.prog 11 #[cfv c, .slice A l.length d, opv o] w (Did7 (l, (if flo l o.a = [] then 6 else 0), 0, flo l o.a) 0 w) := by
  have HM := Lib.hid (oisOf_any c)
  have hg : Ok c ∧ c.obj = 2 := ⟨ht.1, ht.2.1⟩
  rw [decide_eq_true hg] at HM
  obtain ⟨cap, hcap⟩ : ∃ cap : Nat, c.cap = cap := by
    have hb := hg.1.2.2
    unfold RestOk at hb
    exact ⟨c.cap.toNat, by omega⟩
  have HR := Lib.hid (fun W hA => oare_any c A l d (by omega) W hA)
  have e : decide ((l.length : Int) ≤ c.cap ∧ Up l ∧ ∀ x ∈ l, OrOk x) = true := decide_eq_true ⟨ht.2.2.1, ht.2.2.2.1, ht.2.2.2.2⟩
  rw [e] at HR
  have HA := Lib.hid h
  have HCL := Lib.hid (fun W hA => clone_any A l d (by omega) hAn W hA)
  have HCK := Lib.hid (check_op c o ho)
  have HP := Lib.hid hp
  have hob := hg.2
  have hlc : l.length ≤ cap := by have := ht.2.2.1; omega
  have HV := Lib.hid (And.intro ht.2.2.2.1 (show ∀ x ∈ l, x.2 ≤ 2147483647 from fun x hx => (ht.2.2.2.2 x hx).2))
  have hfit := fits_two hob hgood
  rw [hgood] at HCK
  have HI := Lib.hid (fun W A' d' (hd' : l.length ≤ d' ∧ d' ≤ 9223372036854775807) (hAn' : A' = none → l.length = 0 ∧ d' = 0) (hA : IsR W A' l) (hAd : ∀ ad, A' = some ad → ad.block < W.heap.size) => ofloor_any A' l d' o (by omega) (by omega) HV.out.1 W hA)
  obtain ⟨res, hres⟩ : ∃ res, flo l o.a = res := ⟨_, rfl⟩
  obtain ⟨x, hx⟩ : ∃ x : Int, (if flo l o.a = [] then 6 else 0) = x := ⟨_, rfl⟩
  rw [hx] at HI ⊢
  rw [hres] at HI ⊢
  clear hx hres
  obtain ⟨rows, hrows⟩ : ∃ rows, rows = l := ⟨_, rfl⟩
  have HRO := Lib.hid hrows
  have e2 : (l, (x : Int), (0 : Int), res) = (rows, x, 0, res) := by rw [hrows]
  rw [e2]
  clear hrows e2
  clear e h ht hAn ho hp hg hgood hfit
  unfold cfv opv at *
  rw [hob] at HM HR HCK ⊢
  rw [hcap] at HM HR HCK ⊢
  rw [hk] at HCK HI ⊢
  clear hob hcap hk
  generalize hN : l.length = N at *
  have HNL := Lib.hid hN
  clear hN
  go_enter Tryd.func11, Tryd.ntmps11
  go_wp2_with (first
    | (go_at_call 21; refine (HM.out _).mono ?_; rintro e w1 ⟨rfl, hb1⟩; obtain ⟨hc1, hf1⟩ := bcell hb1)
    | (go_at_call 22; refine (HR.out _ (HA.out.below (below_then (below_three _ _ _ _) hb1))).mono ?_; rintro e w2 ⟨rfl, hb2⟩; replace hb1 := below_then hb1 hb2; clear hc1 hf1 hb2; obtain ⟨hc1, hf1⟩ := bcell hb1)
    | (go_at_call 23; refine (HCL.out _ (HA.out.below (below_then (below_three _ _ _ _) hb1))).mono ?_; rintro e w3 ⟨u3, rfl, hM3, hb3⟩; have hs1 := hb1.size; replace hb1 := below_then hb1 hb3; clear hc1 hf1 hb3; obtain ⟨hc1, hf1⟩ := bcell hb1; have HM3 := Lib.hid hM3; clear hM3)
    | (go_at_call 24; refine (HCK.out _ (HP.out.below (below_then (below_three _ _ _ _) hb1))).mono ?_; rintro e w4 ⟨rfl, hb4⟩; replace hb1 := below_then hb1 hb4; clear hc1 hf1; obtain ⟨hc1, hf1⟩ := bcell hb1))
  have HM4 := Lib.hid (HM3.out.below hb4)
  have hne : u3.ownBlock ≠ some (w.heap.size + 1 + 1) := fun e => by
    have := (MadeX.lt HM3.out _ e).1
    simp at hs1; omega
  have hq : w.heap.size + 1 + 1 < w4.heap.size := by have := hb1.size; simp at this; omega
  have hbw := below_then (below_three _ _ _ _) hb1
  have hB4 : MadeX w4 w.heap.size 37 2 rowL u3 l := MadeX.down' HM4.out (by simp at hs1; omega)
  obtain ⟨A', d', hu3, hd', hAn', hA'⟩ := MadeX.form rowL_len HM4.out
  rw [HNL.out] at hu3 hd' hAn'
  have HU3 := Lib.hid hu3
  have hlt4 := fun k hk => (MadeX.lt HM4.out k hk).2
  rw [hu3] at hlt4
  rw [hu3]
  refine (HI.out w4 A' d' hd' hAn' hA' (fun ad e => hlt4 ad.block (by rw [e]; rfl))).mono ?_
  rintro e w5 ⟨r, rfl, hMr4, hbl⟩
  obtain ⟨u, hu⟩ : ∃ u, u = u3 := ⟨_, rfl⟩
  rw [← hu3]
  have hg5 : w4.grownBy w5 u3.ownBlock := grown_below hbl _
  have hM5 : MadeX w5 w.heap.size 37 2 rowL u rows := by rw [HRO.out, hu]; exact MadeX.below hB4 hbl
  have hMr := MadeX.down' hMr4 hbw.size
  have HAP := Lib.hid (show u.ownBlock = none ∨ u.ownBlock ≠ r.ownBlock by
    cases hh : u.ownBlock with
    | none => exact .inl rfl
    | some b =>
      refine .inr fun e => ?_
      have h1 := (MadeX.lt hMr4 b e.symm).1
      rw [hu, hu3] at hh
      have h2 := hlt4 b hh
      omega)
  obtain ⟨A5, c5, rfl, _⟩ := MadeX.form rowL_len hMr
  obtain ⟨M, hM⟩ : ∃ M, res.length = M := ⟨_, rfl⟩
  rw [hM] at hMr hMr4 HAP ⊢
  clear hu3 hd' hAn' hA' hlt4 hbl hMr4 hM
  subst hu
  have hx : ∀ j, w5.cell? ⟨w.heap.size + 1 + 1, j, none⟩ = w4.cell? ⟨w.heap.size + 1 + 1, j, none⟩ := fun j => World.cell?_of_block (hg5.block _ hq (fun e => hne e.symm))
  have hy : ∀ j, w5.frozen? ⟨w.heap.size + 1 + 1, j, none⟩ = w4.frozen? ⟨w.heap.size + 1 + 1, j, none⟩ := fun j => World.frozen?_of_block (hg5.block _ hq (fun e => hne e.symm))
  have r0 : w5.cell? ⟨w.heap.size + 1 + 1, 0, none⟩ = some (.int .i64 0) := (hx 0).trans ((hc1 _ _ (by simp)).trans (by simp [go_sem]))
  have r1 : w5.cell? ⟨w.heap.size + 1 + 1, 1, none⟩ = some (.int .u32 0) := (hx 1).trans ((hc1 _ _ (by simp)).trans (by simp [go_sem]))
  have r2 : w5.cell? ⟨w.heap.size + 1 + 1, 2, none⟩ = some (.slice none 0 0) := (hx 2).trans ((hc1 _ _ (by simp)).trans (by simp [go_sem]))
  have f0 : w5.frozen? ⟨w.heap.size + 1 + 1, 0, none⟩ = false := (hy 0).trans ((hf1 _ _ (by simp)).trans (by simp [go_sem]))
  have f1 : w5.frozen? ⟨w.heap.size + 1 + 1, 1, none⟩ = false := (hy 1).trans ((hf1 _ _ (by simp)).trans (by simp [go_sem]))
  have f2 : w5.frozen? ⟨w.heap.size + 1 + 1, 2, none⟩ = false := (hy 2).trans ((hf1 _ _ (by simp)).trans (by simp [go_sem]))
  have h3 := HM3.out
  have hb5 := Lib.hid (hbw.grown hg5 hbw.size (fun k hk => by have := (MadeX.lt h3 k hk).1; simp at hs1; omega))
  have hre : w5.heap[w.heap.size + 1 + 1]? = some (.cells #[.int .i64 0, .int .u32 0, .slice none 0 0] 27 (0, 0)) := (hg5.block _ hq (fun e => hne e.symm)).trans ((hb1.block (w.heap.size + 1 + 1) (by simp)).trans (third_new _ _ _ _))
  have HNU := Lib.hid (made_ne hM5 hre (by decide))
  have HNR := Lib.hid (made_ne hMr hre (by decide))
  have HM5 := Lib.hid hM5
  have HMr := Lib.hid hMr
  clear hx hy hc1 hf1 hre hbw hM5 hMr hg5 h3 hB4
  have mixed : Tryd.prog.follows Departure.mixedOrders = true := by kernel_rfl
  go_wp2
  obtain ⟨W6, hW6⟩ : ∃ W6, W6 = ((w5.setCell ⟨w.heap.size + 1 + 1, 0, none⟩ (.int .i64 x)).setCell ⟨w.heap.size + 1 + 1, 1, none⟩ (.int .u32 0)).setCell ⟨w.heap.size + 1 + 1, 2, none⟩ (.slice A5 M c5) := ⟨_, rfl⟩
  rw [← hW6]
  have s0 : W6.cell? ⟨w.heap.size + 1 + 1, 0, none⟩ = some (.int .i64 x) := by rw [hW6]; simp [go_sem, r0]
  have s1 : W6.cell? ⟨w.heap.size + 1 + 1, 1, none⟩ = some (.int .u32 0) := by rw [hW6]; simp [go_sem, r1]
  have s2 : W6.cell? ⟨w.heap.size + 1 + 1, 2, none⟩ = some (.slice A5 M c5) := by rw [hW6]; simp [go_sem, r2]
  have t0 : W6.frozen? ⟨w.heap.size + 1 + 1, 0, none⟩ = false := by rw [hW6]; simp [go_sem, f0]
  have t1 : W6.frozen? ⟨w.heap.size + 1 + 1, 1, none⟩ = false := by rw [hW6]; simp [go_sem, f1]
  have t2 : W6.frozen? ⟨w.heap.size + 1 + 1, 2, none⟩ = false := by rw [hW6]; simp [go_sem, f2]
  have HM6 := Lib.hid (show MadeX W6 w.heap.size 37 2 rowL u rows by rw [hW6]; exact made_stored3 HM5.out HNU.out _ _ _)
  have HM7 := Lib.hid (show MadeX W6 w.heap.size 37 2 rowL (.slice A5 M c5) res by rw [hW6]; exact made_stored3 HMr.out HNR.out _ _ _)
  have hb6 := Lib.hid (show Below w.heap.size w W6 by rw [hW6]; exact ((hb5.out.setCell (by simp; omega) _).setCell (by simp; omega) _).setCell (by simp; omega) _)
  clear hW6 r0 r1 r2 f0 f1 f2
  go_region
  go_wp2
  refine bodyPost_ret (v := .tuple #[u, .agg #[.int .i64 x, .int .u32 0, .slice A5 M c5], .int .i64 0]) ?_ rfl ⟨_, _, rfl, ?_, ?_, HAP.out, ?_⟩
  · simp [results, Tryd.results11, go_sem, s0, s1, s2]
  · exact made_stored3 (MadeX.below HM6.out (below_drew _)) HNU.out _ _ _
  · exact made_stored3 (MadeX.below HM7.out (below_drew _)) HNR.out _ _ _
  · exact ((hb6.out.drew.setCell (by simp; omega) _).setCell (by simp; omega) _).setCell (by simp; omega) _

set_option maxRecDepth 100000 in
set_option maxHeartbeats 4000000 in
theorem odo_scan (c : Cf) (A : Option Addr) (l : List R) (d : Nat) (o : O) (ho : Wf o) (hAn : A = none → l.length = 0 ∧ d = 0) (hl : l.length ≤ 100000) (ht : IsOr c l) (hk : o.k = 8) (hgood : chk c o = 0) (w : World) (hp : Obs w) (h : IsR w A l) :
    Calls Tryd.prog 11 #[cfv c, .slice A l.length d, opv o] w (Did7 (l, 0, 0, scan l o.a o.b) 0 w) := by
  have HM := Lib.hid (oisOf_any c)
  have hg : Ok c ∧ c.obj = 2 := ⟨ht.1, ht.2.1⟩
  rw [decide_eq_true hg] at HM
  obtain ⟨cap, hcap⟩ : ∃ cap : Nat, c.cap = cap := by
    have hb := hg.1.2.2
    unfold RestOk at hb
    exact ⟨c.cap.toNat, by omega⟩
  have HR := Lib.hid (fun W hA => oare_any c A l d (by omega) W hA)
  have e : decide ((l.length : Int) ≤ c.cap ∧ Up l ∧ ∀ x ∈ l, OrOk x) = true := decide_eq_true ⟨ht.2.2.1, ht.2.2.2.1, ht.2.2.2.2⟩
  rw [e] at HR
  have HA := Lib.hid h
  have HCL := Lib.hid (fun W hA => clone_any A l d (by omega) hAn W hA)
  have HCK := Lib.hid (check_op c o ho)
  have HP := Lib.hid hp
  have hob := hg.2
  have hlc : l.length ≤ cap := by have := ht.2.2.1; omega
  have HV := Lib.hid (And.intro ht.2.2.2.1 (show ∀ x ∈ l, x.2 ≤ 2147483647 from fun x hx => (ht.2.2.2.2 x hx).2))
  have hfit := fits_two hob hgood
  rw [hgood] at HCK
  have HI := Lib.hid (fun W A' d' (hd' : l.length ≤ d' ∧ d' ≤ 9223372036854775807) (hAn' : A' = none → l.length = 0 ∧ d' = 0) (hA : IsR W A' l) (hAd : ∀ ad, A' = some ad → ad.block < W.heap.size) => oscan_any A' l d' hd' hAn' o ho (by omega) HV.out.1 W hA hAd)
  obtain ⟨res, hres⟩ : ∃ res, scan l o.a o.b = res := ⟨_, rfl⟩
  rw [hres] at HI ⊢
  clear hres
  obtain ⟨rows, hrows⟩ : ∃ rows, rows = l := ⟨_, rfl⟩
  have HRO := Lib.hid hrows
  have e2 : (l, (0 : Int), (0 : Int), res) = (rows, 0, 0, res) := by rw [hrows]
  rw [e2]
  clear hrows e2
  clear e h ht hAn ho hp hg hgood hfit
  unfold cfv opv at *
  rw [hob] at HM HR HCK ⊢
  rw [hcap] at HM HR HCK ⊢
  rw [hk] at HCK HI ⊢
  clear hob hcap hk
  generalize hN : l.length = N at *
  have HNL := Lib.hid hN
  clear hN
  go_enter Tryd.func11, Tryd.ntmps11
  go_wp2_with (first
    | (go_at_call 21; refine (HM.out _).mono ?_; rintro e w1 ⟨rfl, hb1⟩; obtain ⟨hc1, hf1⟩ := bcell hb1)
    | (go_at_call 22; refine (HR.out _ (HA.out.below (below_then (below_three _ _ _ _) hb1))).mono ?_; rintro e w2 ⟨rfl, hb2⟩; replace hb1 := below_then hb1 hb2; clear hc1 hf1 hb2; obtain ⟨hc1, hf1⟩ := bcell hb1)
    | (go_at_call 23; refine (HCL.out _ (HA.out.below (below_then (below_three _ _ _ _) hb1))).mono ?_; rintro e w3 ⟨u3, rfl, hM3, hb3⟩; have hs1 := hb1.size; replace hb1 := below_then hb1 hb3; clear hc1 hf1 hb3; obtain ⟨hc1, hf1⟩ := bcell hb1; have HM3 := Lib.hid hM3; clear hM3)
    | (go_at_call 24; refine (HCK.out _ (HP.out.below (below_then (below_three _ _ _ _) hb1))).mono ?_; rintro e w4 ⟨rfl, hb4⟩; replace hb1 := below_then hb1 hb4; clear hc1 hf1; obtain ⟨hc1, hf1⟩ := bcell hb1))
  have HM4 := Lib.hid (HM3.out.below hb4)
  have hne : u3.ownBlock ≠ some (w.heap.size + 1 + 1) := fun e => by
    have := (MadeX.lt HM3.out _ e).1
    simp at hs1; omega
  have hq : w.heap.size + 1 + 1 < w4.heap.size := by have := hb1.size; simp at this; omega
  have hbw := below_then (below_three _ _ _ _) hb1
  have hB4 : MadeX w4 w.heap.size 37 2 rowL u3 l := MadeX.down' HM4.out (by simp at hs1; omega)
  obtain ⟨A', d', hu3, hd', hAn', hA'⟩ := MadeX.form rowL_len HM4.out
  rw [HNL.out] at hu3 hd' hAn'
  have HU3 := Lib.hid hu3
  have hlt4 := fun k hk => (MadeX.lt HM4.out k hk).2
  rw [hu3] at hlt4
  rw [hu3]
  refine (HI.out w4 A' d' hd' hAn' hA' (fun ad e => hlt4 ad.block (by rw [e]; rfl))).mono ?_
  rintro e w5 ⟨r, rfl, hMr4, hbl⟩
  obtain ⟨u, hu⟩ : ∃ u, u = u3 := ⟨_, rfl⟩
  rw [← hu3]
  have hg5 : w4.grownBy w5 u3.ownBlock := grown_below hbl _
  have hM5 : MadeX w5 w.heap.size 37 2 rowL u rows := by rw [HRO.out, hu]; exact MadeX.below hB4 hbl
  have hMr := MadeX.down' hMr4 hbw.size
  have HAP := Lib.hid (show u.ownBlock = none ∨ u.ownBlock ≠ r.ownBlock by
    cases hh : u.ownBlock with
    | none => exact .inl rfl
    | some b =>
      refine .inr fun e => ?_
      have h1 := (MadeX.lt hMr4 b e.symm).1
      rw [hu, hu3] at hh
      have h2 := hlt4 b hh
      omega)
  obtain ⟨A5, c5, rfl, _⟩ := MadeX.form rowL_len hMr
  obtain ⟨M, hM⟩ : ∃ M, res.length = M := ⟨_, rfl⟩
  rw [hM] at hMr hMr4 HAP ⊢
  clear hu3 hd' hAn' hA' hlt4 hbl hMr4 hM
  subst hu
  have hx : ∀ j, w5.cell? ⟨w.heap.size + 1 + 1, j, none⟩ = w4.cell? ⟨w.heap.size + 1 + 1, j, none⟩ := fun j => World.cell?_of_block (hg5.block _ hq (fun e => hne e.symm))
  have hy : ∀ j, w5.frozen? ⟨w.heap.size + 1 + 1, j, none⟩ = w4.frozen? ⟨w.heap.size + 1 + 1, j, none⟩ := fun j => World.frozen?_of_block (hg5.block _ hq (fun e => hne e.symm))
  have r0 : w5.cell? ⟨w.heap.size + 1 + 1, 0, none⟩ = some (.int .i64 0) := (hx 0).trans ((hc1 _ _ (by simp)).trans (by simp [go_sem]))
  have r1 : w5.cell? ⟨w.heap.size + 1 + 1, 1, none⟩ = some (.int .u32 0) := (hx 1).trans ((hc1 _ _ (by simp)).trans (by simp [go_sem]))
  have r2 : w5.cell? ⟨w.heap.size + 1 + 1, 2, none⟩ = some (.slice none 0 0) := (hx 2).trans ((hc1 _ _ (by simp)).trans (by simp [go_sem]))
  have f0 : w5.frozen? ⟨w.heap.size + 1 + 1, 0, none⟩ = false := (hy 0).trans ((hf1 _ _ (by simp)).trans (by simp [go_sem]))
  have f1 : w5.frozen? ⟨w.heap.size + 1 + 1, 1, none⟩ = false := (hy 1).trans ((hf1 _ _ (by simp)).trans (by simp [go_sem]))
  have f2 : w5.frozen? ⟨w.heap.size + 1 + 1, 2, none⟩ = false := (hy 2).trans ((hf1 _ _ (by simp)).trans (by simp [go_sem]))
  have h3 := HM3.out
  have hb5 := Lib.hid (hbw.grown hg5 hbw.size (fun k hk => by have := (MadeX.lt h3 k hk).1; simp at hs1; omega))
  have hre : w5.heap[w.heap.size + 1 + 1]? = some (.cells #[.int .i64 0, .int .u32 0, .slice none 0 0] 27 (0, 0)) := (hg5.block _ hq (fun e => hne e.symm)).trans ((hb1.block (w.heap.size + 1 + 1) (by simp)).trans (third_new _ _ _ _))
  have HNU := Lib.hid (made_ne hM5 hre (by decide))
  have HNR := Lib.hid (made_ne hMr hre (by decide))
  have HM5 := Lib.hid hM5
  have HMr := Lib.hid hMr
  clear hx hy hc1 hf1 hre hbw hM5 hMr hg5 h3 hB4
  have mixed : Tryd.prog.follows Departure.mixedOrders = true := by kernel_rfl
  go_wp2
  obtain ⟨W6, hW6⟩ : ∃ W6, W6 = ((w5.setCell ⟨w.heap.size + 1 + 1, 0, none⟩ (.int .i64 0)).setCell ⟨w.heap.size + 1 + 1, 1, none⟩ (.int .u32 0)).setCell ⟨w.heap.size + 1 + 1, 2, none⟩ (.slice A5 M c5) := ⟨_, rfl⟩
  rw [← hW6]
  have s0 : W6.cell? ⟨w.heap.size + 1 + 1, 0, none⟩ = some (.int .i64 0) := by rw [hW6]; simp [go_sem, r0]
  have s1 : W6.cell? ⟨w.heap.size + 1 + 1, 1, none⟩ = some (.int .u32 0) := by rw [hW6]; simp [go_sem, r1]
  have s2 : W6.cell? ⟨w.heap.size + 1 + 1, 2, none⟩ = some (.slice A5 M c5) := by rw [hW6]; simp [go_sem, r2]
  have t0 : W6.frozen? ⟨w.heap.size + 1 + 1, 0, none⟩ = false := by rw [hW6]; simp [go_sem, f0]
  have t1 : W6.frozen? ⟨w.heap.size + 1 + 1, 1, none⟩ = false := by rw [hW6]; simp [go_sem, f1]
  have t2 : W6.frozen? ⟨w.heap.size + 1 + 1, 2, none⟩ = false := by rw [hW6]; simp [go_sem, f2]
  have HM6 := Lib.hid (show MadeX W6 w.heap.size 37 2 rowL u rows by rw [hW6]; exact made_stored3 HM5.out HNU.out _ _ _)
  have HM7 := Lib.hid (show MadeX W6 w.heap.size 37 2 rowL (.slice A5 M c5) res by rw [hW6]; exact made_stored3 HMr.out HNR.out _ _ _)
  have hb6 := Lib.hid (show Below w.heap.size w W6 by rw [hW6]; exact ((hb5.out.setCell (by simp; omega) _).setCell (by simp; omega) _).setCell (by simp; omega) _)
  clear hW6 r0 r1 r2 f0 f1 f2
  go_region
  go_wp2
  refine bodyPost_ret (v := .tuple #[u, .agg #[.int .i64 0, .int .u32 0, .slice A5 M c5], .int .i64 0]) ?_ rfl ⟨_, _, rfl, ?_, ?_, HAP.out, ?_⟩
  · simp [results, Tryd.results11, go_sem, s0, s1, s2]
  · exact made_stored3 (MadeX.below HM6.out (below_drew _)) HNU.out _ _ _
  · exact made_stored3 (MadeX.below HM7.out (below_drew _)) HNR.out _ _ _
  · exact ((hb6.out.drew.setCell (by simp; omega) _).setCell (by simp; omega) _).setCell (by simp; omega) _

theorem odo_any (c : Cf) (A : Option Addr) (l : List R) (d : Nat) (o : O) (ho : Wf o) (hAn : A = none → l.length = 0 ∧ d = 0) (hl : l.length ≤ 100000) (w : World) (hp : Obs w) (h : IsR w A l) :
    Calls Tryd.prog 11 #[cfv c, .slice A l.length d, opv o] w (Did7 (doOR c l o) (doOE c l) w) := by
  by_cases h1 : Ok c ∧ c.obj = 2
  · by_cases h2 : IsOr c l
    · have e2 : doOE c l = 0 := by unfold doOE; rw [if_neg (not_not_intro h1), if_neg (not_not_intro h2)]
      rw [e2]
      by_cases h3 : chk c o = 0
      · rw [doOR_done h2 h3]
        have hf := fits_two h1.2 h3
        rcases (by omega : o.k = 4 ∨ o.k = 5 ∨ o.k = 6 ∨ o.k = 7 ∨ o.k = 8) with hk | hk | hk | hk | hk
        · have e : doneO c.cap.toNat l o.k o.a o.b = ((putR c.cap.toNat l o.a o.b).1, (putR c.cap.toNat l o.a o.b).2.1, (putR c.cap.toNat l o.a o.b).2.2, []) := by
            rw [hk, doneO_put]; unfold putR; cases Tb.get l o.a with
            | some u => rfl
            | none => dsimp only; split <;> rfl
          rw [e]; exact odo_put c A l d o ho hAn hl h2 hk h3 w hp h
        · have e : doneO c.cap.toNat l o.k o.a o.b = ((takeR l o.a).1, (takeR l o.a).2.1, (takeR l o.a).2.2, []) := by
            rw [hk, doneO_cut]; unfold takeR; cases Tb.get l o.a <;> rfl
          rw [e]; exact odo_take c A l d o ho hAn hl h2 hk h3 w hp h
        · have e : doneO c.cap.toNat l o.k o.a o.b = (l, (getR l o.a).1, (getR l o.a).2, []) := by
            rw [hk, doneO_read (by decide), getR_read]
          rw [e]; exact odo_get c A l d o ho hAn hl h2 hk h3 w hp h
        · have e : doneO c.cap.toNat l o.k o.a o.b = (l, (if flo l o.a = [] then 6 else 0), 0, flo l o.a) := by
            rw [hk, doneO_read (by decide)]; rfl
          rw [e]; exact odo_floor c A l d o ho hAn hl h2 hk h3 w hp h
        · have e : doneO c.cap.toNat l o.k o.a o.b = (l, 0, 0, scan l o.a o.b) := by
            rw [hk, doneO_read (by decide)]; rfl
          rw [e]; exact odo_scan c A l d o ho hAn hl h2 hk h3 w hp h
      · rw [doOR_bad h2 h3]
        exact odo_bad c A l d o ho hAn hl h2 h3 w hp h
    · rw [doOR_none o h2]
      have e2 : doOE c l = 2 := by unfold doOE; rw [if_neg (not_not_intro h1), if_pos h2]
      rw [e2]
      exact odo_arg c A l d o (by omega) h1 h2 w h
  · rw [doOR_none o (fun g => h1 ⟨g.1, g.2.1⟩)]
    have e2 : doOE c l = 40 := by unfold doOE; rw [if_pos h1]
    rw [e2]
    exact odo_conf c A l.length d o h1 w
end Go.Proofs.YtohllaolbebogaaDoor
