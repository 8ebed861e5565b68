/- The program's Do: what is refused; an insertion, a removal, a look-up. The program's Do, of an operation that does not fit. The program's Do: a removal, a look-up. The program's Do, of whatever config, rows and operation. -/
import Derived.Test.YtfjpcdcaoefelaaDoorTbPLook
import Derived.Test.YtfjpcdcaoefelaaDoorTbDoAny
import Derived.Test.YtfjpcdcaoefelaaDoorOpChk
namespace Go.Proofs.YtfjpcdcaoefelaaDoor
open Go.RowKit Go.Lib Tb Pt Opn

theorem MadeX.down {w : World} {B B' : Nat} {v : Value} {l : List R} (h : MadeX w B 24 2 rowL v l) (hB : B' ≤ B) : MadeX w B' 24 2 rowL v l := by
  refine ⟨h.1, ?_⟩
  rcases h.2 with h | ⟨g, cap, cur, h1, h2, h3⟩
  · exact .inl h
  · exact .inr ⟨g, cap, cur, h1, Nat.le_trans hB h2, h3⟩

theorem third_new (w : World) (a b c : Obj) : (((w.alloc a).alloc b).alloc c).heap[w.heap.size + 1 + 1]? = some c := by simpa using heap_alloc_new ((w.alloc a).alloc b) c
theorem sl_nil (W : World) : (binOp .eql 25 (.slice none 0 0) (.slice none 0 0)).run Tryd.prog W = .ok (.bool true) W := by kernel_rfl
theorem sl_some (a : Addr) (n d : Nat) (W : World) : (binOp .eql 25 (.slice (some a) n d) (.slice none 0 0)).run Tryd.prog W = .ok (.bool false) W := by kernel_rfl

set_option maxRecDepth 100000 in
set_option maxHeartbeats 1000000 in
theorem clone_any (A : Option Addr) (l : List R) (d : Nat) (hl : l.length ≤ 1000000) (hA : A = none → l.length = 0 ∧ d = 0) (w : World) (h : IsR w A l) :
    Calls Tryd.prog 24 #[.slice A l.length d] w (RetR l w) := by
  have HA := Lib.hid h
  have HN := Lib.hid hA
  clear h hA
  cases A with
  | none =>
    obtain ⟨h1, h2⟩ := HN.out rfl
    obtain rfl : l = [] := List.eq_nil_of_length_eq_zero h1
    subst h2
    have hE := sl_nil
    go_enter Tryd.func24, Tryd.ntmps24
    go_wp2
    go_ret
    exact ⟨_, rfl, MadeX.nil _ _ _ _ _, Below.refl _ _⟩
  | some ad =>
    have hE := sl_some ad
    go_enter Tryd.func24, Tryd.ntmps24
    go_wp2_with (at_builtin
                 refine wpList_joinX (w0 := w) rfl (.tmp 5) (.tmp 6) _ rfl Tryd.underlying25 row_info rfl (by decide) (B := w.heap.size) (l := []) rowL_len rfl (World.ownsRow_lit w #[] 0 (Nat.le_refl _) (by unfold maxLen; omega) rfl) rfl HN.out (HA.out.below (below_one _ _)) row_one (by simp; omega) (by simp; omega) (Nat.le_refl _) (below_one _ _) ?_
                 intro v W Hv hbW Hg)
    go_ret
    exact ⟨_, rfl, Hv.out, hbW⟩

/-- What Do leaves: rows in memory of its own. -/
def Did4 (s : List R × Int × Int) (err : Int) (w : World) (e : Ending) (w' : World) : Prop := ∃ u, e = .returned (.tuple #[u, resv s.2.1 s.2.2 none 0 0, .int .i64 err]) ∧ MadeX w' w.heap.size 24 2 rowL u s.1 ∧ Below w.heap.size w w'

set_option maxRecDepth 100000 in
set_option maxHeartbeats 4000000 in
theorem do_conf (c : Cf) (A : Option Addr) (N d : Nat) (o : O) (hno : ¬ (Ok c ∧ c.obj = 1)) (w : World) :
    Calls Tryd.prog 9 #[cfv c, .slice A N d, opv o] w (Did4 ([], 0, 0) 40 w) := by
  have HM := Lib.hid (isOf_any c)
  rw [decide_eq_false hno] at HM
  clear hno
  unfold cfv opv at *
  go_enter Tryd.func9, Tryd.ntmps9
  go_wp2_with (go_at_call 22; refine (HM.out _).mono ?_; rintro e w1 ⟨rfl, hb1⟩; obtain ⟨hc1, hf1⟩ := bcell hb1)
  refine bodyPost_ret (v := .tuple #[.slice none 0 0, .agg #[.int .i64 0, .int .u32 0, .slice none 0 0], .int .i64 40]) ?_ rfl ⟨_, rfl, MadeX.nil _ _ _ _ _, ?_⟩
  · simp [results, Tryd.results9, go_sem, hc1]
  · exact (((below_then (below_three _ _ _ _) hb1).setCell (by simp; omega) _).setCell (by simp; omega) _).setCell (by simp; omega) _

set_option maxRecDepth 100000 in
set_option maxHeartbeats 4000000 in
theorem do_arg (c : Cf) (A : Option Addr) (l : List R) (d : Nat) (o : O) (hl : l.length ≤ 1000000) (hg : Ok c ∧ c.obj = 1) (hno : ¬ IsTab c l) (w : World) (h : IsR w A l) :
    Calls Tryd.prog 9 #[cfv c, .slice A l.length d, opv o] w (Did4 ([], 0, 0) 2 w) := by
  have HM := Lib.hid (isOf_any c)
  rw [decide_eq_true hg] at HM
  obtain ⟨n, hn, hn6⟩ : ∃ n : Nat, c.bits = n ∧ n ≤ 6 := by
    have hb := hg.1.1
    have ho := hg.2
    unfold ObjOk at hb
    exact ⟨c.bits.toNat, by omega, by omega⟩
  have hz : sz c = 2 ^ (n + 1) := by unfold sz; rw [if_pos hg.2, hn, Int.toNat_natCast]
  have HR := Lib.hid (fun W hA => are_any c n hn hn6 A l d hl W hA)
  have e : decide ((l.length : Int) ≤ c.cap ∧ Up l ∧ ∀ x ∈ l, RowOk (2 ^ (n + 1)) x) = false := decide_eq_false fun g => hno ⟨hg.1, hg.2, g.1, g.2.1, by rw [hz]; exact g.2.2⟩
  rw [e] at HR
  have HA := Lib.hid h
  clear e hz hn hg hno h
  generalize l.length = N at *
  unfold cfv opv at *
  go_enter Tryd.func9, Tryd.ntmps9
  go_wp2_with (first
    | (go_at_call 22; refine (HM.out _).mono ?_; rintro e w1 ⟨rfl, hb1⟩; obtain ⟨hc1, hf1⟩ := bcell hb1)
    | (go_at_call 23; refine (HR.out _ (HA.out.below (below_then (below_three _ _ _ _) hb1))).mono ?_; rintro e w2 ⟨rfl, hb2⟩; replace hb1 := below_then hb1 hb2; clear hc1 hf1 hb2; obtain ⟨hc1, hf1⟩ := bcell hb1))
  refine bodyPost_ret (v := .tuple #[.slice none 0 0, .agg #[.int .i64 0, .int .u32 0, .slice none 0 0], .int .i64 2]) ?_ rfl ⟨_, rfl, MadeX.nil _ _ _ _ _, ?_⟩
  · simp [results, Tryd.results9, go_sem, hc1]
  · exact (((below_then (below_three _ _ _ _) hb1).setCell (by simp; omega) _).setCell (by simp; omega) _).setCell (by simp; omega) _
end Go.Proofs.YtfjpcdcaoefelaaDoor

namespace Go.Proofs.YtfjpcdcaoefelaaDoor
open Go.RowKit Go.Lib Tb Pt Opn

set_option maxRecDepth 100000 in
set_option maxHeartbeats 4000000 in
theorem do_bad (c : Cf) (A : Option Addr) (l : List R) (d : Nat) (o : O) (ho : Wf o) (hAn : A = none → l.length = 0 ∧ d = 0) (hl : l.length ≤ 100000) (ht : IsTab c l) (hbad : chk c o ≠ 0) (w : World) (hp : Obs w) (h : IsR w A l) :
    Calls Tryd.prog 9 #[cfv c, .slice A l.length d, opv o] w (Did4 (l, chk c o, 0) 0 w) := by
  have HM := Lib.hid (isOf_any c)
  have hg : Ok c ∧ c.obj = 1 := ⟨ht.1, ht.2.1⟩
  rw [decide_eq_true hg] at HM
  obtain ⟨n, hn, hn6⟩ : ∃ n : Nat, c.bits = n ∧ n ≤ 6 := by
    have hb := hg.1.1
    have ho := hg.2
    unfold ObjOk at hb
    exact ⟨c.bits.toNat, by omega, by omega⟩
  obtain ⟨cap, hcap⟩ : ∃ cap : Nat, c.cap = cap := by
    have hb := hg.1.2.2
    unfold RestOk at hb
    exact ⟨c.cap.toNat, by omega⟩
  have hz : sz c = 2 ^ (n + 1) := by unfold sz; rw [if_pos hg.2, hn, Int.toNat_natCast]
  have HR := Lib.hid (fun W hA => are_any c n hn hn6 A l d (by omega) W hA)
  have e : decide ((l.length : Int) ≤ c.cap ∧ Up l ∧ ∀ x ∈ l, RowOk (2 ^ (n + 1)) x) = true := decide_eq_true ⟨ht.2.2.1, ht.2.2.2.1, by rw [← hz]; exact ht.2.2.2.2⟩
  rw [e] at HR
  have HA := Lib.hid h
  have HCL := Lib.hid (fun W hA => clone_any A l d (by omega) hAn W hA)
  have HCK := Lib.hid (check_op c o ho)
  have HP := Lib.hid hp
  have hob := hg.2
  have hlc : l.length ≤ cap := by have := ht.2.2.1; omega
  have HV := Lib.hid (And.intro ht.2.2.2.1 (show ∀ x ∈ l, x.2 ≤ 2147483647 from fun x hx => (ht.2.2.2.2 x hx).2.2))
  have hbad2 : (chk c o != 0) = true := bne_iff_ne.2 hbad
  generalize chk c o = x at *
  clear e hz h ht hAn ho hp hg
  unfold cfv opv at *
  rw [hob] at HM HR HCK ⊢
  rw [hn, hcap] at HM HR HCK ⊢
  clear hob hn hcap
  generalize hN : l.length = N at *
  have HNL := Lib.hid hN
  clear hN
  go_enter Tryd.func9, Tryd.ntmps9
  go_wp2_with (first
    | (go_at_call 22; refine (HM.out _).mono ?_; rintro e w1 ⟨rfl, hb1⟩; obtain ⟨hc1, hf1⟩ := bcell hb1)
    | (go_at_call 23; refine (HR.out _ (HA.out.below (below_then (below_three _ _ _ _) hb1))).mono ?_; rintro e w2 ⟨rfl, hb2⟩; replace hb1 := below_then hb1 hb2; clear hc1 hf1 hb2; obtain ⟨hc1, hf1⟩ := bcell hb1)
    | (go_at_call 24; refine (HCL.out _ (HA.out.below (below_then (below_three _ _ _ _) hb1))).mono ?_; rintro e w3 ⟨u3, rfl, hM3, hb3⟩; have hs1 := hb1.size; replace hb1 := below_then hb1 hb3; clear hc1 hf1 hb3; obtain ⟨hc1, hf1⟩ := bcell hb1; have HM3 := Lib.hid hM3; clear hM3)
    | (go_at_call 25; refine (HCK.out _ (HP.out.below (below_then (below_three _ _ _ _) hb1))).mono ?_; rintro e w4 ⟨rfl, hb4⟩; replace hb1 := below_then hb1 hb4; clear hc1 hf1; obtain ⟨hc1, hf1⟩ := bcell hb1))
  have HM4 := Lib.hid (HM3.out.below hb4)
  have hne : u3.ownBlock ≠ some (w.heap.size + 1 + 1) := fun e => by
    have := (MadeX.lt HM3.out _ e).1
    simp at hs1; omega
  refine bodyPost_ret (v := .tuple #[u3, .agg #[.int .i64 x, .int .u32 0, .slice none 0 0], .int .i64 0]) ?_ rfl ⟨_, rfl, ?_, ?_⟩
  · simp [results, Tryd.results9, go_sem, hc1]
  · exact made_stored3 (MadeX.down HM4.out (by simp at hs1; omega)) hne _ _ _
  · exact (((below_then (below_three _ _ _ _) hb1).setCell (by simp; omega) _).setCell (by simp; omega) _).setCell (by simp; omega) _

set_option maxRecDepth 100000 in
set_option maxHeartbeats 4000000 in
theorem do_ins (c : Cf) (A : Option Addr) (l : List R) (d : Nat) (o : O) (ho : Wf o) (hAn : A = none → l.length = 0 ∧ d = 0) (hl : l.length ≤ 100000) (ht : IsTab c l) (hf : Fits c.bits.toNat o) (hk : o.k = 1) (hgood : chk c o = 0) (w : World) (hp : Obs w) (h : IsR w A l) :
    Calls Tryd.prog 9 #[cfv c, .slice A l.length d, opv o] w (Did4 (insR c.cap.toNat l (2 ^ o.b + o.a) o.c) 0 w) := by
  have HM := Lib.hid (isOf_any c)
  have hg : Ok c ∧ c.obj = 1 := ⟨ht.1, ht.2.1⟩
  rw [decide_eq_true hg] at HM
  obtain ⟨n, hn, hn6⟩ : ∃ n : Nat, c.bits = n ∧ n ≤ 6 := by
    have hb := hg.1.1
    have ho := hg.2
    unfold ObjOk at hb
    exact ⟨c.bits.toNat, by omega, by omega⟩
  obtain ⟨cap, hcap⟩ : ∃ cap : Nat, c.cap = cap := by
    have hb := hg.1.2.2
    unfold RestOk at hb
    exact ⟨c.cap.toNat, by omega⟩
  have hz : sz c = 2 ^ (n + 1) := by unfold sz; rw [if_pos hg.2, hn, Int.toNat_natCast]
  have HR := Lib.hid (fun W hA => are_any c n hn hn6 A l d (by omega) W hA)
  have e : decide ((l.length : Int) ≤ c.cap ∧ Up l ∧ ∀ x ∈ l, RowOk (2 ^ (n + 1)) x) = true := decide_eq_true ⟨ht.2.2.1, ht.2.2.2.1, by rw [← hz]; exact ht.2.2.2.2⟩
  rw [e] at HR
  have HA := Lib.hid h
  have HCL := Lib.hid (fun W hA => clone_any A l d (by omega) hAn W hA)
  have HCK := Lib.hid (check_op c o ho)
  have HP := Lib.hid hp
  have hob := hg.2
  have hlc : l.length ≤ cap := by have := ht.2.2.1; omega
  have HV := Lib.hid (And.intro ht.2.2.2.1 (show ∀ x ∈ l, x.2 ≤ 2147483647 from fun x hx => (ht.2.2.2.2 x hx).2.2))
  rw [hgood] at HCK
  have hft : o.b ≤ n ∧ o.a < 2 ^ o.b := by
    unfold Fits at hf
    rw [hn, Int.toNat_natCast, hk] at hf
    have : Prefix n o.a o.b := by
      rcases hf with h | h | h | h | h | h | h | h | h | h <;> first | exact h.2.1 | omega
    exact this
  have HI := Lib.hid (fun W B hB v hm => ins_any c cap hcap o ho (by omega) hft.2 W B hB v l (by omega) hlc HV.out.1 HV.out.2 hm)
  rw [show c.cap.toNat = cap by omega]
  obtain ⟨s, hs⟩ : ∃ s, insR cap l (2 ^ o.b + o.a) o.c = s := ⟨_, rfl⟩
  rw [hs] at HI ⊢
  clear hs hft
  obtain ⟨rows, x, y⟩ := s
  clear e hz h ht hAn ho hp hg hf hgood
  unfold cfv opv at *
  rw [hob] at HM HR HCK HI ⊢
  rw [hn, hcap] at HM HR HCK HI ⊢
  rw [hk] at HCK HI ⊢
  clear hob hn hcap hk
  generalize hN : l.length = N at *
  have HNL := Lib.hid hN
  clear hN
  go_enter Tryd.func9, Tryd.ntmps9
  go_wp2_with (first
    | (go_at_call 22; refine (HM.out _).mono ?_; rintro e w1 ⟨rfl, hb1⟩; obtain ⟨hc1, hf1⟩ := bcell hb1)
    | (go_at_call 23; refine (HR.out _ (HA.out.below (below_then (below_three _ _ _ _) hb1))).mono ?_; rintro e w2 ⟨rfl, hb2⟩; replace hb1 := below_then hb1 hb2; clear hc1 hf1 hb2; obtain ⟨hc1, hf1⟩ := bcell hb1)
    | (go_at_call 24; refine (HCL.out _ (HA.out.below (below_then (below_three _ _ _ _) hb1))).mono ?_; rintro e w3 ⟨u3, rfl, hM3, hb3⟩; have hs1 := hb1.size; replace hb1 := below_then hb1 hb3; clear hc1 hf1 hb3; obtain ⟨hc1, hf1⟩ := bcell hb1; have HM3 := Lib.hid hM3; clear hM3)
    | (go_at_call 25; refine (HCK.out _ (HP.out.below (below_then (below_three _ _ _ _) hb1))).mono ?_; rintro e w4 ⟨rfl, hb4⟩; replace hb1 := below_then hb1 hb4; clear hc1 hf1; obtain ⟨hc1, hf1⟩ := bcell hb1))
  have HM4 := Lib.hid (HM3.out.below hb4)
  have hne : u3.ownBlock ≠ some (w.heap.size + 1 + 1) := fun e => by
    have := (MadeX.lt HM3.out _ e).1
    simp at hs1; omega
  have hq : w.heap.size + 1 + 1 < w4.heap.size := by have := hb1.size; simp at this; omega
  have hbw := below_then (below_three _ _ _ _) hb1
  refine (HI.out w4 w.heap.size hbw.size u3 (MadeX.down HM4.out (by simp at hs1; omega))).mono ?_
  rintro e w5 ⟨u, rfl, hM5, hg5⟩
  have hx : ∀ j, w5.cell? ⟨w.heap.size + 1 + 1, j, none⟩ = w4.cell? ⟨w.heap.size + 1 + 1, j, none⟩ := fun j => World.cell?_of_block (hg5.block _ hq (fun e => hne e.symm))
  have hy : ∀ j, w5.frozen? ⟨w.heap.size + 1 + 1, j, none⟩ = w4.frozen? ⟨w.heap.size + 1 + 1, j, none⟩ := fun j => World.frozen?_of_block (hg5.block _ hq (fun e => hne e.symm))
  have r0 : w5.cell? ⟨w.heap.size + 1 + 1, 0, none⟩ = some (.int .i64 0) := (hx 0).trans ((hc1 _ _ (by simp)).trans (by simp [go_sem]))
  have r1 : w5.cell? ⟨w.heap.size + 1 + 1, 1, none⟩ = some (.int .u32 0) := (hx 1).trans ((hc1 _ _ (by simp)).trans (by simp [go_sem]))
  have r2 : w5.cell? ⟨w.heap.size + 1 + 1, 2, none⟩ = some (.slice none 0 0) := (hx 2).trans ((hc1 _ _ (by simp)).trans (by simp [go_sem]))
  have f0 : w5.frozen? ⟨w.heap.size + 1 + 1, 0, none⟩ = false := (hy 0).trans ((hf1 _ _ (by simp)).trans (by simp [go_sem]))
  have f1 : w5.frozen? ⟨w.heap.size + 1 + 1, 1, none⟩ = false := (hy 1).trans ((hf1 _ _ (by simp)).trans (by simp [go_sem]))
  have f2 : w5.frozen? ⟨w.heap.size + 1 + 1, 2, none⟩ = false := (hy 2).trans ((hf1 _ _ (by simp)).trans (by simp [go_sem]))
  have h3 := HM3.out
  have hb5 := Lib.hid (hbw.grown hg5 hbw.size (fun k hk => by have := (MadeX.lt h3 k hk).1; simp at hs1; omega))
  have hre : w5.heap[w.heap.size + 1 + 1]? = some (.cells #[.int .i64 0, .int .u32 0, .slice none 0 0] 29 (0, 0)) := (hg5.block _ hq (fun e => hne e.symm)).trans ((hb1.block (w.heap.size + 1 + 1) (by simp)).trans (third_new _ _ _ _))
  have hnu := made_ne hM5 hre (by decide)
  have HNU := Lib.hid hnu
  have HM5 := Lib.hid hM5
  clear hx hy hc1 hf1 hre hbw hM5 hg5 h3 hnu
  have mixed : Tryd.prog.follows Departure.mixedOrders = true := by kernel_rfl
  unfold resv
  go_wp2
  obtain ⟨W6, hW6⟩ : ∃ W6, W6 = ((w5.setCell ⟨w.heap.size + 1 + 1, 0, none⟩ (.int .i64 x)).setCell ⟨w.heap.size + 1 + 1, 1, none⟩ (.int .u32 y)).setCell ⟨w.heap.size + 1 + 1, 2, none⟩ (.slice none 0 0) := ⟨_, rfl⟩
  rw [← hW6]
  have s0 : W6.cell? ⟨w.heap.size + 1 + 1, 0, none⟩ = some (.int .i64 x) := by rw [hW6]; simp [go_sem, r0]
  have s1 : W6.cell? ⟨w.heap.size + 1 + 1, 1, none⟩ = some (.int .u32 y) := by rw [hW6]; simp [go_sem, r1]
  have s2 : W6.cell? ⟨w.heap.size + 1 + 1, 2, none⟩ = some (.slice none 0 0) := by rw [hW6]; simp [go_sem, r2]
  have t0 : W6.frozen? ⟨w.heap.size + 1 + 1, 0, none⟩ = false := by rw [hW6]; simp [go_sem, f0]
  have t1 : W6.frozen? ⟨w.heap.size + 1 + 1, 1, none⟩ = false := by rw [hW6]; simp [go_sem, f1]
  have t2 : W6.frozen? ⟨w.heap.size + 1 + 1, 2, none⟩ = false := by rw [hW6]; simp [go_sem, f2]
  have HM6 := Lib.hid (show MadeX W6 w.heap.size 24 2 rowL u rows by rw [hW6]; exact made_stored3 HM5.out HNU.out _ _ _)
  have hb6 := Lib.hid (show Below w.heap.size w W6 by rw [hW6]; exact ((hb5.out.setCell (by simp; omega) _).setCell (by simp; omega) _).setCell (by simp; omega) _)
  clear hW6 r0 r1 r2 f0 f1 f2
  go_region
  go_wp2
  refine bodyPost_ret (v := .tuple #[u, .agg #[.int .i64 x, .int .u32 y, .slice none 0 0], .int .i64 0]) ?_ rfl ⟨_, rfl, ?_, ?_⟩
  · simp [results, Tryd.results9, go_sem, s0, s1, s2]
  · exact made_stored3 (MadeX.below HM6.out ⟨rfl, rfl, rfl, Nat.le_refl _, fun _ _ => rfl⟩) HNU.out _ _ _
  · exact ((hb6.out.drew.setCell (by simp; omega) _).setCell (by simp; omega) _).setCell (by simp; omega) _
end Go.Proofs.YtfjpcdcaoefelaaDoor

namespace Go.Proofs.YtfjpcdcaoefelaaDoor
open Go.RowKit Go.Lib Tb Pt Opn

set_option maxRecDepth 100000 in
set_option maxHeartbeats 4000000 in
theorem do_rem (c : Cf) (A : Option Addr) (l : List R) (d : Nat) (o : O) (ho : Wf o) (hAn : A = none → l.length = 0 ∧ d = 0) (hl : l.length ≤ 100000) (ht : IsTab c l) (hf : Fits c.bits.toNat o) (hk : o.k = 2) (hgood : chk c o = 0) (w : World) (hp : Obs w) (h : IsR w A l) :
    Calls Tryd.prog 9 #[cfv c, .slice A l.length d, opv o] w (Did4 (remR l (2 ^ o.b + o.a)) 0 w) := by
  have HM := Lib.hid (isOf_any c)
  have hg : Ok c ∧ c.obj = 1 := ⟨ht.1, ht.2.1⟩
  rw [decide_eq_true hg] at HM
  obtain ⟨n, hn, hn6⟩ : ∃ n : Nat, c.bits = n ∧ n ≤ 6 := by
    have hb := hg.1.1
    have ho := hg.2
    unfold ObjOk at hb
    exact ⟨c.bits.toNat, by omega, by omega⟩
  obtain ⟨cap, hcap⟩ : ∃ cap : Nat, c.cap = cap := by
    have hb := hg.1.2.2
    unfold RestOk at hb
    exact ⟨c.cap.toNat, by omega⟩
  have hz : sz c = 2 ^ (n + 1) := by unfold sz; rw [if_pos hg.2, hn, Int.toNat_natCast]
  have HR := Lib.hid (fun W hA => are_any c n hn hn6 A l d (by omega) W hA)
  have e : decide ((l.length : Int) ≤ c.cap ∧ Up l ∧ ∀ x ∈ l, RowOk (2 ^ (n + 1)) x) = true := decide_eq_true ⟨ht.2.2.1, ht.2.2.2.1, by rw [← hz]; exact ht.2.2.2.2⟩
  rw [e] at HR
  have HA := Lib.hid h
  have HCL := Lib.hid (fun W hA => clone_any A l d (by omega) hAn W hA)
  have HCK := Lib.hid (check_op c o ho)
  have HP := Lib.hid hp
  have hob := hg.2
  have hlc : l.length ≤ cap := by have := ht.2.2.1; omega
  have HV := Lib.hid (And.intro ht.2.2.2.1 (show ∀ x ∈ l, x.2 ≤ 2147483647 from fun x hx => (ht.2.2.2.2 x hx).2.2))
  rw [hgood] at HCK
  have hft : o.b ≤ n ∧ o.a < 2 ^ o.b := by
    unfold Fits at hf
    rw [hn, Int.toNat_natCast, hk] at hf
    have : Prefix n o.a o.b := by
      rcases hf with h | h | h | h | h | h | h | h | h | h <;> first | exact h.2.1 | omega
    exact this
  have HI := Lib.hid (fun W B hB v hm => rem_any o (by omega) hft.2 W B hB v l (by omega) HV.out.1 HV.out.2 hm)
  obtain ⟨s, hs⟩ : ∃ s, remR l (2 ^ o.b + o.a) = s := ⟨_, rfl⟩
  rw [hs] at HI ⊢
  clear hs hft
  obtain ⟨rows, x, y⟩ := s
  clear e hz h ht hAn ho hp hg hf hgood
  unfold cfv opv at *
  rw [hob] at HM HR HCK ⊢
  rw [hn, hcap] at HM HR HCK ⊢
  rw [hk] at HCK HI ⊢
  clear hob hn hcap hk
  generalize hN : l.length = N at *
  have HNL := Lib.hid hN
  clear hN
  go_enter Tryd.func9, Tryd.ntmps9
  go_wp2_with (first
    | (go_at_call 22; refine (HM.out _).mono ?_; rintro e w1 ⟨rfl, hb1⟩; obtain ⟨hc1, hf1⟩ := bcell hb1)
    | (go_at_call 23; refine (HR.out _ (HA.out.below (below_then (below_three _ _ _ _) hb1))).mono ?_; rintro e w2 ⟨rfl, hb2⟩; replace hb1 := below_then hb1 hb2; clear hc1 hf1 hb2; obtain ⟨hc1, hf1⟩ := bcell hb1)
    | (go_at_call 24; refine (HCL.out _ (HA.out.below (below_then (below_three _ _ _ _) hb1))).mono ?_; rintro e w3 ⟨u3, rfl, hM3, hb3⟩; have hs1 := hb1.size; replace hb1 := below_then hb1 hb3; clear hc1 hf1 hb3; obtain ⟨hc1, hf1⟩ := bcell hb1; have HM3 := Lib.hid hM3; clear hM3)
    | (go_at_call 25; refine (HCK.out _ (HP.out.below (below_then (below_three _ _ _ _) hb1))).mono ?_; rintro e w4 ⟨rfl, hb4⟩; replace hb1 := below_then hb1 hb4; clear hc1 hf1; obtain ⟨hc1, hf1⟩ := bcell hb1))
  have HM4 := Lib.hid (HM3.out.below hb4)
  have hne : u3.ownBlock ≠ some (w.heap.size + 1 + 1) := fun e => by
    have := (MadeX.lt HM3.out _ e).1
    simp at hs1; omega
  have hq : w.heap.size + 1 + 1 < w4.heap.size := by have := hb1.size; simp at this; omega
  have hbw := below_then (below_three _ _ _ _) hb1
  refine (HI.out w4 w.heap.size hbw.size u3 (MadeX.down HM4.out (by simp at hs1; omega))).mono ?_
  rintro e w5 ⟨u, rfl, hM5, hg5⟩
  have hx : ∀ j, w5.cell? ⟨w.heap.size + 1 + 1, j, none⟩ = w4.cell? ⟨w.heap.size + 1 + 1, j, none⟩ := fun j => World.cell?_of_block (hg5.block _ hq (fun e => hne e.symm))
  have hy : ∀ j, w5.frozen? ⟨w.heap.size + 1 + 1, j, none⟩ = w4.frozen? ⟨w.heap.size + 1 + 1, j, none⟩ := fun j => World.frozen?_of_block (hg5.block _ hq (fun e => hne e.symm))
  have r0 : w5.cell? ⟨w.heap.size + 1 + 1, 0, none⟩ = some (.int .i64 0) := (hx 0).trans ((hc1 _ _ (by simp)).trans (by simp [go_sem]))
  have r1 : w5.cell? ⟨w.heap.size + 1 + 1, 1, none⟩ = some (.int .u32 0) := (hx 1).trans ((hc1 _ _ (by simp)).trans (by simp [go_sem]))
  have r2 : w5.cell? ⟨w.heap.size + 1 + 1, 2, none⟩ = some (.slice none 0 0) := (hx 2).trans ((hc1 _ _ (by simp)).trans (by simp [go_sem]))
  have f0 : w5.frozen? ⟨w.heap.size + 1 + 1, 0, none⟩ = false := (hy 0).trans ((hf1 _ _ (by simp)).trans (by simp [go_sem]))
  have f1 : w5.frozen? ⟨w.heap.size + 1 + 1, 1, none⟩ = false := (hy 1).trans ((hf1 _ _ (by simp)).trans (by simp [go_sem]))
  have f2 : w5.frozen? ⟨w.heap.size + 1 + 1, 2, none⟩ = false := (hy 2).trans ((hf1 _ _ (by simp)).trans (by simp [go_sem]))
  have h3 := HM3.out
  have hb5 := Lib.hid (hbw.grown hg5 hbw.size (fun k hk => by have := (MadeX.lt h3 k hk).1; simp at hs1; omega))
  have hre : w5.heap[w.heap.size + 1 + 1]? = some (.cells #[.int .i64 0, .int .u32 0, .slice none 0 0] 29 (0, 0)) := (hg5.block _ hq (fun e => hne e.symm)).trans ((hb1.block (w.heap.size + 1 + 1) (by simp)).trans (third_new _ _ _ _))
  have hnu := made_ne hM5 hre (by decide)
  have HNU := Lib.hid hnu
  have HM5 := Lib.hid hM5
  clear hx hy hc1 hf1 hre hbw hM5 hg5 h3 hnu
  have mixed : Tryd.prog.follows Departure.mixedOrders = true := by kernel_rfl
  unfold resv
  go_wp2
  obtain ⟨W6, hW6⟩ : ∃ W6, W6 = ((w5.setCell ⟨w.heap.size + 1 + 1, 0, none⟩ (.int .i64 x)).setCell ⟨w.heap.size + 1 + 1, 1, none⟩ (.int .u32 y)).setCell ⟨w.heap.size + 1 + 1, 2, none⟩ (.slice none 0 0) := ⟨_, rfl⟩
  rw [← hW6]
  have s0 : W6.cell? ⟨w.heap.size + 1 + 1, 0, none⟩ = some (.int .i64 x) := by rw [hW6]; simp [go_sem, r0]
  have s1 : W6.cell? ⟨w.heap.size + 1 + 1, 1, none⟩ = some (.int .u32 y) := by rw [hW6]; simp [go_sem, r1]
  have s2 : W6.cell? ⟨w.heap.size + 1 + 1, 2, none⟩ = some (.slice none 0 0) := by rw [hW6]; simp [go_sem, r2]
  have t0 : W6.frozen? ⟨w.heap.size + 1 + 1, 0, none⟩ = false := by rw [hW6]; simp [go_sem, f0]
  have t1 : W6.frozen? ⟨w.heap.size + 1 + 1, 1, none⟩ = false := by rw [hW6]; simp [go_sem, f1]
  have t2 : W6.frozen? ⟨w.heap.size + 1 + 1, 2, none⟩ = false := by rw [hW6]; simp [go_sem, f2]
  have HM6 := Lib.hid (show MadeX W6 w.heap.size 24 2 rowL u rows by rw [hW6]; exact made_stored3 HM5.out HNU.out _ _ _)
  have hb6 := Lib.hid (show Below w.heap.size w W6 by rw [hW6]; exact ((hb5.out.setCell (by simp; omega) _).setCell (by simp; omega) _).setCell (by simp; omega) _)
  clear hW6 r0 r1 r2 f0 f1 f2
  go_region
  go_wp2
  refine bodyPost_ret (v := .tuple #[u, .agg #[.int .i64 x, .int .u32 y, .slice none 0 0], .int .i64 0]) ?_ rfl ⟨_, rfl, ?_, ?_⟩
  · simp [results, Tryd.results9, go_sem, s0, s1, s2]
  · exact made_stored3 (MadeX.below HM6.out ⟨rfl, rfl, rfl, Nat.le_refl _, fun _ _ => rfl⟩) HNU.out _ _ _
  · exact ((hb6.out.drew.setCell (by simp; omega) _).setCell (by simp; omega) _).setCell (by simp; omega) _

set_option maxRecDepth 100000 in
set_option maxHeartbeats 4000000 in
theorem do_look (c : Cf) (A : Option Addr) (l : List R) (d : Nat) (o : O) (ho : Wf o) (hAn : A = none → l.length = 0 ∧ d = 0) (hl : l.length ≤ 100000) (ht : IsTab c l) (hf : Fits c.bits.toNat o) (hk : o.k = 3) (hgood : chk c o = 0) (w : World) (hp : Obs w) (h : IsR w A l) :
    Calls Tryd.prog 9 #[cfv c, .slice A l.length d, opv o] w (Did4 ((l, lookC (seek l c.bits.toNat o.a c.bits.toNat), lookV (seek l c.bits.toNat o.a c.bits.toNat))) 0 w) := by
  have HM := Lib.hid (isOf_any c)
  have hg : Ok c ∧ c.obj = 1 := ⟨ht.1, ht.2.1⟩
  rw [decide_eq_true hg] at HM
  obtain ⟨n, hn, hn6⟩ : ∃ n : Nat, c.bits = n ∧ n ≤ 6 := by
    have hb := hg.1.1
    have ho := hg.2
    unfold ObjOk at hb
    exact ⟨c.bits.toNat, by omega, by omega⟩
  obtain ⟨cap, hcap⟩ : ∃ cap : Nat, c.cap = cap := by
    have hb := hg.1.2.2
    unfold RestOk at hb
    exact ⟨c.cap.toNat, by omega⟩
  have hz : sz c = 2 ^ (n + 1) := by unfold sz; rw [if_pos hg.2, hn, Int.toNat_natCast]
  have HR := Lib.hid (fun W hA => are_any c n hn hn6 A l d (by omega) W hA)
  have e : decide ((l.length : Int) ≤ c.cap ∧ Up l ∧ ∀ x ∈ l, RowOk (2 ^ (n + 1)) x) = true := decide_eq_true ⟨ht.2.2.1, ht.2.2.2.1, by rw [← hz]; exact ht.2.2.2.2⟩
  rw [e] at HR
  have HA := Lib.hid h
  have HCL := Lib.hid (fun W hA => clone_any A l d (by omega) hAn W hA)
  have HCK := Lib.hid (check_op c o ho)
  have HP := Lib.hid hp
  have hob := hg.2
  have hlc : l.length ≤ cap := by have := ht.2.2.1; omega
  have HV := Lib.hid (And.intro ht.2.2.2.1 (show ∀ x ∈ l, x.2 ≤ 2147483647 from fun x hx => (ht.2.2.2.2 x hx).2.2))
  rw [hgood] at HCK
  have hft : o.a < 2 ^ n := by
    unfold Fits at hf
    rw [hn, Int.toNat_natCast, hk] at hf
    rcases hf with h | h | h | h | h | h | h | h | h | h <;> first | exact h.2.1 | omega
  have HI := Lib.hid (fun W A' d' hA => look_any c n hn hn6 A' l d' o hft (by omega) HV.out.1 HV.out.2 W hA)
  rw [show c.bits.toNat = n by omega]
  obtain ⟨x, hx⟩ : ∃ x, lookC (seek l n o.a n) = x := ⟨_, rfl⟩
  obtain ⟨y, hy⟩ : ∃ y, lookV (seek l n o.a n) = y := ⟨_, rfl⟩
  rw [hx, hy] at HI ⊢
  unfold resv at HI
  clear hx hy hft
  clear e hz h ht hAn ho hp hg hf hgood
  unfold cfv opv at *
  rw [hob] at HM HR HCK HI ⊢
  rw [hn, hcap] at HM HR HCK HI ⊢
  rw [hk] at HCK HI ⊢
  clear hob hn hcap hk
  generalize hN : l.length = N at *
  have HNL := Lib.hid hN
  clear hN
  go_enter Tryd.func9, Tryd.ntmps9
  go_wp2_with (first
    | (go_at_call 22; refine (HM.out _).mono ?_; rintro e w1 ⟨rfl, hb1⟩; obtain ⟨hc1, hf1⟩ := bcell hb1)
    | (go_at_call 23; refine (HR.out _ (HA.out.below (below_then (below_three _ _ _ _) hb1))).mono ?_; rintro e w2 ⟨rfl, hb2⟩; replace hb1 := below_then hb1 hb2; clear hc1 hf1 hb2; obtain ⟨hc1, hf1⟩ := bcell hb1)
    | (go_at_call 24; refine (HCL.out _ (HA.out.below (below_then (below_three _ _ _ _) hb1))).mono ?_; rintro e w3 ⟨u3, rfl, hM3, hb3⟩; have hs1 := hb1.size; replace hb1 := below_then hb1 hb3; clear hc1 hf1 hb3; obtain ⟨hc1, hf1⟩ := bcell hb1; have HM3 := Lib.hid hM3; clear hM3)
    | (go_at_call 25; refine (HCK.out _ (HP.out.below (below_then (below_three _ _ _ _) hb1))).mono ?_; rintro e w4 ⟨rfl, hb4⟩; replace hb1 := below_then hb1 hb4; clear hc1 hf1; obtain ⟨hc1, hf1⟩ := bcell hb1))
  have HM4 := Lib.hid (HM3.out.below hb4)
  have hne : u3.ownBlock ≠ some (w.heap.size + 1 + 1) := fun e => by
    have := (MadeX.lt HM3.out _ e).1
    simp at hs1; omega
  have hq : w.heap.size + 1 + 1 < w4.heap.size := by have := hb1.size; simp at this; omega
  have hbw := below_then (below_three _ _ _ _) hb1
  have hfm := MadeX.form rowL_len HM4.out
  obtain ⟨A', d', hu3, _, _, hA'⟩ := hfm
  rw [HNL.out] at hu3
  have HA' := Lib.hid hA'
  have HU3 := Lib.hid hu3
  rw [hu3]
  refine (HI.out w4 A' d' HA'.out).mono ?_
  rintro e w5 ⟨rfl, hbl⟩
  have hg5 : w4.grownBy w5 u3.ownBlock := grown_below hbl _
  have hM5 : MadeX w5 w.heap.size 24 2 rowL u3 l := MadeX.below (MadeX.down HM4.out (by simp at hs1; omega)) hbl
  rw [← HU3.out]
  clear hu3 hA'
  have hx : ∀ j, w5.cell? ⟨w.heap.size + 1 + 1, j, none⟩ = w4.cell? ⟨w.heap.size + 1 + 1, j, none⟩ := fun j => World.cell?_of_block (hg5.block _ hq (fun e => hne e.symm))
  have hy : ∀ j, w5.frozen? ⟨w.heap.size + 1 + 1, j, none⟩ = w4.frozen? ⟨w.heap.size + 1 + 1, j, none⟩ := fun j => World.frozen?_of_block (hg5.block _ hq (fun e => hne e.symm))
  have r0 : w5.cell? ⟨w.heap.size + 1 + 1, 0, none⟩ = some (.int .i64 0) := (hx 0).trans ((hc1 _ _ (by simp)).trans (by simp [go_sem]))
  have r1 : w5.cell? ⟨w.heap.size + 1 + 1, 1, none⟩ = some (.int .u32 0) := (hx 1).trans ((hc1 _ _ (by simp)).trans (by simp [go_sem]))
  have r2 : w5.cell? ⟨w.heap.size + 1 + 1, 2, none⟩ = some (.slice none 0 0) := (hx 2).trans ((hc1 _ _ (by simp)).trans (by simp [go_sem]))
  have f0 : w5.frozen? ⟨w.heap.size + 1 + 1, 0, none⟩ = false := (hy 0).trans ((hf1 _ _ (by simp)).trans (by simp [go_sem]))
  have f1 : w5.frozen? ⟨w.heap.size + 1 + 1, 1, none⟩ = false := (hy 1).trans ((hf1 _ _ (by simp)).trans (by simp [go_sem]))
  have f2 : w5.frozen? ⟨w.heap.size + 1 + 1, 2, none⟩ = false := (hy 2).trans ((hf1 _ _ (by simp)).trans (by simp [go_sem]))
  have h3 := HM3.out
  have hb5 := Lib.hid (hbw.grown hg5 hbw.size (fun k hk => by have := (MadeX.lt h3 k hk).1; simp at hs1; omega))
  have hre : w5.heap[w.heap.size + 1 + 1]? = some (.cells #[.int .i64 0, .int .u32 0, .slice none 0 0] 29 (0, 0)) := (hg5.block _ hq (fun e => hne e.symm)).trans ((hb1.block (w.heap.size + 1 + 1) (by simp)).trans (third_new _ _ _ _))
  have hnu := made_ne hM5 hre (by decide)
  have HNU := Lib.hid hnu
  have HM5 := Lib.hid hM5
  clear hx hy hc1 hf1 hre hbw hM5 hg5 h3 hnu
  have mixed : Tryd.prog.follows Departure.mixedOrders = true := by kernel_rfl
  go_wp2
  obtain ⟨W6, hW6⟩ : ∃ W6, W6 = ((w5.setCell ⟨w.heap.size + 1 + 1, 0, none⟩ (.int .i64 x)).setCell ⟨w.heap.size + 1 + 1, 1, none⟩ (.int .u32 y)).setCell ⟨w.heap.size + 1 + 1, 2, none⟩ (.slice none 0 0) := ⟨_, rfl⟩
  rw [← hW6]
  have s0 : W6.cell? ⟨w.heap.size + 1 + 1, 0, none⟩ = some (.int .i64 x) := by rw [hW6]; simp [go_sem, r0]
  have s1 : W6.cell? ⟨w.heap.size + 1 + 1, 1, none⟩ = some (.int .u32 y) := by rw [hW6]; simp [go_sem, r1]
  have s2 : W6.cell? ⟨w.heap.size + 1 + 1, 2, none⟩ = some (.slice none 0 0) := by rw [hW6]; simp [go_sem, r2]
  have t0 : W6.frozen? ⟨w.heap.size + 1 + 1, 0, none⟩ = false := by rw [hW6]; simp [go_sem, f0]
  have t1 : W6.frozen? ⟨w.heap.size + 1 + 1, 1, none⟩ = false := by rw [hW6]; simp [go_sem, f1]
  have t2 : W6.frozen? ⟨w.heap.size + 1 + 1, 2, none⟩ = false := by rw [hW6]; simp [go_sem, f2]
  have HM6 := Lib.hid (show MadeX W6 w.heap.size 24 2 rowL u3 l by rw [hW6]; exact made_stored3 HM5.out HNU.out _ _ _)
  have hb6 := Lib.hid (show Below w.heap.size w W6 by rw [hW6]; exact ((hb5.out.setCell (by simp; omega) _).setCell (by simp; omega) _).setCell (by simp; omega) _)
  clear hW6 r0 r1 r2 f0 f1 f2
  go_region
  go_wp2
  refine bodyPost_ret (v := .tuple #[u3, .agg #[.int .i64 x, .int .u32 y, .slice none 0 0], .int .i64 0]) ?_ rfl ⟨_, rfl, ?_, ?_⟩
  · simp [results, Tryd.results9, go_sem, s0, s1, s2]
  · exact made_stored3 (MadeX.below HM6.out ⟨rfl, rfl, rfl, Nat.le_refl _, fun _ _ => rfl⟩) HNU.out _ _ _
  · exact ((hb6.out.drew.setCell (by simp; omega) _).setCell (by simp; omega) _).setCell (by simp; omega) _
end Go.Proofs.YtfjpcdcaoefelaaDoor

namespace Go.Proofs.YtfjpcdcaoefelaaDoor
open Go.RowKit Go.Lib Tb Pt Opn

theorem done_ins {n cap : Nat} {l : List R} {o : O} (hk : o.k = 1) : doneR n cap l o.k o.a o.b o.c = insR cap l (2 ^ o.b + o.a) o.c := by
  rw [hk]; unfold doneR insR; rw [if_neg (by decide), if_pos rfl] <;> cases Tb.get l (2 ^ o.b + o.a) <;> rfl
theorem done_rem {n cap : Nat} {l : List R} {o : O} (hk : o.k = 2) : doneR n cap l o.k o.a o.b o.c = remR l (2 ^ o.b + o.a) := by
  rw [hk]; unfold doneR remR; rw [if_neg (by decide), if_neg (by decide)] <;> cases Tb.get l (2 ^ o.b + o.a) <;> rfl
theorem done_look {n cap : Nat} {l : List R} {o : O} (hk : o.k = 3) : doneR n cap l o.k o.a o.b o.c = (l, lookC (seek l n o.a n), lookV (seek l n o.a n)) := by
  rw [hk]; unfold doneR lookC lookV; rw [if_pos rfl] <;> cases seek l n o.a n <;> rfl

theorem do_any (c : Cf) (A : Option Addr) (l : List R) (d : Nat) (o : O) (ho : Wf o) (hAn : A = none → l.length = 0 ∧ d = 0) (hl : l.length ≤ 100000) (w : World) (hp : Obs w) (h : IsR w A l) :
    Calls Tryd.prog 9 #[cfv c, .slice A l.length d, opv o] w (Did4 (doR c l o) (doE c l) w) := by
  by_cases h1 : Ok c ∧ c.obj = 1
  · by_cases h2 : IsTab c l
    · have e2 : doE c l = 0 := by unfold doE; rw [if_neg (not_not_intro h1), if_neg (not_not_intro h2)]
      by_cases h3 : chk c o = 0
      · have e : doR c l o = doneR c.bits.toNat c.cap.toNat l o.k o.a o.b o.c := by unfold doR; rw [if_neg (not_not_intro h1), if_neg (not_not_intro h2), if_neg (not_not_intro h3)]
        rw [e, e2]
        obtain ⟨_, g2, g3⟩ := chk_zero h3
        have hk := route_kind (k := o.k) (by rw [g2]; exact h1.2)
        rcases (by omega : o.k = 1 ∨ o.k = 2 ∨ o.k = 3) with hk | hk | hk
        · rw [done_ins hk]; exact do_ins c A l d o ho hAn hl h2 g3 hk h3 w hp h
        · rw [done_rem hk]; exact do_rem c A l d o ho hAn hl h2 g3 hk h3 w hp h
        · rw [done_look hk]; exact do_look c A l d o ho hAn hl h2 g3 hk h3 w hp h
      · have e : doR c l o = (l, chk c o, 0) := by unfold doR; rw [if_neg (not_not_intro h1), if_neg (not_not_intro h2), if_pos h3]
        rw [e, e2]
        exact do_bad c A l d o ho hAn hl h2 h3 w hp h
    · have e : doR c l o = ([], 0, 0) := by unfold doR; rw [if_neg (not_not_intro h1), if_pos h2]
      have e2 : doE c l = 2 := by unfold doE; rw [if_neg (not_not_intro h1), if_pos h2]
      rw [e, e2]
      exact do_arg c A l d o (by omega) h1 h2 w h
  · have e : doR c l o = ([], 0, 0) := by unfold doR; rw [if_pos h1]
    have e2 : doE c l = 40 := by unfold doE; rw [if_pos h1]
    rw [e, e2]
    exact do_conf c A l.length d o h1 w
end Go.Proofs.YtfjpcdcaoefelaaDoor
