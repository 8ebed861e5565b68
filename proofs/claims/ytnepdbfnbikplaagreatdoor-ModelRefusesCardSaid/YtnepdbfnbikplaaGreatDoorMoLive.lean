/- The chapter's example, as the document's law asks it ahead of each of its questions. -/
import Derived.Test.YtnepdbfnbikplaaGreatDoorMoAll
import Derived.Test.YtnepdbfnbikplaaGreatDoorMoSame
namespace Go.Proofs.YtnepdbfnbikplaaGreatDoor
open Go.RowKit Go.Lib Tb Pt Opn

theorem isl_lit {X : Type} {s : Nat} {L : X → List Value} (hL : ∀ x, (L x).length = s) (w : World) (xs : Array Value) (t : TypeId) (l : List X) (hx : xs.toList = flatL L l) : IsL (w.alloc (.cells xs t)) (some ⟨w.heap.size, 0, none⟩) s L l := fun i x hi => by
  refine ⟨w.heap.size, 0, rfl, fun j u hj => ?_⟩
  have hjs : j < s := by rw [← hL x]; exact (List.getElem?_eq_some_iff.1 hj).1
  have h := flatL_at hL hi hjs
  rw [hj, ← hx, Array.getElem?_toList] at h
  rw [Nat.zero_add]
  exact cell_of (heap_alloc_new w _) _ h

def cfM : Cf := ⟨3, 2, 1, 1, 0, 0, 2, 0, 1, 0, 131072, 0⟩
def opsM : List O := [⟨9, 1, 1, 2⟩, ⟨11, 1, 1, 0⟩, ⟨11, 2, 1, 0⟩, ⟨10, 5, 5, 0⟩]
def ansM : List Ans := [(0, 0, []), (0, 2, []), (0, 0, []), (6, 0, [])]
theorem foldM_ex : foldR cfM opsM = ([(65537, 2)], ansM) ∧ foldE cfM opsM = 0 := by decide +kernel
theorem opsM_wf : ∀ o ∈ opsM, Wf o := fun o ho => by
  simp [opsM] at ho
  rcases ho with rfl | rfl | rfl | rfl <;> (unfold Wf; simp)

set_option maxRecDepth 100000 in
set_option maxHeartbeats 1000000 in
theorem mconf_any (w : World) : Calls Tryz.prog 9 #[] w (Ret (cfv cfM) w) := by
  unfold cfv cfM
  go_enter Tryz.func9, Tryz.ntmps9
  go_wp2
  refine bodyPost_ret (v := .agg #[.int .u8 3, .int .i64 2, .int .i64 1, .int .u8 1, .int .i64 0, .int .i64 0, .int .i64 2, .int .i64 0, .int .i64 1, .int .i64 0, .int .u64 131072, .int .u64 0]) ?_ rfl ⟨rfl, ?_⟩
  · simp [results, Tryz.results9, go_sem]
  · exact below_one _ _

theorem isas_lit (w : World) (t : TypeId) : IsAs (w.alloc (.cells #[.int .i64 0, .int .u32 0, .slice none 0 0, .int .i64 0, .int .u32 2, .slice none 0 0, .int .i64 0, .int .u32 0, .slice none 0 0, .int .i64 6, .int .u32 0, .slice none 0 0] t)) (some ⟨w.heap.size, 0, none⟩) ansM := fun i a ha => by
  have hn := fun j v h => cell_of (heap_alloc_new w (.cells #[.int .i64 0, .int .u32 0, .slice none 0 0, .int .i64 0, .int .u32 2, .slice none 0 0, .int .i64 0, .int .u32 0, .slice none 0 0, .int .i64 6, .int .u32 0, .slice none 0 0] t)) j (v := v) h
  refine ⟨w.heap.size, 0, .slice none 0 0, rfl, ?_⟩
  match i, ha with
  | 0, ha => injection ha with ha; subst ha; exact ⟨hn _ _ rfl, hn _ _ rfl, hn _ _ rfl, isrv_none _⟩
  | 1, ha => injection ha with ha; subst ha; exact ⟨hn _ _ rfl, hn _ _ rfl, hn _ _ rfl, isrv_none _⟩
  | 2, ha => injection ha with ha; subst ha; exact ⟨hn _ _ rfl, hn _ _ rfl, hn _ _ rfl, isrv_none _⟩
  | 3, ha => injection ha with ha; subst ha; exact ⟨hn _ _ rfl, hn _ _ rfl, hn _ _ rfl, isrv_none _⟩
  | i + 4, ha => simp [ansM] at ha

set_option maxRecDepth 100000 in
set_option maxHeartbeats 4000000 in
theorem malive_any (w : World) (hp : Obs w) : Calls Tryz.prog 4 #[] w (Ret (.bool true) w) := by
  have HP := Lib.hid hp
  have HF := Lib.hid (fun A W hp h => mfold_any cfM A opsM 4 (by decide) opsM_wf W hp h)
  rw [foldM_ex.1, foldM_ex.2] at HF
  have HC := Lib.hid (fun W => mconf_any W)
  have HSR := Lib.hid (fun A B c d W h g => rSameRows_any A B [(65537, 2)] [(65537, 2)] c d (by decide) W h g)
  have HSA := Lib.hid (fun A B c d W h g => mSameAll_any A B ansM ansM c d (by decide) (by decide) W h g)
  rw [decide_eq_true rfl] at HSR HSA
  have e1 : ([(65537, 2)] : List R).length = 1 := rfl
  have e2 : ansM.length = 4 := rfl
  have e3 : opsM.length = 4 := rfl
  rw [e1] at HSR
  rw [e2] at HSA
  rw [e3] at HF
  clear hp e1 e2 e3
  unfold cfv cfM at HC HF
  go_enter Tryz.func4, Tryz.ntmps4
  go_wp2_with (go_at_call 9; refine (HC.out _).mono ?_; rintro e w1 ⟨rfl, hb1⟩)
  refine (HF.out _ _ (HP.out.below (below_then hb1 (below_one _ _))) (isl_lit opC_len w1 _ _ opsM rfl)).mono ?_
  rintro e w3 ⟨u, t, rfl, hu, ht, hb3⟩
  obtain ⟨A1, c1, rfl, _, _, hr⟩ := hu
  obtain ⟨A2, c2, rfl, _, _, ha⟩ := ht.form
  have HR := Lib.hid hr
  have HA := Lib.hid ha
  have HB := Lib.hid (below_then (below_then hb1 (below_one _ _)) hb3)
  have e1 : ([(65537, 2)] : List R).length = 1 := rfl
  have e2 : ansM.length = 4 := rfl
  simp only [e1, e2]
  clear hr ha ht hb1 hb3
  go_wp2_with fail
  refine (HSR.out A1 _ c1 1 _ (HR.out.below (below_one _ _)) (isr_lit w3 _ [(65537, 2)] 1 rfl rfl (by decide))).mono ?_
  rintro e w4 ⟨rfl, hb4⟩
  have hb34 := below_then (below_one w3 _) hb4
  have HA4 := Lib.hid (HA.out.below hb34)
  have HB4 := Lib.hid (below_then HB.out hb34)
  clear hb34 hb4
  go_wp2_with fail
  refine (HSA.out A2 _ c2 4 _ (HA4.out.below (below_one _ _)) (isas_lit w4 _)).mono ?_
  rintro e w5 ⟨rfl, hb5⟩
  go_wp2
  go_ret
  exact Ret.mk rfl (below_then (below_then HB4.out (below_one _ _)) hb5)
end Go.Proofs.YtnepdbfnbikplaaGreatDoor
