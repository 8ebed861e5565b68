/- The program's own verdict: what the rules say that speak of somebody. -/
import Derived.Test.YtfkkeokmkhjpfaaDoorRuSpeak
import Derived.Test.YtfkkeokmkhjpfaaDoorScopeIn
namespace Go.Proofs.YtfkkeokmkhjpfaaDoor
open Go.RowKit Go.Shelf Tb Pt Opn
attribute [local go_sem] Oper.semAt_some

/-- How far nobody denies: the first i allow; what was heard so far. -/
def Heard (L : List R) (i v : Nat) : Prop := (∀ x ∈ L.take i, x.2 = 1) ∧ v = if i = 0 then 0 else 1
theorem heard_zero (L : List R) : Heard L 0 0 := ⟨fun x hx => by simp at hx, rfl⟩
theorem heard_step {L : List R} {i v : Nat} (h : Heard L i v) (hi : i < L.length) (hx : L[i].2 = 1) : Heard L (i + 1) 1 := by
  refine ⟨fun x hm => ?_, by simp⟩
  rw [List.take_succ_eq_append_getElem hi] at hm
  rcases List.mem_append.1 hm with hm | hm
  · exact h.1 x hm
  · rw [List.mem_singleton.1 hm]; exact hx
theorem heard_all {l : List R} {a b v : Nat} (hv : ∀ x ∈ l, RuOk x) (h : Heard (spk l a b) (spk l a b).length v) : says l a b = v := by
  obtain ⟨h1, h2⟩ := h
  rw [List.take_length] at h1
  obtain ⟨f1, f2, f3⟩ := says_facts hv a b
  have n2 : says l a b ≠ 2 := fun e => by
    obtain ⟨x, hx, hs, h2⟩ := f2.1 e
    have := h1 x (List.mem_filter.2 ⟨hx, hs⟩)
    omega
  by_cases e : (spk l a b).length = 0
  · rw [if_pos e] at h2
    rw [h2, f3]
    intro x hx
    have e2 := List.eq_nil_of_length_eq_zero e
    unfold spk at e2
    rw [List.filter_eq_nil_iff] at e2
    have := e2 x hx
    simpa using this
  · rw [if_neg e] at h2
    have : says l a b ≠ 0 := fun e0 => e (by
      unfold spk
      rw [List.length_eq_zero_iff, List.filter_eq_nil_iff]
      intro x hx
      rw [f3.1 e0 x hx]; simp)
    omega
theorem heard_no {l : List R} {a b i : Nat} (hv : ∀ x ∈ l, RuOk x) (hi : i < (spk l a b).length) (hx : (spk l a b)[i].2 = 2) : says l a b = 2 := by
  obtain ⟨f1, f2, f3⟩ := says_facts hv a b
  have hm := List.mem_filter.1 (List.getElem_mem hi : (spk l a b)[i] ∈ l.filter fun x => sp x.1 a b)
  exact f2.2 ⟨_, hm.1, hm.2, hx⟩

set_option maxRecDepth 100000 in
set_option maxHeartbeats 2000000 in
theorem verdict_any (A : Option Addr) (l : List R) (d : Nat) (hl : l.length ≤ 1000000) (hv : ∀ x ∈ l, RuOk x) (o : O) (ho : Wf o) (w : World) (h : IsR w A l) (hA : ∀ ad, A = some ad → ad.block < w.heap.size) :
    Calls Tryd.prog 26 #[.slice A l.length d, opv o] w (Ret (.int .u32 (says l o.a o.b : Nat)) w) := by
  have HF := Lib.hid (fun W => speaking_any A l.length d o.a o.b W)
  have HIT := Lib.hid (fun b0 b1 b2 cap w0 hc0 hc1 hc2 hcA h0 h1 h2 h3 => speak_iter 8 (by omega) A l d hl hv o.a o.b ho.2.1 ho.2.2.1 b0 b1 b2 cap w0 hc0 hc1 hc2 hcA h0 h1 h2 h3)
  have HALL := Lib.hid (fun v => heard_all (l := l) (a := o.a) (b := o.b) (v := v) hv)
  have HNO := Lib.hid (fun i => heard_no (l := l) (a := o.a) (b := o.b) (i := i) hv)
  have HVS := Lib.hid (show ∀ i (hi : i < (spk l o.a o.b).length), (spk l o.a o.b)[i].2 = 1 ∨ (spk l o.a o.b)[i].2 = 2 from fun i hi => (hv _ (List.mem_filter.1 (List.getElem_mem hi : (spk l o.a o.b)[i] ∈ l.filter fun x => sp x.1 o.a o.b)).1).2)
  have HAA := Lib.hid h
  obtain ⟨s, hs⟩ : ∃ s, says l o.a o.b = s := ⟨_, rfl⟩
  rw [hs] at HALL HNO ⊢
  clear hs hv h
  generalize spk l o.a o.b = L at *
  obtain ⟨N, hN⟩ : ∃ N, l.length = N := ⟨_, rfl⟩
  rw [hN] at HF HIT ⊢
  clear hN hl
  unfold opv
  refine (callsIn_wide (n := 9)).1 ?_
  refine callsIn_of_wp_marks Tryd.func26 rfl trivial ?_ rfl
  simp only [Tryd.ntmps26, List.size_toArray, List.length_cons, List.length_nil, Nat.reduceAdd, Nat.reduceSub, Array.replicate_succ, Array.replicate_zero, List.push_toArray, List.append_toArray, List.nil_append, List.cons_append]
  have hfw : ∀ f, Fence.wide.fn f := fun _ => trivial
  gi_wp2_with fail
  refine wpIn_scope_straight' ?_
  gi_wp2_with fail
  refine wpIn_label ?_
  obtain ⟨r, hr⟩ : ∃ r, w.heap.size = r := ⟨_, rfl⟩
  obtain ⟨W, hW⟩ : ∃ W, W = (w.alloc (.cells #[.int .u8 (o.k : Nat), .int .u32 (o.a : Nat), .int .u32 (o.b : Nat), .int .u32 (o.c : Nat)] 35)).alloc (.cells #[.int .u32 0] 27) := ⟨_, rfl⟩
  rw [← hW]
  have hz : W.heap.size = r + 2 := by rw [hW, ← hr]; simp
  have hbW : Below r w W := by rw [hW, ← hr]; exact below_two _ _ _
  have a1 : W.cell? ⟨r, 1, none⟩ = some (.int .u32 (o.a : Nat)) := by rw [hW, ← hr]; simp [go_sem]
  have a2 : W.cell? ⟨r, 2, none⟩ = some (.int .u32 (o.b : Nat)) := by rw [hW, ← hr]; simp [go_sem]
  have c1 : W.cell? ⟨r + 1, 0, none⟩ = some (.int .u32 0) := by rw [hW, ← hr]; simp [go_sem]
  have z1 : W.frozen? ⟨r + 1, 0, none⟩ = false := by rw [hW, ← hr]; simp [go_sem]
  have HR := Lib.hid hr
  have HAW := Lib.hid (HAA.out.below (by rw [hr]; exact hbW))
  have hrw : r ≤ w.heap.size := by omega
  rw [hr] at hA ⊢
  clear hW hr
  gi_wp2_with fail
  refine (callsIn_wide.2 (HF.out W)).mono ?_
  rintro e W2 ⟨rfl, hW2⟩
  rw [hz]
  have hb2 : Below (r + 2) W W2 := by rw [hW2, ← hz]; exact below_three _ _ _ _
  have hz2 : W2.heap.size = r + 5 := by rw [hW2]; simp [hz]
  have g0 : W2.cell? ⟨r + 2, 0, none⟩ = some (.slice A N d) := by rw [hW2, ← hz]; simp [go_sem]
  have g1 : W2.cell? ⟨r + 2 + 1, 0, none⟩ = some (.int .u32 (o.a : Nat)) := by rw [hW2, ← hz]; simp [go_sem]
  have g2 : W2.cell? ⟨r + 2 + 1 + 1, 0, none⟩ = some (.int .u32 (o.b : Nat)) := by rw [hW2, ← hz]; simp [go_sem]
  have hb02 : Below r w W2 := hbW.trans (hb2.mono (by omega))
  have c2 : W2.cell? ⟨r + 1, 0, none⟩ = some (.int .u32 0) := (hb2.cell (by show r + 1 < _; omega)).trans c1
  have z2 : W2.frozen? ⟨r + 1, 0, none⟩ = false := (hb2.frozen (by show r + 1 < _; omega)).trans z1
  have hit := HIT.out (r + 2) (r + 2 + 1) (r + 2 + 1 + 1) (fun k => k = r + 2 ∨ k = r + 3 ∨ k = r + 4 ∨ ∃ ad, A = some ad ∧ k = ad.block) W2 (.inl rfl) (.inr (.inl rfl)) (.inr (.inr (.inl rfl))) (fun ad e => .inr (.inr (.inr ⟨ad, e, rfl⟩))) g0 g1 g2 (HAW.out.below (by rw [hz]; exact hb2))
  clear hW2 g0 g1 g2 a1 a2 c1 z1 HIT HF hb2 hbW
  gi_wp2_with fail
  refine wpIn_rangeS (gf := 56) (lb := #[.pointer (some ⟨r + 2, 0, none⟩), .pointer (some ⟨r + 2 + 1, 0, none⟩), .pointer (some ⟨r + 2 + 1 + 1, 0, none⟩)]) rfl (enters_of Tryd.func56 (by kernel_rfl) rfl)
    hit ?hcap ?hps (fun k => k = r + 1) ?hC
    (fun i X => ∃ v : Nat, X.cell? ⟨r + 1, 0, none⟩ = some (.int .u32 v) ∧ X.frozen? ⟨r + 1, 0, none⟩ = false ∧ Hid (Heard L i v) ∧ Below r w X)
    (fun c _ X => c = .exit 0 ∧ Hid (s = 2) ∧ X.cell? ⟨r + 1, 0, none⟩ = some (.int .u32 2) ∧ Below r w X) ?hI ?hIx ?h0 ?round ?done ?stop
  case hcap =>
    rintro k (rfl | rfl | rfl | ⟨ad, e, rfl⟩)
    · exact ⟨by omega, rfl⟩
    · exact ⟨by omega, rfl⟩
    · exact ⟨by omega, rfl⟩
    · exact ⟨by have := hA ad e; omega, rfl⟩
  case hps => rintro B i args X ⟨_, rfl⟩; rfl
  case hC =>
    rintro k rfl
    refine ⟨?_, by omega, by omega⟩
    rintro (h | h | h | ⟨ad, e, h⟩)
    · omega
    · omega
    · omega
    · have := hA ad e; omega
  case hI =>
    rintro i X X' ⟨v, h2, h3, h4, h5⟩ ho
    exact ⟨v, ho.cell h2 (by show ¬ (_ ∧ _); simp only; omega), (ho.frozen (World.block_lt_of_cell? _ _ h2) (by show ¬ (_ ∧ _); simp only; omega)).trans h3, h4, Only.then_below (by omega) h5 ho (by omega)⟩
  case hIx =>
    rintro c i X X' ⟨h0, h1, h2, h5⟩ ho
    exact ⟨h0, h1, ho.cell h2 (by show ¬ (_ ∧ _); simp only; omega), Only.then_below (by omega) h5 ho (by omega)⟩
  case h0 => exact ⟨0, c2, z2, Lib.hid (heard_zero L), hb02⟩
  case round =>
    rintro lp i args X hi ⟨v, hv, hz1, HH, hbX⟩ ⟨hiL, rfl⟩ hlt
    have HST := Lib.hid (heard_step HH.out hiL)
    have HNI := Lib.hid (HNO.out i hiL)
    have hcase := HVS.out i hiL
    generalize L[i].2 = q at *
    have hX := World.block_lt_of_cell? _ _ hv
    clear c2 z2 hit HVS HALL HNO HAW HAA HH
    rcases hcase with rfl | rfl
    · gi_wp2
      refine ⟨Only.refl _ X, fun W₂ ho => ?_⟩
      have k2 : W₂.cell? ⟨r + 1, 0, none⟩ = some (.int .u32 v) := ho.cell hv (by simp only; omega)
      have k3 : W₂.frozen? ⟨r + 1, 0, none⟩ = false := (ho.frozen hX (by simp only; omega)).trans hz1
      have hb3 : Below r w W₂ := Only.then_below (by omega) hbX ho (by omega)
      clear ho
      gi_wp2
      refine ⟨(Only.refl (fun k => k = r + 1) W₂).setCell (p := ⟨r + 1, 0, none⟩) (.inl rfl) _, 1, ?_, ?_, Lib.hid (HST.out trivial), ?_⟩
      · exact World.cell?_setCell_same' _ _ _ (by rw [k2]; rfl)
      · simp [go_sem, k3]
      · exact hb3.setCell (by simp) _
    · gi_wp2
      refine ⟨Only.refl _ X, fun W₂ ho => ?_⟩
      have k2 : W₂.cell? ⟨r + 1, 0, none⟩ = some (.int .u32 v) := ho.cell hv (by simp only; omega)
      have k3 : W₂.frozen? ⟨r + 1, 0, none⟩ = false := (ho.frozen hX (by simp only; omega)).trans hz1
      have hb3 : Below r w W₂ := Only.then_below (by omega) hbX ho (by omega)
      clear ho
      gi_wp2
      refine ⟨(Only.refl (fun k => k = r + 1) W₂).setCell (p := ⟨r + 1, 0, none⟩) (.inl rfl) _, rfl, Lib.hid (HNI.out trivial), ?_, ?_⟩
      · exact World.cell?_setCell_same' _ _ _ (by rw [k2]; rfl)
      · exact hb3.setCell (by simp) _
  case done =>
    rintro X ⟨v, hv, hz1, HH, hbX⟩ hK
    have HK := Lib.hid hK
    have e := HALL.out v HH.out
    subst e
    clear hK c2 z2
    gi_wp2
    rw [Exit.noGoto_ret]
    refine marks_ret (v := .int .u32 s) HK.out ?_ (Ret.mk rfl ?_)
    · simp [results, Tryd.results26, go_sem]
    · rw [HR.out]; exact below_putObj hbX (by omega) _
  case stop =>
    rintro c i X hi ⟨rfl, hs, hv, hbX⟩ hK
    have HK := Lib.hid hK
    clear hK c2 z2
    gi_wp2
    rw [Exit.noGoto_ret]
    refine marks_ret (v := .int .u32 s) HK.out ?_ (Ret.mk rfl ?_)
    · rw [hs.out]; simp [results, Tryd.results26, go_sem]
    · rw [HR.out]; exact below_putObj hbX (by omega) _
end Go.Proofs.YtfkkeokmkhjpfaaDoor
