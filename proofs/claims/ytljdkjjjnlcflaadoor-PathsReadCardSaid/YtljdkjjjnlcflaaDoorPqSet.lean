/- The program's own settings of paths: a node with all above it as a map; what a map holds is put into rows of its caller's own, in order. The program's own setting of a path: it turns rows of its caller's own. -/
import Derived.Test.YtljdkjjjnlcflaaDoorPqSort
import Derived.Test.YtljdkjjjnlcflaaDoorPqTree
import Derived.Test.YtljdkjjjnlcflaaDoorPaMade
import Derived.Test.YtljdkjjjnlcflaaDoorPqSeek
import Derived.Deep.DeepCutAuto
import Derived.Deep.RegionHeld3
namespace Go.Proofs.YtljdkjjjnlcflaaDoor
open Go.RowKit Go.Lib Tb Pt Opn

theorem ups_zero (n : Nat) : ups n 0 = [] := by cases n <;> simp [ups]
theorem chain_len (k v : Nat) : (chainM k v).length ≤ 3 := by
  have : ∀ n j, (ups n j).length ≤ n := fun n => by
    induction n with
    | zero => intro j; simp [ups]
    | succ n ih => intro j; rw [ups]; split; simp; have := ih (par j); simp; omega
  have := this 2 (par k)
  simp [chainM]; omega

set_option maxRecDepth 100000 in
set_option maxHeartbeats 4000000 in
theorem withAbove_any (k v : Nat) (hk0 : k ≠ 0) (hk : k < 18446744073709551616) (hv : v < 18446744073709551616) (w : World) :
    Calls Tryd.prog 45 #[.int .u64 k, .int .u64 v] w fun e w' => ∃ b, e = .returned (.map (some b)) ∧ w.heap.size ≤ b ∧ IsMp w' b 3 (chainM k v) ∧ Below w.heap.size w w' := by
  obtain ⟨w1, hrun, hown1, hgr1⟩ := (World.ownsMap_made (H := Unit) w Tryd.prog 22 (plainElem Tryd.prog 22)).update (t := 68) (e := 22) lawK Tryd.underlying68 (by unfold maxLen; omega) (key64 hk) (elem64 hv)
  have HO1 := Lib.hid (show IsMp w1 w.heap.size 1 [(k, v)] from ⟨_, hown1, rep_new rep_nil v rfl⟩)
  have HB1 := Lib.hid (show Below w.heap.size w w1 from (below_one w _).grown hgr1 (by simp) (fun j hj => by injection hj with hj; rw [← hj]; exact Nat.le_refl _))
  have HPA := Lib.hid (fun x hx W => qParent_any x hx W)
  have HP1 := Lib.hid (fun W => qParent_any k hk W)
  have HON := Lib.hid (once_chain hk0 v)
  have HLN := Lib.hid (chain_len k v)
  obtain ⟨C, hC⟩ : ∃ C, chainM k v = C := ⟨_, rfl⟩
  have HC := Lib.hid hC
  have hch : Chain 2 (par k) := (chain_three k).resolve_left hk0
  have hlt : par k < 18446744073709551616 := Nat.lt_of_le_of_lt (par_le k) hk
  rw [hC] at HON HLN ⊢
  obtain ⟨p, hp⟩ : ∃ p, par k = p := ⟨_, rfl⟩
  rw [hp] at HP1 hch hlt
  have HS := Lib.hid (show [(k, v)] ++ (ups 2 p).map (fun j => ((j, 0) : R)) = C by rw [← HC.out, ← hp]; rfl)
  have HCH := Lib.hid hch
  clear hown1 hgr1 hC HC hch hp hk hk0 hv
  have hmm := @run_makeMap Tryd.prog
  go_enter Tryd.func45, Tryd.ntmps45
  go_wp2_with (go_at_call 40; refine (HP1.out _).mono ?_; rintro e w2 ⟨rfl, hb2⟩)
  go_loopw [6] (fun iv wr => Below w.heap.size w wr ∧ ∃ n kk : Nat, ∃ m : List R, n ≤ 2 ∧ kk < 18446744073709551616 ∧ iv = .int .u64 kk ∧ Hid (Chain n kk ∧ IsMp wr w.heap.size m.length m ∧ m ++ (ups n kk).map (fun j => ((j, 0) : R)) = C)) (fun iv _ => (intOf iv).toNat)
  case atStart => exact ⟨HB1.out.trans (hb2.mono HB1.out.size), 2, p, [(k, v)], Nat.le_refl _, hlt, rfl, Lib.hid ⟨HCH.out, HO1.out.below hb2, HS.out⟩⟩
  case round =>
    obtain ⟨hbr, n, kk, m, hn, hkk, rfl, HR⟩ := hrel
    by_cases hk0 : kk = 0
    · subst hk0
      have HE := Lib.hid (show IsMp wr w.heap.size 3 C by
        obtain ⟨_, h2, h3⟩ := HR.out
        rw [ups_zero, List.map_nil, List.append_nil] at h3
        subst h3
        exact h2.mono HLN.out)
      go_wp2
      go_ret
      exact ⟨_, rfl, Nat.le_refl _, HE.out, hbr⟩
    · have hk2 : ((kk : Int) != 0) = true := bne_iff_ne.2 (by omega)
      obtain ⟨hch, ⟨D, hown, hrep⟩, hcc⟩ := HR.out
      obtain ⟨n1, rfl⟩ : ∃ n1, n = n1 + 1 := by
        cases n with
        | zero => exact absurd hch hk0
        | succ n1 => exact ⟨n1, rfl⟩
      have hch : Chain n1 (par kk) := hch.resolve_left hk0
      rw [ups, if_neg hk0, List.map_cons] at hcc
      have hnew : hasM m kk = false := by
        rw [Bool.eq_false_iff]
        intro g
        obtain ⟨y, hy, e⟩ := hasM_iff.1 g
        have ho := HON.out
        rw [← hcc] at ho
        exact (List.pairwise_append.1 ho).2.2 y hy (kk, 0) (List.mem_cons_self ..) e
      have hml : m.length ≤ 3 := by
        have h1 := HLN.out
        rw [← hcc, List.length_append] at h1
        omega
      have HN := Lib.hid (show IsMp wr w.heap.size m.length m → True from fun _ => trivial)
      have HOW := Lib.hid hown
      have HRP := Lib.hid (rep_new hrep 0 hnew)
      have HCC := Lib.hid (show (m ++ [(kk, 0)]) ++ (ups n1 (par kk)).map (fun j => ((j, 0) : R)) = C by rw [← hcc]; simp)
      have HCH2 := Lib.hid hch
      have hlt := par_lt hk0
      have HPK := Lib.hid (HPA.out kk hkk)
      obtain ⟨q, hq⟩ : ∃ q, par kk = q := ⟨_, rfl⟩
      rw [hq] at HPK HCC HCH2 hlt
      have HKY := Lib.hid (key64 hkk)
      clear hown hrep hnew hcc hch HR HN hq
      go_wp2_with (first
        | (at_mapUpdate; refine wpList_mapUpdate_own _ rfl _ _ _ 68 rfl 22 22 lawK Tryd.underlying68 _ w.heap.size m.length D rfl HOW.out (by unfold maxLen; omega) _ _ _ rfl rfl HKY.out _ [] (elem64 (k := 0) (by omega)) ?_; intro w5 hown5 hg5; have HO5 := Lib.hid hown5; have HG5 := Lib.hid hg5; clear hown5 hg5)
        | (go_at_call 40; refine (HPK.out _).mono ?_; rintro e w6 ⟨rfl, hb6⟩))
      go_roundw
      case rel => exact ⟨below_then (hbr.grown HG5.out hbr.size (fun j hj => by injection hj with hj; rw [← hj]; exact Nat.le_refl _)) hb6, n1, q, m ++ [(kk, 0)], by omega, by omega, rfl, Lib.hid ⟨HCH2.out, by rw [List.length_append]; exact IsMp.below ⟨_, HO5.out, HRP.out⟩ hb6, HCC.out⟩⟩
      case measure => simp [intOf]; omega

theorem made_iter_ne {W : World} {r B : Nat} {m : Option Nat} {s : Nat} {seen : Array Nat} {c : Nat} {v : Value} {l : List R} (h : MadeX W B 24 2 rowL v l) (hm : W.heap[r]? = some (.mapIter m s seen c)) : v.ownBlock = none ∨ v.ownBlock ≠ some r := by
  rcases h.2 with ⟨rfl, _⟩ | ⟨g, cap, cur, rfl, _, h3, _⟩
  · exact .inl rfl
  · refine .inr fun e => ?_
    have e' : g = r := by simpa [Value.ownBlock] using e
    subst e'
    rw [hm] at h3
    cases h3
theorem ranges_iter {W : World} {b r n : Nat} {D : DataW Unit} {left : Lit → Bool} {cnt : Nat} (h : W.ranges Tryd.prog 22 (plainElem Tryd.prog 22) b r n D left cnt) : ∃ m s seen c, W.heap[r]? = some (.mapIter m s seen c) := by
  obtain ⟨es, clock, since, seen, c0, _, _, _, _, hr, _⟩ := h
  exact ⟨_, _, _, _, hr⟩

/-- How far a map has been gone through: those that were met. -/
structure Met (m acc : List R) (left : Lit → Bool) : Prop where
  once : Once acc
  done : ∀ x ∈ acc, left (.int .u64 (x.1 : Nat)) = false ∧ x ∈ m
  rest : ∀ x ∈ m, left (.int .u64 (x.1 : Nat)) = true ∨ x ∈ acc
  come : ∀ k : Nat, left (.int .u64 k) = true → hasM m k = true
theorem met_start {D : DataW Unit} {m : List R} (h : Rep D m) : Met m [] (Maps.has D) := by
  refine ⟨List.Pairwise.nil, (fun x hx => by cases hx), fun x hx => .inl ?_, fun k hk => ?_⟩
  · rw [h.has]; exact hasM_iff.2 ⟨x, hx, rfl⟩
  · rw [← h.has]; exact hk
theorem met_step {D : DataW Unit} {m acc : List R} {left : Lit → Bool} (hD : Rep D m) (h : Met m acc left) {x c : Nat} (hl : left (.int .u64 x) = true) (hat : ∀ zd, D.atKey (.int .u64 (x : Int)) zd = .lit (.int .u64 (c : Int))) :
    Met m (acc ++ [(x, c)]) (fun z => left z && !z.sameKey (.int .u64 x)) := by
  have hmem : (x, c) ∈ m := by
    obtain ⟨y, hy, e⟩ := hasM_iff.1 (h.come x hl)
    have h1 := hD.val y hy .nil
    rw [e, hat .nil] at h1
    injection h1 with h1
    injection h1 with _ h1
    have : y = (x, c) := Prod.ext e (by have : (c : Int) = (y.2 : Int) := h1; show y.2 = c; omega)
    rw [← this]; exact hy
  have hself : (Lit.int .u64 (x : Int)).sameKey (.int .u64 (x : Int)) = true := WideAt.sameKey_self (isk x)
  have hna : hasM acc x = false := by
    rw [Bool.eq_false_iff]
    intro g
    obtain ⟨y, hy, e⟩ := hasM_iff.1 g
    have := (h.done y hy).1
    rw [e, hl] at this
    cases this
  refine ⟨once_snoc h.once hna, fun y hy => ?_, fun y hy => ?_, fun k hk => h.come k ?_⟩
  · rcases List.mem_append.1 hy with hy | hy
    · exact ⟨by rw [(h.done y hy).1]; rfl, (h.done y hy).2⟩
    · rw [List.mem_singleton.1 hy]; exact ⟨by rw [hself]; simp, hmem⟩
  · rcases h.rest y hy with g | g
    · by_cases e : y.1 = x
      · have : y = (x, c) := Prod.ext e (once_val hD.once (show (x, y.2) ∈ m by rw [← e]; exact hy) hmem)
        exact .inr (List.mem_append_right _ (List.mem_singleton.2 this))
      · exact .inl (by rw [g, Maps.sameKey_ne (lit_ne e)]; rfl)
    · exact .inr (List.mem_append_left _ g)
  · simp at hk; exact hk.1
theorem met_end {m acc : List R} {left : Lit → Bool} (hm : Once m) (h : Met m acc left) (hl : ∀ kl, left kl = false) : acc.Perm m :=
  once_perm h.once hm fun x => ⟨fun hx => (h.done x hx).2, fun hx => (h.rest x hx).resolve_left (by rw [hl]; simp)⟩
theorem len_le : ∀ (a m : List R), a.Nodup → (∀ x ∈ a, x ∈ m) → a.length ≤ m.length
  | [], m, _, _ => Nat.zero_le _
  | x :: a, m, h, hs => by
    obtain ⟨h1, h2⟩ := List.nodup_cons.1 h
    have hx := hs x (List.mem_cons_self ..)
    have := len_le a (m.erase x) h2 fun y hy => (List.mem_erase_of_ne (fun e => h1 (by rw [← e]; exact hy))).2 (hs y (List.mem_cons_of_mem _ hy))
    rw [List.length_erase_of_mem hx] at this
    have : 0 < m.length := List.length_pos_of_mem hx
    simp only [List.length_cons]
    omega
theorem met_len {m acc : List R} {left : Lit → Bool} (h : Met m acc left) : acc.length ≤ m.length :=
  len_le acc m (h.once.imp fun h e => h (by rw [e])) fun x hx => (h.done x hx).2

set_option maxRecDepth 100000 in
set_option maxHeartbeats 4000000 in
theorem putIn_any (w : World) (B : Nat) (hB : B ≤ w.heap.size) (v : Value) (l t m : List R) (b n : Nat) (hl : l.length ≤ 100000) (hn : m.length ≤ 1000) (hpos : 0 < m.length) (ht : Up t) (hp : (l ++ m).Perm t) (hm : MadeX w B 24 2 rowL v l) (hM : IsMp w b n m) :
    Calls Tryd.prog 48 #[v, .map (some b)] w fun e w' => ∃ u, e = .returned u ∧ MadeX w' B 24 2 rowL u t ∧ w.grownBy w' v.ownBlock := by
  obtain ⟨D, hown, hrep⟩ := hM
  have HR := Lib.hid hrep
  have HM := Lib.hid hm
  have HP := Lib.hid (And.intro ht hp)
  have HNE := Lib.hid (made_map_ne hm ⟨D, hown, hrep⟩)
  have HLT := Lib.hid (MadeX.lt hm)
  have HOW := Lib.hid hown
  clear hrep hm ht hp hown
  go_enter Tryd.func48, Tryd.ntmps48
  go_wp2_with (at_range; refine wpList_range_own _ rfl _ 68 rfl 22 22 lawK Tryd.underlying68 _ b n _ rfl HOW.out ?_; intro w0 hrg0 hg0 hs0; have HRG := Lib.hid hrg0; have HG0 := Lib.hid hg0; clear hrg0 hg0)
  go_frame
  obtain ⟨q, hq⟩ : ∃ q, w.heap.size = q := ⟨_, rfl⟩
  have HQ := Lib.hid hq
  rw [hq] at HRG hs0 hB ⊢
  clear hq
  go_loopw [0] (fun u wr => Hid (∃ left cnt acc, wr.ranges Tryd.prog 22 (plainElem Tryd.prog 22) b q n D left cnt ∧ Met m acc left ∧ MadeX wr B 24 2 rowL u (l ++ acc) ∧ w.grownBy wr v.ownBlock ∧ (u.ownBlock = v.ownBlock ∨ ∃ g, u.ownBlock = some g ∧ q < g))) (fun _ wr => wr.rangeLeft b q)
  case atStart => exact Lib.hid ⟨_, _, [], HRG.out, met_start HR.out, by rw [List.append_nil]; exact HM.out.grown HG0.out (by cases v.ownBlock <;> simp), HG0.out.but _, .inl rfl⟩
  case round =>
    obtain ⟨left, cnt, acc, hrg, hmet, hmade, hgr, hown⟩ := hrel.out
    have hmx : l.length + m.length ≤ 101000 := by omega
    have hal := met_len hmet
    have HMD := Lib.hid hmade
    have HMT := Lib.hid hmet
    have HRG1 := Lib.hid hrg
    have HGR := Lib.hid hgr
    have HON := Lib.hid hown
    have HIT := Lib.hid (made_iter_ne hmade (ranges_iter hrg).choose_spec.choose_spec.choose_spec.choose_spec)
    clear hmade hmet hrg hgr hown hrel
    go_wp2_with (at_next; refine wpList_next_ranges_ii _ rfl _ rfl 22 22 .u64 .u64 lawK Tryd.underlying22 Tryd.underlying22 b q n _ _ _ rfl HRG1.out ?_ ?_)
    · intro hc0 hl0
      have HPM := Lib.hid (met_end HR.out.once HMT.out hl0)
      have HSR := Lib.hid (fun W u hm => psort_any W B u (l ++ acc) t (by rw [List.length_append, HPM.out.length_eq]; omega) (by rw [List.length_append]; omega) HP.out.1 ((List.Perm.append_left l HPM.out).trans HP.out.2) hm)
      go_wp2_with (go_at_call 65; refine (HSR.out _ _ HMD.out).mono ?_; rintro e w2 ⟨rfl, hm2, hg2⟩)
      go_ret
      refine ⟨_, rfl, hm2, HGR.out.andThen hg2 fun j hj => ?_⟩
      rcases HON.out with e | ⟨g, e, hg⟩
      · exact .inr (by rw [← e]; exact hj)
      · rw [e] at hj; injection hj with hj; exact .inl (by rw [HQ.out]; omega)
    · intro x c w1 cnt1 hwx hwc hlx hat hrg1 hlt hg1 hs1 hen
      obtain ⟨x, rfl, hx64⟩ := u64_nat hwx
      obtain ⟨c, rfl, hc64⟩ := u64_nat hwc
      have HST := Lib.hid (met_step HR.out HMT.out hlx hat)
      have HM1 := Lib.hid (HMD.out.grown hg1 HIT.out)
      have HG1 := Lib.hid hg1
      have HRG2 := Lib.hid hrg1
      have HS1 := Lib.hid hs1
      clear hg1 hrg1 hat hlx hwx hwc HMT hs1
      have hsz : q < w1.heap.size := by have := HRG2.out.lt; omega
      have hbq : b < q := by rw [← HQ.out]; exact HOW.out.lt
      have hub : ∀ u : Value, (u.ownBlock = v.ownBlock ∨ ∃ g, u.ownBlock = some g ∧ q < g) → some b ≠ u.ownBlock := fun u h e => by
        rcases h with h | ⟨g, h, hg⟩
        · rcases HNE.out with h' | h'
          · rw [h, h'] at e; cases e
          · exact h' (by rw [← h, ← e])
        · rw [h] at e; injection e with e; omega
      have HRK := Lib.hid (fun W4 (hg4 : (w1.alloc (.cells #[.int .u64 (x : Nat), .int .u64 (c : Nat)] 24)).grownBy W4 _) => (HRG2.out.alloc _).kept hg4 (hub _ HON.out) (fun e => by
        rcases HIT.out with h' | h'
        · rw [h'] at e; cases e
        · exact h' e.symm))
      have HGK := Lib.hid (fun W4 (hg4 : (w1.alloc (.cells #[.int .u64 (x : Nat), .int .u64 (c : Nat)] 24)).grownBy W4 _) => ((HGR.out.andThen HG1.out (fun j hj => .inl (by injection hj with hj; rw [HQ.out]; omega))).andThen (World.grownBy_alloc w1 (.cells #[.int .u64 (x : Nat), .int .u64 (c : Nat)] 24) none) (fun j hj => by cases hj)).andThen hg4 (fun j hj => by
        rcases HON.out with e | ⟨g, e, hg⟩
        · exact .inr (by rw [← e]; exact hj)
        · rw [e] at hj; injection hj with hj; exact .inl (by rw [HQ.out]; omega)))
      have HOK := Lib.hid (fun (v' : Value) (ho : v'.ownBlock = _ ∨ v'.ownBlock = some (w1.alloc (.cells #[.int .u64 (x : Nat), .int .u64 (c : Nat)] 24)).heap.size) => show v'.ownBlock = v.ownBlock ∨ ∃ g, v'.ownBlock = some g ∧ q < g from by
        rcases ho with e | e
        · rcases HON.out with e' | ⟨g, e', hg⟩
          · exact .inl (e.trans e')
          · exact .inr ⟨g, e.trans e', hg⟩
        · exact .inr ⟨_, e, by simp; omega⟩)
      clear hub
      go_wp2_with (at_builtin
                   refine wpList_pushX (w0 := w1) rfl (.tmp 14) (.tmp 18) _ rfl Tryd.underlying25 row_info rfl (by decide) (by decide) (B := B) (l := l ++ acc) (x, c) rfl rfl (HM1.out.alloc _) w1.heap.size 0 1 rfl (fun j u h => rowBoxed _ x c j u h) (row_one _) (by rw [List.length_append]; omega) (by omega) ((below_one _ _).mono (by omega)) ?_
                   intro v' w4 HV4 hbW4 Hg4 Ho4)
      go_roundw
      case rel => exact Lib.hid ⟨_, cnt1, acc ++ [(x, c)], HRK.out _ Hg4.out, HST.out, by rw [← List.append_assoc]; exact HV4.out, HGK.out _ Hg4.out, HOK.out _ Ho4.out⟩
      case measure => rw [(HRK.out _ Hg4.out).left_eq, HRG1.out.left_eq]; exact hlt
end Go.Proofs.YtljdkjjjnlcflaaDoor

namespace Go.Proofs.YtljdkjjjnlcflaaDoor
open Go.RowKit Go.Lib Tb Pt Opn

/-- What a setting does. -/
def setS (cap : Nat) (l : List R) (k v : Nat) : List R × Int × Int := match Tb.get l k with
  | some u => (put l k (v + 1), 0, ((u : Nat) : Int))
  | none => if cap < (mk 3 l k).length then (l, 9, 0) else (setR l k v, 0, 0)

set_option maxHeartbeats 8000000 in
set_option maxRecDepth 100000 in
theorem pset_any (c : Cf) (cap : Nat) (hcc : c.cap = cap) (o : O) (ho : Wf o) (hK0 : pth o ≠ 0) (w : World) (B : Nat) (hB : B ≤ w.heap.size) (v : Value) (l : List R) (hl : l.length ≤ 100000) (hu : Up l) (hw64 : ∀ x ∈ l, x.1 < 18446744073709551616) (hhop : ∀ x ∈ l, x.2 ≤ 2147483648) (hm : MadeX w B 24 2 rowL v l) :
    Calls Tryd.prog 25 #[cfv c, v, opv o] w (Own4 (setS cap l (pth o) o.c) B w v) := by
  have hKlt : pth o < 18446744073709551616 := by unfold Wf at ho; unfold pth; omega
  have HNM := Lib.hid (fun W => qNamed_any o ho W)
  have HKY := Lib.hid (fun W => qKey_any (o.a % 65536) (o.a / 65536) o.b (pth o) rfl hKlt W)
  have HSE := Lib.hid (fun A l d hl hu W hA => pseek_any A l d hl hu o ho W hA)
  generalize o.a % 65536 = na at *
  generalize o.a / 65536 = nb at *
  obtain ⟨K, hK⟩ : ∃ K, pth o = K := ⟨_, rfl⟩
  obtain ⟨V, hV⟩ : ∃ V, o.c = V := ⟨_, rfl⟩
  have hV32 : V < 4294967296 := by rw [← hV]; exact ho.2.2.2
  have hVw : IntKind.u64.wrap (V : Int) = (V : Int) := by rw [IntKind.wrap_u64]; omega
  obtain ⟨Z, hZ⟩ : ∃ Z, V + 1 = Z := ⟨_, rfl⟩
  have hVz : IntKind.u64.wrap ((V : Int) + 1) = (Z : Int) := by rw [IntKind.wrap_u64]; omega
  have HZ := Lib.hid hZ
  have HM := Lib.hid hm
  obtain ⟨A, d, rfl, ⟨hd1, hd2⟩, hAn, hA⟩ := hm.form rowL_len
  rw [hK] at HSE HKY hK0 hKlt ⊢
  have HWA := Lib.hid (fun W => withAbove_any K Z hK0 hKlt (by omega) W)
  have HLA := Lib.hid (fun b n m W hA hm => lacking_any b n m A l d (by omega) hw64 W hA hm)
  have HK0 := Lib.hid (And.intro hK0 hKlt)
  unfold cfv opv at *
  rw [hV] at HSE HNM ⊢
  rw [hcc]
  obtain ⟨s, hs⟩ : ∃ s, setS cap l K V = s := ⟨_, rfl⟩
  rw [hs]
  have HS := Lib.hid hs
  have HC := Lib.hid (And.intro hu hhop)
  have HAA := Lib.hid hA
  obtain ⟨N, hN⟩ : ∃ N, l.length = N := ⟨_, rfl⟩
  have HNL := Lib.hid hN
  have HSK := Lib.hid (fun W hA => HSE.out A l d (by omega) hu W hA)
  rw [hN] at hl hd1 HM HSK HLA ⊢
  have hov : ∀ b, (Value.slice A N d).ownBlock = some b → b < w.heap.size := fun b hb => (MadeX.lt HM.out b (by rw [hN] at *; exact hb)).2
  have HOV := Lib.hid hov
  clear hs hu hhop hAn hA hm hN hov hV hcc hK HSE hw64 hK0 hKlt hZ
  go_enter Tryd.func25, Tryd.ntmps25
  go_wp2_with fail
  obtain ⟨W, hW⟩ : ∃ W, W = ((w.alloc (.cells #[.int .u8 c.obj, .int .i64 c.inst, .int .i64 c.thr, .int .u8 c.kind, .int .i64 c.str, .int .i64 c.bits, .int .i64 (cap : Nat), .int .i64 c.node, .int .i64 c.bat, .int .i64 c.chunk, .int .u64 c.lim, .int .u64 c.most] 33)).alloc (.cells #[.int .u8 (o.k : Nat), .int .u32 (o.a : Nat), .int .u32 (o.b : Nat), .int .u32 (V : Nat)] 35)).alloc (.cells #[.int .i64 0, .int .u32 0, .slice none 0 0] 29) := ⟨_, rfl⟩
  have hb2 : Below w.heap.size w W := by rw [hW]; exact below_three _ _ _ _
  rw [← hW]
  have hcap : W.cell? ⟨w.heap.size, 6, none⟩ = some (.int .i64 (cap : Nat)) := by rw [hW]; simp [go_sem]
  have a0 : W.cell? ⟨w.heap.size + 1, 0, none⟩ = some (.int .u8 (o.k : Nat)) := by rw [hW]; simp [go_sem]
  have a1 : W.cell? ⟨w.heap.size + 1, 1, none⟩ = some (.int .u32 (o.a : Nat)) := by rw [hW]; simp [go_sem]
  have a2 : W.cell? ⟨w.heap.size + 1, 2, none⟩ = some (.int .u32 (o.b : Nat)) := by rw [hW]; simp [go_sem]
  have a3 : W.cell? ⟨w.heap.size + 1, 3, none⟩ = some (.int .u32 (V : Nat)) := by rw [hW]; simp [go_sem]
  have HRES : W.heap[w.heap.size + 1 + 1]? = some (.cells #[.int .i64 0, .int .u32 0, .slice none 0 0] 29 (0, 0)) := by
    rw [hW]; exact third_new _ _ _ _
  have hww : W.heap.size = w.heap.size + 3 := by rw [hW]; simp
  obtain ⟨q, hq⟩ : ∃ q, w.heap.size = q := ⟨_, rfl⟩
  have HB2 := Lib.hid hb2
  have HQ := Lib.hid hq
  rw [hq] at a0 a1 a2 a3 hcap hww HRES ⊢
  have hAx := Lib.hid (HAA.out.below hb2)
  have hMx := Lib.hid (MadeX.below HM.out hb2)
  clear hW hb2 hq
  refine (HSK.out W hAx.out).mono ?_
  rintro e w2 ⟨rfl, hb2⟩
  have HR2 := Lib.hid ((hb2.block _ (by omega)).trans HRES)
  have HB3 := Lib.hid (HB2.out.trans (hb2.mono HB2.out.size))
  replace a0 := (hb2.cell (World.block_lt_of_cell? _ _ a0)).trans a0
  replace a1 := (hb2.cell (World.block_lt_of_cell? _ _ a1)).trans a1
  replace a2 := (hb2.cell (World.block_lt_of_cell? _ _ a2)).trans a2
  replace a3 := (hb2.cell (World.block_lt_of_cell? _ _ a3)).trans a3
  replace hcap := (hb2.cell (World.block_lt_of_cell? _ _ hcap)).trans hcap
  have hs2 : q + 3 ≤ w2.heap.size := by have := hb2.size; omega
  have hM2 := Lib.hid (MadeX.below hMx.out hb2)
  have hA2 := Lib.hid (hAx.out.below hb2)
  clear hb2 HSK hww hAx hMx HRES
  rcases hget : Tb.get l K with _ | u
  · have HGT := Lib.hid hget
    clear hget
    simp only [Option.isSome]
    obtain ⟨p, hp⟩ : ∃ p, pos l K = p := ⟨_, rfl⟩
    rw [hp]
    clear hp
    go_wp2_with fail
    refine (HNM.out w2).mono ?_
    rintro e w3 ⟨rfl, hb3⟩
    go_wp2_with fail
    refine (HKY.out w3).mono ?_
    rintro e w4 ⟨rfl, hb4⟩
    go_wp2_with fail
    refine (HWA.out w4).mono ?_
    rintro e w5 ⟨b, rfl, hbb, hM5, hb5⟩
    have hb35 := below_then (below_then hb3 hb4) hb5
    have hA5 := Lib.hid (hA2.out.below hb35)
    have HM5 := Lib.hid hM5
    have HL5 := Lib.hid (hM2.out.below hb35)
    clear hM5
    go_wp2_with fail
    refine (HLA.out b 3 _ w5 hA5.out HM5.out).mono ?_
    rintro e w6 ⟨rfl, hM6, hg6⟩
    have hbw2 : w2.heap.size ≤ b := by have := hb3.size; have := hb4.size; omega
    have hb6 := hb35.grown hg6 hb35.size (fun j hj => by injection hj with hj; rw [← hj]; exact hbw2)
    have HL6 := Lib.hid (HL5.out.grown hg6 (made_map_ne HL5.out HM5.out))
    have HR6 := Lib.hid ((hb6.block (q + 1 + 1) (by omega)).trans HR2.out)
    replace hcap := (hb6.cell (World.block_lt_of_cell? _ _ hcap)).trans hcap
    have HB6 := Lib.hid (HB3.out.trans (hb6.mono HB3.out.size))
    have hs6 : q + 3 ≤ w6.heap.size := Nat.le_trans hs2 hb6.size
    have HM6 := Lib.hid hM6
    clear hM6 hg6 hb6 hb35 hb3 hb4 hb5 a0 a1 a2 a3 HNM HKY HWA HLA HL5 HM5 hA5
    have hcount := set_count HC.out.1 HK0.out.1 V HGT.out
    have hperm := set_perm HC.out.1 HK0.out.1 V HGT.out
    have hpos := List.length_pos_of_mem (lack_pos (v := Z) HGT.out)
    rw [HZ.out] at hcount hperm
    have hmle : (lack l (chainM K Z)).length ≤ 3 := Nat.le_trans (List.length_filter_le _ _) (chain_len K Z)
    have HPT := Lib.hid (fun W (hB2 : B ≤ W.heap.size) hm hM => putIn_any W B hB2 (.slice A N d) l (setR l K V) (lack l (chainM K Z)) b 3 (by rw [HNL.out]; exact hl) (by omega) hpos (up_set HC.out.1 K V) hperm.symm hm hM)
    obtain ⟨D, hown, hrep⟩ := HM6.out
    have HOW := Lib.hid hown
    have HSZ := Lib.hid hrep.size
    rw [HNL.out] at hcount
    obtain ⟨M, hMM⟩ : ∃ M, (lack l (chainM K Z)).length = M := ⟨_, rfl⟩
    have HMM := Lib.hid hMM
    rw [hMM] at hcount hmle HSZ
    have hadd : IntKind.i64.wrap ((N : Int) + (M : Int)) = (N : Int) + (M : Int) := by rw [IntKind.wrap_i64]; omega
    have HCT := Lib.hid hcount
    clear hown hrep hMM hcount hperm hpos
    by_cases hfull : cap < N + M
    · have hcn : (N : Int) + (M : Int) > (cap : Int) := by omega
      obtain ⟨r0, f0, r1, f1, r2, f2⟩ := res_cells HR6.out
      have es : s = (l, 9, 0) := by rw [← HS.out]; unfold setS; rw [HGT.out]; simp only; rw [if_pos (by rw [← HCT.out]; exact hfull)]
      go_wp2_with (at_len; refine wpList_len_own _ rfl _ 68 rfl 22 22 Tryd.underlying68 _ b 3 D rfl HOW.out ?_; rw [HSZ.out])
      refine bodyPost_ret (v := .tuple #[.slice A N d, .agg #[.int .i64 9, .int .u32 0, .slice none 0 0]]) ?_ rfl ⟨.slice A N d, ?_, ?_, ?_⟩
      · simp [results, Tryd.results25, go_sem, r0, r1, r2]
      · rw [es]; rfl
      · rw [es]; exact made_stored3 HL6.out (made_ne HL6.out HR6.out (by decide)) _ _ _
      · have hq := HQ.out
        exact grown_set (grown_set (grown_set (grown_below HB6.out _) (by omega) _ _) (by omega) _ _) (by omega) _ _
    · have hcn : ¬ (N : Int) + (M : Int) > (cap : Int) := by omega
      have ES := Lib.hid (show s = (setR l K V, 0, 0) by rw [← HS.out]; unfold setS; rw [HGT.out]; simp only; rw [if_neg (by rw [← HCT.out]; exact hfull)])
      go_wp2_with (first
        | (at_len; refine wpList_len_own _ rfl _ 68 rfl 22 22 Tryd.underlying68 _ b 3 D rfl HOW.out ?_; rw [HSZ.out])
        | (go_at_call 48
           refine (HPT.out w6 (by have := HQ.out; omega) HL6.out HM6.out).mono ?_
           rintro e w7 ⟨u, rfl, hM7, hg7⟩
           have HR7 := Lib.hid ((hg7.block (q + 1 + 1) (by omega) (fun e => by have := HOV.out _ e.symm; have := HQ.out; omega)).trans HR6.out)
           obtain ⟨r0, f0, r1, f1, r2, f2⟩ := res_cells HR7.out
           have HM7 := Lib.hid hM7
           clear hM7))
      refine bodyPost_ret (v := .tuple #[u, .agg #[.int .i64 0, .int .u32 0, .slice none 0 0]]) ?_ rfl ⟨u, ?_, ?_, ?_⟩
      · simp [results, Tryd.results25, go_sem, r0, r1, r2]
      · rw [ES.out]; rfl
      · rw [ES.out]; exact made_stored3 HM7.out (made_ne HM7.out HR7.out (by decide)) _ _ _
      · have hq := HQ.out
        exact grown_set (grown_set (grown_set (grown_trans (grown_below HB6.out _) hg7) (by omega) _ _) (by omega) _ _) (by omega) _ _
  · have HGT := Lib.hid hget
    clear hget HNM HKY HWA HLA
    simp only [Option.isSome]
    have HIT := Lib.hid (up_there HC.out.1 HGT.out)
    obtain ⟨hpl, hlp⟩ := there_at HIT.out.1
    have hp : pos l K = (lo l K).length := rfl
    rw [hp]
    have hhop : u ≤ 2147483648 := HC.out.2 (K, u) (by rw [← hlp]; exact List.getElem_mem hpl)
    obtain ⟨p, hpp⟩ : ∃ p, (lo l K).length = p := ⟨_, rfl⟩
    obtain ⟨bk, off, eA, x0, x1⟩ := hA2.out.row hpl
    rw [hlp] at x0 x1
    rw [hpp] at x0 x1 ⊢
    have hpN : p < N := by rw [← hpp, ← HNL.out]; exact hpl
    have HPP := Lib.hid hpp
    obtain ⟨gA, rfl, hgA, hgB⟩ : ∃ gA, A = some ⟨gA, 0, none⟩ ∧ (∀ o, w2.frozen? ⟨gA, o, none⟩ = false) ∧ gA < q := by
      rcases (show _ from hM2.out).2 with ⟨h, _⟩ | ⟨g', cap', cur', h, _, h3, _⟩
      · injection h with h; rw [eA] at h; cases h
      · injection h with h
        exact ⟨g', h, (alloc_shape h3).2, by rw [← HQ.out]; exact HOV.out g' (by rw [h]; rfl)⟩
    injection eA with eA
    injection eA with e1 e2 _
    subst e1 e2
    clear hp hpp hpl hlp
    have i1 : (0 : Int) ≤ (p : Int) := by omega
    have i2 : (p : Int) < (N : Int) := by omega
    have huw : IntKind.u32.wrap (u : Int) = (u : Int) := by rw [IntKind.wrap_u32]; omega
    have es : s = (put l K Z, 0, (u : Int)) := by rw [← HS.out]; unfold setS; rw [HGT.out]; simp only; rw [HZ.out]
    have ES := Lib.hid es
    clear es
    rw [Nat.zero_add] at x0 x1
    have fz1 := hgA (p * 2 + 1)
    have hgq : gA < w2.heap.size := by omega
    have hq2 : q + 1 + 1 < w2.heap.size := by omega
    have HR3 := Lib.hid ((Below.heap_setCell w2 ⟨gA, p * 2 + 1, none⟩ (.int .u64 (Z : Nat)) (q + 1 + 1) (by simp; omega)).trans HR2.out)
    obtain ⟨r0, f0, r1, f1, r2, f2⟩ := res_cells HR3.out
    clear a0 a1 a2 a3 hcap
    go_wp2
    have hb4 := grown_below HB3.out (some gA)
    have hm2 : MadeX w2 B 24 2 rowL (.slice (some ⟨gA, 0, none⟩) N d) (lo l K ++ (K, u) :: hi l K) := by rw [← HIT.out.1]; exact hM2.out
    have hmt := made_turned1 (v := Z) (by rw [← HIT.out.1]; exact HNL.out) hm2
    rw [HPP.out] at hmt
    refine bodyPost_ret (v := .tuple #[.slice (some ⟨gA, 0, none⟩) N d, .agg #[.int .i64 0, .int .u32 u, .slice none 0 0]]) ?_ rfl ⟨.slice (some ⟨gA, 0, none⟩) N d, ?_, ?_, ?_⟩
    · simp [results, Tryd.results25, go_sem, r0, r1, r2]
    · rw [ES.out]; rfl
    · rw [ES.out]; exact made_stored3 hmt (made_ne hmt HR3.out (by decide)) _ _ _
    · have hq := HQ.out
      refine grown_set (grown_set (grown_set ?_ (by omega) _ _) (by omega) _ _) (by omega) _ _
      have h5 : w2.grownBy (w2.setCell ⟨gA, p * 2 + 1, none⟩ (.int .u64 (Z : Nat))) (some gA) := ⟨rfl, rfl, rfl, by simp [World.setCell], fun i hi hne => Below.heap_setCell _ ⟨gA, _, none⟩ _ i (fun e => hne (by rw [e]))⟩
      exact grown_trans hb4 h5
end Go.Proofs.YtljdkjjjnlcflaaDoor
