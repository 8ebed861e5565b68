/- Lists of answers, each with rows: how they lie in memory; an answer put behind them leaves rows alone, whoever holds them: no cell of such a list's block is a word of 64 bits. -/
import Derived.Test.YtnepdbfnbikplaaGreatDoorGRow
namespace Go.Proofs.YtnepdbfnbikplaaGreatDoor
open Go.RowKit Go.Lib Tb Pt Opn

/-- No word of 64 bits. -/
def NotU (x : Value) : Prop := ∀ k, x ≠ .int .u64 k
/-- A slice's block has none. -/
def CleanB (w : World) (v : Value) : Prop := ∀ g, v.ownBlock = some g → ∃ cur t fr, w.heap[g]? = some (.cells cur t fr) ∧ ∀ x ∈ cur.toList, NotU x
theorem cleanB_nil (w : World) (n c : Nat) : CleanB w (.slice none n c) := fun g h => by cases h
theorem CleanB.below {w w' : World} {v : Value} (h : CleanB w v) (hb : Below w.heap.size w w') : CleanB w' v := fun g hg => by
  obtain ⟨cur, t, fr, h1, h2⟩ := h g hg
  exact ⟨cur, t, fr, cell_below h1 hb, h2⟩
theorem isr_clean {w w' : World} {A : Option Addr} {l : List R} {v : Value} (h : IsR w A l) (hc : CleanB w v) (hg : w.grownBy w' v.ownBlock) : IsR w' A l := fun i x hx => by
  obtain ⟨b, off, e, h1⟩ := h i x hx
  refine ⟨b, off, e, fun j u hj => ?_⟩
  have hcell := h1 j u hj
  have hne : some b ≠ v.ownBlock := fun e' => by
    obtain ⟨cur, t, fr, h2, h3⟩ := hc b e'.symm
    have h0 := h1 0 (.int .u64 (x.1 : Nat)) rfl
    simp only [World.cell?, h2] at h0
    exact h3 _ (by
      obtain ⟨hi, e2⟩ := Array.getElem?_eq_some_iff.1 h0
      rw [← e2]
      exact Array.mem_toList_iff.2 (Array.getElem_mem hi)) _ rfl
  exact hg.cell hcell hne
theorem isrv_clean {w w' : World} {u : Value} {l : List R} {v : Value} (h : IsRV w u l) (hc : CleanB w v) (hg : w.grownBy w' v.ownBlock) : IsRV w' u l := by
  obtain ⟨A, c, e, h1, h2, h3⟩ := h
  exact ⟨A, c, e, h1, h2, isr_clean h3 hc hg⟩

theorem clean_zeros {z : Array Value} (hz : ∀ x ∈ z.toList, NotU x) (n : Nat) : ∀ x ∈ (Builtin.zeroCells z n).toList, NotU x := fun x hx => by
  unfold Builtin.zeroCells at hx
  rw [Array.mem_toList_iff, Array.mem_map] at hx
  obtain ⟨i, hi, rfl⟩ := hx
  rw [Array.mem_range] at hi
  have hs : 0 < z.size := by
    rcases Nat.eq_zero_or_pos z.size with h | h
    · rw [h, Nat.mul_zero] at hi; omega
    · exact h
  have hlt : i % z.size < z.size := Nat.mod_lt _ hs
  rw [getElem!_pos z _ hlt]
  exact hz _ (Array.mem_toList_iff.2 (Array.getElem_mem hlt))

/-- append(s, x), one element, where neither has a word of 64 bits. -/
theorem run_push_clean {P : Program} (w : World) (base : Nat) (t ty e : TypeId) (i : TypeInfo) (z : Value) (size bytes : Nat) (ht : P.underlying t = some (.slice e)) (hi : P.info? e = some i) (hz : i.zero = some z)
    (hsize : i.size = size) (hby : i.bytes = bytes) (hzs : z.cells.size = size) (hsz : 0 < size) (v : Value) (n : Nat) (xs : List Value) (hown : w.ownsRow base e size v n xs) (hcl : CleanB w v) (hzc : ∀ x ∈ z.cells.toList, NotU x)
    (a : Addr) (c : Nat) (news : List Value) (hl : news.length = 1 * size) (hnews : ∀ j u, news[j]? = some u → w.cell? (a.add j) = some u) (h1 : ∀ u ∈ news, u.oneCell' = true) (hnc : ∀ x ∈ news, NotU x)
    (h63 : n + 1 ≤ 100000000) (hbytes : (n + 1) * bytes ≤ 140737488355328) (hbase : base ≤ w.heap.size) :
    ∃ v' w', (Builtin.append_ #[t, t] ty #[v, .slice (some a) 1 c]).run P w = .ok v' w' ∧ w'.ownsRow base e size v' (n + 1) (xs ++ news) ∧ w.grownBy w' v.ownBlock ∧ CleanB w' v' := by
  obtain ⟨v', w', hr, h2, h3, _, _⟩ := run_append_own_at (P := P) w base t ty e i z size bytes ht hi hz hsize hby hzs hsz v n xs hown a 1 c news hl hnews h1 (by unfold maxLen; omega) hbytes hbase
  refine ⟨v', w', hr, h2, h3, ?_⟩
  subst hsize hby
  rcases hown.2 with ⟨rfl, rfl⟩ | ⟨g, cap, cur, rfl, hbg, hg, hnc', hcm, hcs, htake⟩
  · have hr' := run_append_nil (P := P) w t ty e i z ht hi hz a 1 c news hl hnews (by omega) (by omega) (by omega)
    rw [hr'] at hr
    injection hr with e1 e2
    subst e1 e2
    intro g hg
    have eg : w.heap.size = g := by simpa [Value.ownBlock] using hg
    subst eg
    refine ⟨_, _, _, heap_alloc_new w.drew _, fun x hx => ?_⟩
    simp only [Array.toList_append, List.mem_append] at hx
    rcases hx with hx | hx
    · exact hnc x hx
    · exact clean_zeros hzc _ x hx
  · obtain ⟨cur', t', fr', hg', hcc⟩ := hcl g rfl
    rw [hg] at hg'
    injection hg' with hg'
    injection hg' with e1 _ _
    subst e1
    by_cases hroom : n + 1 ≤ cap
    · have hfit : n * i.size + news.length ≤ cur.size := by rw [hl, hcs, ← Nat.add_mul]; exact Nat.mul_le_mul_right _ hroom
      have hr' := run_append_room (P := P) w t ty e i ht hi g n cap cur hg a 1 c news hl hnews h1 hroom hfit
      rw [hr'] at hr
      injection hr with e1 e2
      subst e1 e2
      intro k hk
      have ek : g = k := by simpa [Value.ownBlock] using hk
      subst ek
      refine ⟨_, _, _, setRow_heap w g cur _ e _ hg, fun x hx => ?_⟩
      simp only [List.mem_append] at hx
      rcases hx with (hx | hx) | hx
      · exact hcc x (List.mem_of_mem_take hx)
      · exact hnc x hx
      · exact hcc x (List.mem_of_mem_drop hx)
    · have holds : ∀ j u, xs[j]? = some u → w.cell? ((⟨g, 0, none⟩ : Addr).add j) = some u := hown.cells (g := g) rfl
      have hr' := run_append_grow (P := P) w t ty e i z ht hi hz ⟨g, 0, none⟩ n cap xs hown.1 holds a 1 c news hl hnews (by omega) (by omega) (growslice_fits (by omega) hbytes)
      rw [hr'] at hr
      injection hr with e1 e2
      subst e1 e2
      intro k hk
      have ek : w.heap.size = k := by simpa [Value.ownBlock] using hk
      subst ek
      refine ⟨_, _, _, heap_alloc_new w.drew _, fun x hx => ?_⟩
      simp only [Array.toList_append, List.mem_append] at hx
      rcases hx with (hx | hx) | hx
      · rw [← htake] at hx; exact hcc x (List.mem_of_mem_take hx)
      · exact hnc x hx
      · exact clean_zeros hzc _ x hx

/-- An answer: its code, its word, its rows as a value. -/
abbrev AX := Int × Int × Value
def ansL (x : AX) : List Value := [.int .i64 x.1, .int .u32 x.2.1, x.2.2]
theorem ansL_len (x : AX) : (ansL x).length = 3 := rfl
/-- What is answered: a code, a word, rows. -/
abbrev Ans := Int × Int × List R
/-- Answers lie there. -/
def IsAs (w : World) (A : Option Addr) (t : List Ans) : Prop := ∀ i a, t[i]? = some a → ∃ b off v, A = some ⟨b, off, none⟩ ∧ w.cell? ⟨b, off + i * 3, none⟩ = some (.int .i64 a.1) ∧ w.cell? ⟨b, off + i * 3 + 1, none⟩ = some (.int .u32 a.2.1) ∧ w.cell? ⟨b, off + i * 3 + 2, none⟩ = some v ∧ IsRV w v a.2.2
theorem IsAs.below {w w' : World} {A : Option Addr} {t : List Ans} (h : IsAs w A t) (hb : Below w.heap.size w w') : IsAs w' A t := fun i a ha => by
  obtain ⟨b, off, v, e, h1, h2, h3, h4⟩ := h i a ha
  exact ⟨b, off, v, e, (hb.cell (World.block_lt_of_cell? _ _ h1)).trans h1, (hb.cell (World.block_lt_of_cell? _ _ h2)).trans h2, (hb.cell (World.block_lt_of_cell? _ _ h3)).trans h3, h4.below hb⟩
/-- A list of answers that a call makes. -/
def Told (w : World) (B : Nat) (v : Value) (t : List Ans) : Prop := ∃ xs : List AX, MadeX w B 36 3 ansL v xs ∧ CleanB w v ∧ xs.length = t.length ∧ ∀ (i : Nat) (x : AX) (a : Ans), xs[i]? = some x → t[i]? = some a → x.1 = a.1 ∧ x.2.1 = a.2.1 ∧ IsRV w x.2.2 a.2.2
theorem Told.nil (w : World) (B : Nat) : Told w B (.slice none 0 0) [] := ⟨[], MadeX.nil _ _ _ _ _, cleanB_nil _ _ _, rfl, fun _ _ _ h => by cases h⟩
theorem Told.below {w w' : World} {B : Nat} {v : Value} {t : List Ans} (h : Told w B v t) (hb : Below w.heap.size w w') : Told w' B v t := by
  obtain ⟨xs, h1, h2, h3, h4⟩ := h
  exact ⟨xs, h1.below hb, h2.below hb, h3, fun i x a hx ha => ⟨(h4 i x a hx ha).1, (h4 i x a hx ha).2.1, (h4 i x a hx ha).2.2.below hb⟩⟩
theorem Told.down {w : World} {B B' : Nat} {v : Value} {t : List Ans} (h : Told w B v t) (hB : B' ≤ B) : Told w B' v t := by
  obtain ⟨xs, h1, h2, h3, h4⟩ := h
  refine ⟨xs, ⟨h1.1, ?_⟩, h2, h3, h4⟩
  rcases h1.2 with h | ⟨g, cap, cur, g1, g2, g3⟩
  · exact .inl h
  · exact .inr ⟨g, cap, cur, g1, Nat.le_trans hB g2, g3⟩
theorem Told.form {w : World} {B : Nat} {v : Value} {t : List Ans} (h : Told w B v t) : ∃ A c, v = .slice A t.length c ∧ (t.length ≤ c ∧ c ≤ 9223372036854775807) ∧ (A = none → t.length = 0 ∧ c = 0) ∧ IsAs w A t := by
  obtain ⟨xs, h1, _, h3, h4⟩ := h
  obtain ⟨A, c, e, h5, h6, h7⟩ := MadeX.form ansL_len h1
  rw [h3] at e h5 h6
  refine ⟨A, c, e, h5, h6, fun i a ha => ?_⟩
  have hi : i < xs.length := by rw [h3]; exact (List.getElem?_eq_some_iff.1 ha).1
  obtain ⟨g1, g2, g3⟩ := h4 i _ a (List.getElem?_eq_getElem hi) ha
  obtain ⟨b, off, e2, h8⟩ := h7 i _ (List.getElem?_eq_getElem hi)
  refine ⟨b, off, xs[i].2.2, e2, ?_, ?_, h8 2 _ rfl, g3⟩
  · rw [← g1]; exact h8 0 _ rfl
  · rw [← g2]; exact h8 1 _ rfl
theorem res_info : (Tryz.prog.info? 36).map (fun i => (i.zero, i.size, i.bytes)) = some (some (.agg #[.int .i64 0, .int .u32 0, .slice none 0 0]), 3, 40) := by kernel_rfl
theorem ansL_clean (a b : Int) {v : Value} {A : Option Addr} {n c : Nat} (hv : v = .slice A n c) : (∀ x ∈ ansL (a, b, v), NotU x) ∧ ∀ x ∈ ansL (a, b, v), x.oneCell' = true := by
  subst hv
  constructor
  · intro x hx k e
    simp [ansL] at hx
    rcases hx with rfl | rfl | rfl <;> cases e
  · intro x hx
    simp [ansL] at hx
    rcases hx with rfl | rfl | rfl <;> rfl

/-- append(told, r). -/
theorem wpList_tell {ops : Array Oper} {rest : List Oper} {o : Oper} {a : Act} {Q : Exit → Act → World → Prop} {w0 w : World} (hgd : o.guard = none) (s x : Operand) (t : TypeId)
    (ho : o.op = .call { callee := .builtin .append, args := #[s, x], argTypes := #[t, t] }) (ht : Tryz.prog.underlying t = some (.slice 36))
    {B : Nat} {v : Value} {l : List Ans} (y1 y2 : Int) (yr : List R) {yv : Value} (hyv : IsRV w yv yr) (hs : a.eval s = v) (hown : Told w B v l) (g0 off c0 : Nat) (hx : a.eval x = .slice (some ⟨g0, off, none⟩) 1 c0) (hc : ∀ j u, (ansL (y1, y2, yv))[j]? = some u → w.cell? ⟨g0, off + j, none⟩ = some u)
    (hn : l.length ≤ 1000000) (hB : B ≤ w0.heap.size) (hb : Below B w0 w)
    (h : ∀ v' w', Hid (Told w' B v' (l ++ [(y1, y2, yr)])) → Below B w0 w' → Hid (∀ u m, IsRV w u m → IsRV w' u m) → Hid (w.grownBy w' v.ownBlock) → wpList Tryz.prog ops Q rest (a.put o.dst v') w') : wpList Tryz.prog ops Q (o :: rest) a w := by
  obtain ⟨xs, h1, h2, h3, h4⟩ := hown
  have hyv' := hyv
  obtain ⟨A, n, e0, _⟩ := hyv
  obtain ⟨hq1, hq2⟩ := ansL_clean y1 y2 e0
  obtain ⟨i0, hi, hz0, hz1, hz2⟩ := info_parts res_info
  have hbase := Nat.le_trans hB hb.size
  refine wpList_plain hgd fun K hK => ?_
  obtain ⟨v', w', hr, g2, g3, g4⟩ := run_push_clean (P := Tryz.prog) w B t o.type 36 i0 _ 3 40 ht hi hz0 hz1 hz2 rfl (by omega) v xs.length _ h1 h2 (fun x hx k e => by simp [Value.cells] at hx; rcases hx with rfl | rfl | rfl <;> cases e) ⟨g0, off, none⟩ c0 (ansL (y1, y2, yv)) rfl
    (fun j u hj => by rw [show (⟨g0, off, none⟩ : Addr).add j = ⟨g0, off + j, none⟩ from addrAdd _ _ _]; exact hc j u hj) hq2 hq1 (by omega) (by omega) hbase
  unfold Oper.wp execOp
  simp only [ho, resolve, invoke, builtin, Sem.run_bind, Sem.run_pure, Result.andThen_ok, List.map_toArray, List.map_cons, List.map_nil, hs, hx, hr]
  refine hK _ _ (h v' w' (Lib.hid ?_) (hb.grown g3 hbase fun k hk => (MadeX.lt h1 k hk).1) (Lib.hid fun u m hu => isrv_clean hu h2 g3) (Lib.hid g3))
  refine ⟨xs ++ [(y1, y2, yv)], ?_, g4, by simp [h3], fun i x b hx' hb' => ?_⟩
  · unfold MadeX
    rw [flatL_snoc, List.length_append]
    exact g2
  · rcases Nat.lt_trichotomy i xs.length with hlt | rfl | hgt
    · rw [List.getElem?_append_left hlt] at hx'
      rw [List.getElem?_append_left (by omega)] at hb'
      obtain ⟨q1, q2, q3⟩ := h4 i x b hx' hb'
      exact ⟨q1, q2, isrv_clean q3 h2 g3⟩
    · rw [List.getElem?_append_right (Nat.le_refl _), Nat.sub_self] at hx'
      rw [List.getElem?_append_right (by omega), h3, Nat.sub_self] at hb'
      simp at hx' hb'
      subst hx' hb'
      exact ⟨rfl, rfl, isrv_clean hyv' h2 g3⟩
    · rw [List.getElem?_append_right (by omega)] at hx'
      have : ([(y1, y2, yv)] : List AX)[i - xs.length]? = none := List.getElem?_eq_none (by simp; omega)
      rw [this] at hx'
      cases hx'
end Go.Proofs.YtnepdbfnbikplaaGreatDoor
