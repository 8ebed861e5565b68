/- Package part: the list of the blocks ahead of all instances. -/
import Derived.Test.YtmnlfhpkfgfpoaaDoorPtPlaces
import Derived.Test.YtmnlfhpkfgfpoaaDoorCePush
namespace Go.Proofs.YtmnlfhpkfgfpoaaDoor
open Go.RowKit Pt

theorem flatMap_length {α β : Type} {s : Nat} {f : α → List β} (hf : ∀ x, (f x).length = s) : ∀ L : List α, (L.flatMap f).length = L.length * s
  | [] => by simp
  | x :: L => by rw [List.flatMap_cons, List.length_append, hf, flatMap_length hf L, List.length_cons, Nat.succ_mul, Nat.add_comm]
theorem flatMap_at {α β : Type} {s : Nat} {f : α → List β} (hf : ∀ x, (f x).length = s) : ∀ (L : List α) (i j : Nat) (x : α), L[i]? = some x → j < s → (L.flatMap f)[i * s + j]? = (f x)[j]?
  | y :: L, 0, j, x, h, hj => by
    obtain rfl : y = x := by simpa using h
    rw [List.flatMap_cons, List.getElem?_append_left (by rw [hf]; omega)]
    congr 1; omega
  | y :: L, i + 1, j, x, h, hj => by
    rw [List.flatMap_cons, List.getElem?_append_right (by rw [hf, Nat.succ_mul]; omega), hf, show (i + 1) * s + j - s = i * s + j by rw [Nat.succ_mul]; omega]
    exact flatMap_at hf L i j x (by simpa using h) hj

def lb (x : Blk) : List Value := [.int .u8 x.p, .int .i64 x.a, .int .i64 x.m, .int .i64 x.n]
/-- A list of blocks lies at A. -/
def HasBlks (w : World) (B : Nat) (A : Option Addr) (L : List Blk) : Prop := ∀ i x, L[i]? = some x → ∃ g, A = some ⟨g, 0, none⟩ ∧ B ≤ g ∧ w.cell? ⟨g, i * 4, none⟩ = some (.int .u8 x.p) ∧ w.cell? ⟨g, i * 4 + 1, none⟩ = some (.int .i64 x.a) ∧
  w.cell? ⟨g, i * 4 + 2, none⟩ = some (.int .i64 x.m) ∧ w.cell? ⟨g, i * 4 + 3, none⟩ = some (.int .i64 x.n)
theorem HasBlks.same {w w' : World} {B : Nat} {A : Option Addr} {L : List Blk} (h : HasBlks w B A L) (hs : ∀ k, B ≤ k → k < w.heap.size → w'.heap[k]? = w.heap[k]?) : HasBlks w' B A L := fun i x hx => by
  obtain ⟨g, e, hg, h0, h1, h2, h3⟩ := h i x hx
  have := hs g hg (World.block_lt_of_cell? _ _ h0)
  exact ⟨g, e, hg, (World.cell?_of_block (w := w) this).trans h0, (World.cell?_of_block (w := w) this).trans h1, (World.cell?_of_block (w := w) this).trans h2, (World.cell?_of_block (w := w) this).trans h3⟩
theorem blks_of_owns {w : World} {B : Nat} {v : Value} {n : Nat} {L : List Blk} (hn : L.length = n) (h : w.ownsRow B 68 4 v n (L.flatMap lb)) :
    ∃ A cap, v = .slice A n cap ∧ n ≤ cap ∧ cap ≤ 9223372036854775807 ∧ HasBlks w B A L := by
  obtain ⟨A, cap, rfl, h1, h2, _, h3⟩ := owns_form h
  refine ⟨A, cap, rfl, h1, h2, fun i x hx => ?_⟩
  have hi : i < n := by rw [← hn]; exact (List.getElem?_eq_some_iff.1 hx).1
  obtain ⟨g, e, hB, hc⟩ := h3 (by omega)
  have one : ∀ j u, j < 4 → (lb x)[j]? = some u → w.cell? ⟨g, i * 4 + j, none⟩ = some u := fun j u hj hu => by
    have hm : (i + 1) * 4 ≤ n * 4 := Nat.mul_le_mul (by omega) (Nat.le_refl _)
    rw [hc _ (by omega), flatMap_at (s := 4) (fun _ => rfl) L i j x hx hj, hu]
  exact ⟨g, e, hB, one 0 _ (by omega) rfl, one 1 _ (by omega) rfl, one 2 _ (by omega) rfl, one 3 _ (by omega) rfl⟩

theorem blk_info : (Tryd.prog.info? 68).map (fun i => (i.zero, i.size, i.bytes)) = some (some (.agg #[.int .u8 0, .int .i64 0, .int .i64 0, .int .i64 0]), 4, 32) := by kernel_rfl

/-- A row that is written out is the call's own. -/
theorem owns_lit {w : World} {B g : Nat} {arr : Array Value} {n : Nat} {e : TypeId} {s : Nat} {xs : List Value} (hB : B ≤ g) (hg : w.heap[g]? = some (.cells arr e)) (hs : arr.size = n * s) (hx : arr.toList = xs) (hm : n ≤ 1000) : w.ownsRow B e s (.slice (some ⟨g, 0, none⟩) n n) n xs := by
  refine ⟨by rw [← hx]; simpa using hs, .inr ⟨g, n, arr, rfl, hB, hg, Nat.le_refl _, by unfold maxLen; omega, hs, ?_⟩⟩
  rw [← hx]
  exact List.take_of_length_le (by simp; omega)

/-- append(s, x...), elements of several cells. -/
theorem wpList_joinL {P : Program} {ops : Array Oper} {rest : List Oper} {o : Oper} {a : Act} {Q : Exit → Act → World → Prop} {w0 w : World} (hgd : o.guard = none) (s x : Operand) (t : TypeId)
    (ho : o.op = .call { callee := .builtin .append, args := #[s, x], argTypes := #[t, t] }) {e : TypeId} {z : Value} {size bytes : Nat} (ht : P.underlying t = some (.slice e))
    (hinfo : (P.info? e).map (fun i => (i.zero, i.size, i.bytes)) = some (some z, size, bytes)) (hz : z.cells.size = size) (hsz : 0 < size) (hby : bytes ≤ 1000)
    {B : Nat} {v : Value} {n m c : Nat} {xs news : List Value} (hs : a.eval s = v) (hown : w.ownsRow B e size v n xs) (g0 : Nat) (hx : a.eval x = .slice (some ⟨g0, 0, none⟩) m c) (hl : news.length = m * size)
    (hc : ∀ j u, news[j]? = some u → w.cell? ⟨g0, j, none⟩ = some u) (h1 : ∀ u ∈ news, u.oneCell' = true)
    (hn : n + m ≤ 100000000) (hB : B ≤ w0.heap.size) (hb : Below B w0 w)
    (h : ∀ v' w', Hid (w'.ownsRow B e size v' (n + m) (xs ++ news)) → Below B w0 w' → wpList P ops Q rest (a.put o.dst v') w') : wpList P ops Q (o :: rest) a w := by
  obtain ⟨i0, hi, hz0, hz1, hz2⟩ := info_parts hinfo
  refine wpList_append_own_at w hgd s x t ho B e i0 z size bytes ht hi hz0 hz1 hz2 hz hsz v n _ hs hown ⟨g0, 0, none⟩ m c news hx hl ?_ h1 (by unfold maxLen; omega) ?_ (Nat.le_trans hB hb.size) ?_
  · intro j u hj
    rw [show (⟨g0, 0, none⟩ : Addr).add j = ⟨g0, j, none⟩ by unfold Addr.add; split <;> simp_all]
    exact hc j u hj
  · have : (n + m) * bytes ≤ 100000000 * 1000 := Nat.mul_le_mul (by omega) hby
    omega
  · intro v' w' h2 h3 _ h5
    exact h v' w' (Lib.hid h2) (hb.grown h3 (Nat.le_trans hB hb.size) fun k hk => (World.ownsRow.lt hown k hk).1)

/-- The cells of a row that is written out. -/
theorem lit_cells {w : World} {g : Nat} {arr : Array Value} {e : TypeId} {xs : List Value} (hg : w.heap[g]? = some (.cells arr e)) (hx : arr.toList = xs) : ∀ j u, xs[j]? = some u → w.cell? ⟨g, j, none⟩ = some u := fun j u hj => by
  rw [← hx, Array.getElem?_toList] at hj
  unfold World.cell?
  simp [hg, hj]
theorem heap_new2 (w : World) (o o' : Obj) : ((w.alloc o).alloc o').heap[w.heap.size]? = some o := (Below.heap_alloc _ _ _ (by simp)).trans (World.alloc_heap_new w _)
theorem heap_new1 (w : World) (o : Obj) {g : Nat} (hg : w.heap.size = g) : (w.alloc o).heap[g]? = some o := by rw [← hg]; exact World.alloc_heap_new w _
theorem heap_old (w : World) (o : Obj) {g : Nat} {o' : Obj} (h : w.heap[g]? = some o') : (w.alloc o).heap[g]? = some o' := (Below.heap_alloc _ _ _ (Array.getElem?_eq_some_iff.1 h).1).trans h
theorem lb_one {L : List Blk} : ∀ u ∈ L.flatMap lb, u.oneCell' = true := fun u hu => by
  obtain ⟨i, _, hu⟩ := List.mem_flatMap.1 hu
  simp only [lb, List.mem_cons, List.not_mem_nil, or_false] at hu
  rcases hu with rfl | rfl | rfl | rfl <;> rfl

set_option maxHeartbeats 1000000 in
theorem shared_any (c : Cf) (h : Ok c) (w : World) : Calls Tryd.prog 38 #[cfv c] w fun e w' =>
    ∃ A cap, e = .returned (.slice A (hN c) cap) ∧ hN c ≤ cap ∧ cap ≤ 9223372036854775807 ∧ Hid (HasBlks w' w.heap.size A (headL (kB c) c.thr.toNat c.str.toNat)) ∧ Below w.heap.size w w' := by
  obtain ⟨_, hi, hr⟩ := h
  unfold RestOk at hr
  unfold IndOk at hi
  obtain ⟨T, hT⟩ : ∃ T : Nat, c.thr = T := ⟨c.thr.toNat, by omega⟩
  obtain ⟨S, hS⟩ : ∃ S : Nat, c.str = S := ⟨c.str.toNat, by omega⟩
  rw [hT, hS]
  simp only [Int.toNat_natCast]
  unfold hN kB
  by_cases hk : c.kind = 1
  · have hk' := hk
    rw [decide_eq_true hk]
    clear hi hr
    unfold cfv
    rw [hT, hS, hk']
    go_enter Tryd.func38, Tryd.ntmps38
    go_wp2_with (at_builtin
                 refine wpList_joinL (w0 := w) rfl (.tmp 17) (.tmp 21) _ rfl Tryd.underlying65 blk_info rfl (by decide) (by decide) (B := w.heap.size) (v := .slice (some ⟨w.heap.size + 1, 0, none⟩) 5 5) (n := 5) (m := 1) (xs := ([⟨1, 0, 1, 1⟩, ⟨2, 0, 1, 1⟩, ⟨3, 0, 1, 1⟩, ⟨4, 0, T, 1⟩, ⟨5, 0, T, 1⟩] : List Blk).flatMap lb) (news := ([⟨6, 0, 2, T⟩] : List Blk).flatMap lb) rfl (owns_lit (by omega) (heap_old _ _ (heap_new1 _ _ (by simp))) rfl rfl (by omega)) (w.heap.size + 1 + 1) rfl rfl (lit_cells (heap_new1 _ _ (by simp)) rfl) lb_one (by omega) (Nat.le_refl _) (below_three _ _ _ _) ?_
                 intro v' W1 ho1 hb1)
    go_ret
    obtain ⟨A, cap, rfl, h1, h2, h3⟩ := blks_of_owns (L := headL true T S) rfl ho1.out
    exact ⟨A, cap, rfl, h1, h2, Lib.hid h3, hb1⟩
  · have hk2 : c.kind = 2 := by omega
    rw [decide_eq_false hk]
    clear hi hr hk
    unfold cfv
    rw [hT, hS, hk2]
    go_enter Tryd.func38, Tryd.ntmps38
    go_wp2_with (at_builtin
                 refine wpList_joinL (w0 := w) rfl (.tmp 23) (.tmp 30) _ rfl Tryd.underlying65 blk_info rfl (by decide) (by decide) (B := w.heap.size) (v := .slice (some ⟨w.heap.size + 1, 0, none⟩) 5 5) (n := 5) (m := 2) (xs := ([⟨1, 0, 1, 1⟩, ⟨2, 0, 1, 1⟩, ⟨3, 0, 1, 1⟩, ⟨4, 0, T, 1⟩, ⟨5, 0, T, 1⟩] : List Blk).flatMap lb) (news := ([⟨7, 0, 2, S⟩, ⟨8, 0, 2, S⟩] : List Blk).flatMap lb) rfl (owns_lit (by omega) (heap_old _ _ (heap_new1 _ _ (by simp))) rfl rfl (by omega)) (w.heap.size + 1 + 1) rfl rfl (lit_cells (heap_new1 _ _ (by simp)) rfl) lb_one (by omega) (Nat.le_refl _) (below_three _ _ _ _) ?_
                 intro v' W1 ho1 hb1)
    go_ret
    obtain ⟨A, cap, rfl, h1, h2, h3⟩ := blks_of_owns (L := headL false T S) rfl ho1.out
    exact ⟨A, cap, rfl, h1, h2, Lib.hid h3, hb1⟩
end Go.Proofs.YtmnlfhpkfgfpoaaDoor
