/- copy, clear and append on a call's own rows, of whatever element size: by what lies ahead of, in, and behind what is turned; rows of the call's own, in whose block rows are turned, beside memory that is made. -/
import Derived.Test.YtljdkjjjnlcflaaDoorRowRef
import Derived.Test.YtljdkjjjnlcflaaDoorLists
import Derived.Laws.CopyRow
import Derived.Lib.AppendZerosOnto
import Derived.Lib.Overlaps
import Derived.Deep.RegionLaw
import Derived.Test.YtljdkjjjnlcflaaDoorTbMake
import Derived.Shelf.RegionOpenPlain
import Derived.Test.YtljdkjjjnlcflaaDoorTbPos
namespace Go.Proofs.YtljdkjjjnlcflaaDoor
open Go.RowKit Go.Lib
section
variable {P : Program}
theorem parts_eq (A Q C D : List Value) (h : Q.length = C.length) : ((A ++ Q ++ D).take A.length ++ C ++ (A ++ Q ++ D).drop (A.length + C.length)) = A ++ C ++ D := by
  rw [← h, List.append_assoc A Q D, List.take_left, ← List.append_assoc A Q D, ← List.length_append, List.drop_left]
theorem run_copyX (w : World) (dT sT ty elem : TypeId) (g o dLen dCap : Nat) (a : Addr) (sLen sCap : Nat) (t : TypeId) (A Q C D : List Value) (s : Nat)
    (hu : P.underlying dT = some (.slice elem)) (hs : (P.info? elem).map (·.size) = some s)
    (hg : w.heap[g]? = some (.cells (A ++ Q ++ D).toArray t (0, 0))) (ho : o = A.length) (hq : Q.length = C.length) (hn : C.length = Nat.min sLen dLen * s)
    (hsrc : ∀ j v, C[j]? = some v → w.cell? (a.add j) = some v) (h1 : ∀ v ∈ C, v.oneCell' = true) :
    (Builtin.copy_ #[dT, sT] ty #[.slice (some ⟨g, o, none⟩) dLen dCap, .slice (some a) sLen sCap]).run P w =
      .ok (goInt (Nat.min sLen dLen)) (w.setRow g (A ++ C ++ D).toArray) := by
  subst ho
  have hl := run_loadCells_list (P := P) w a C hsrc
  have hst := run_storeCells_at P g A.length t C 0 _ w hg (by simp [hq]) h1
  simp only [Nat.add_zero] at hst
  rw [parts_eq A Q C D hq] at hst
  cases hi : P.info? elem with
  | none => simp [hi] at hs
  | some i =>
    have hz : i.size = s := by simpa [hi] using hs
    simp [Builtin.copy_, run_underlying hu, Builtin.lenOf, Builtin.firstCells, sizeOf, typeInfo, hi, hz, ← hn, hl, hst]
theorem run_clearX (w : World) (t e ty : TypeId) (z : Value) (ht : P.underlying t = some (.slice e)) (hv : ∀ w, (zeroValue e).run P w = .ok z w) (g o n c : Nat) (hn : 0 < n) (te : TypeId) (A Q C D : List Value)
    (hg : w.heap[g]? = some (.cells (A ++ Q ++ D).toArray te (0, 0))) (ho : o = A.length) (hq : Q.length = C.length) (hC : (Builtin.zeroCells z.cells n).toList = C) (h1 : ∀ v ∈ C, v.oneCell' = true) :
    (Builtin.clear_ #[t] ty #[.slice (some ⟨g, o, none⟩) n c]).run P w = .ok (.tuple #[]) (w.setRow g (A ++ C ++ D).toArray) := by
  subst ho
  have hst := run_storeCells_at P g A.length te C 0 _ w hg (by simp [hq]) h1
  simp only [Nat.add_zero] at hst
  rw [parts_eq A Q C D hq] at hst
  obtain ⟨m, rfl⟩ : ∃ m, n = m + 1 := ⟨n - 1, by omega⟩
  simp [Builtin.clear_, run_underlying ht, hv, hC, hst]
theorem run_appendX (w : World) (t ty e : TypeId) (i : TypeInfo) (ht : P.underlying t = some (.slice e)) (hi : P.info? e = some i)
    (g n cap : Nat) (A Q C D : List Value) (hg : w.heap[g]? = some (.cells (A ++ Q ++ D).toArray e (0, 0)))
    (a : Addr) (m c : Nat) (hA : A.length = n * i.size) (hq : Q.length = C.length) (hl : C.length = m * i.size) (hsrc : ∀ j u, C[j]? = some u → w.cell? (a.add j) = some u) (h1 : ∀ u ∈ C, u.oneCell' = true)
    (hroom : n + m ≤ cap) :
    (Builtin.append_ #[t, t] ty #[.slice (some ⟨g, 0, none⟩) n cap, .slice (some a) m c]).run P w = .ok (.slice (some ⟨g, 0, none⟩) (n + m) cap) (w.setRow g (A ++ C ++ D).toArray) := by
  have h := run_append_room (P := P) w t ty e i ht hi g n cap _ hg a m c C hl hsrc h1 hroom (by rw [← hA, ← hq]; simp)
  rw [← hA, parts_eq A Q C D hq] at h
  exact h
theorem wp_copyX (w : World) {o : Oper} {a : Act} {K : Act → World → Prop} {Q : Exit → Act → World → Prop} (d s : Operand) (t t' : TypeId)
    (ho : o.op = .call { callee := .builtin .copy, args := #[d, s], argTypes := #[t, t'] }) (v u : Value) (hd : a.eval d = v) (hs : a.eval s = u) {v' : Value} {w' : World}
    (hr : (Builtin.copy_ #[t, t'] o.type #[v, u]).run P w = .ok v' w') (h : K (a.put o.dst v') w') : o.wp P a w K Q := by
  unfold Oper.wp execOp
  simp only [ho, resolve, invoke, builtin, Sem.run_bind, Sem.run_pure, Result.andThen_ok, List.map_toArray, List.map_cons, List.map_nil, hd, hs, hr]
  exact h
theorem wpList_copyX (w : World) {ops : Array Oper} {rest : List Oper} {o : Oper} {a : Act} {Q : Exit → Act → World → Prop} (hgd : o.guard = none) (d s : Operand) (t t' : TypeId)
    (ho : o.op = .call { callee := .builtin .copy, args := #[d, s], argTypes := #[t, t'] }) (v u : Value) (hd : a.eval d = v) (hs : a.eval s = u) {v' : Value} {w' : World}
    (hr : (Builtin.copy_ #[t, t'] o.type #[v, u]).run P w = .ok v' w') (h : wpList P ops Q rest (a.put o.dst v') w') : wpList P ops Q (o :: rest) a w :=
  wpList_plain hgd fun _ hK => wp_copyX w d s t t' ho v u hd hs hr (hK _ _ h)
/-- .. and as a step of a region that draws. -/
theorem step_copyX {ops : Array Oper} {o : Oper} {a : Act} {w : World} {K : Act → World → Prop} {Q : Exit → Act → World → Prop} {E : Prop}
    (hg : o.guard = none) (d x : Operand) (dT sT : TypeId) (hop : o.op = Op.call { callee := Callee.builtin Builtin.copy, args := #[d, x], argTypes := #[dT, sT] })
    (v u : Value) (hd : a.eval d = v) (hx : a.eval x = u) {v' : Value} {w' : World} (hr : (Builtin.copy_ #[dT, sT] o.type #[v, u]).run P w = .ok v' w') (hK : K (a.put o.dst v') w') :
    if Region.wanted o (yielded ops a.tmps) = true then Oper.wp P o a w K Q else E := by
  have hw : Region.wanted o (yielded ops a.tmps) = true := by simp [Region.wanted, hg]
  rw [if_pos hw]
  exact wp_copyX w d x dT sT hop v u hd hx hr hK
theorem wp_clearX (w : World) {o : Oper} {a : Act} {K : Act → World → Prop} {Q : Exit → Act → World → Prop} (s : Operand) (t : TypeId)
    (ho : o.op = .call { callee := .builtin .clear, args := #[s], argTypes := #[t] }) (u : Value) (hs : a.eval s = u) {v' : Value} {w' : World}
    (hr : (Builtin.clear_ #[t] o.type #[u]).run P w = .ok v' w') (h : K (a.put o.dst v') w') : o.wp P a w K Q := by
  unfold Oper.wp execOp
  simp only [ho, resolve, invoke, builtin, Sem.run_bind, Sem.run_pure, Result.andThen_ok, List.map_toArray, List.map_cons, List.map_nil, hs, hr]
  exact h
theorem wpList_clearX (w : World) {ops : Array Oper} {rest : List Oper} {o : Oper} {a : Act} {Q : Exit → Act → World → Prop} (hgd : o.guard = none) (s : Operand) (t : TypeId)
    (ho : o.op = .call { callee := .builtin .clear, args := #[s], argTypes := #[t] }) (u : Value) (hs : a.eval s = u) {v' : Value} {w' : World}
    (hr : (Builtin.clear_ #[t] o.type #[u]).run P w = .ok v' w') (h : wpList P ops Q rest (a.put o.dst v') w') : wpList P ops Q (o :: rest) a w :=
  wpList_plain hgd fun _ hK => wp_clearX w s t ho u hs hr (hK _ _ h)
theorem wp_appendX (w : World) {o : Oper} {a : Act} {K : Act → World → Prop} {Q : Exit → Act → World → Prop} (d s : Operand) (t t' : TypeId)
    (ho : o.op = .call { callee := .builtin .append, args := #[d, s], argTypes := #[t, t'] }) (v u : Value) (hd : a.eval d = v) (hs : a.eval s = u) {v' : Value} {w' : World}
    (hr : (Builtin.append_ #[t, t'] o.type #[v, u]).run P w = .ok v' w') (h : K (a.put o.dst v') w') : o.wp P a w K Q := by
  unfold Oper.wp execOp
  simp only [ho, resolve, invoke, builtin, Sem.run_bind, Sem.run_pure, Result.andThen_ok, List.map_toArray, List.map_cons, List.map_nil, hd, hs, hr]
  exact h
theorem wpList_appendX (w : World) {ops : Array Oper} {rest : List Oper} {o : Oper} {a : Act} {Q : Exit → Act → World → Prop} (hgd : o.guard = none) (d s : Operand) (t t' : TypeId)
    (ho : o.op = .call { callee := .builtin .append, args := #[d, s], argTypes := #[t, t'] }) (v u : Value) (hd : a.eval d = v) (hs : a.eval s = u) {v' : Value} {w' : World}
    (hr : (Builtin.append_ #[t, t'] o.type #[v, u]).run P w = .ok v' w') (h : wpList P ops Q rest (a.put o.dst v') w') : wpList P ops Q (o :: rest) a w :=
  wpList_plain hgd fun _ hK => wp_appendX w d s t t' ho v u hd hs hr (hK _ _ h)
theorem step_appendX {ops : Array Oper} {o : Oper} {a : Act} {w : World} {K : Act → World → Prop} {Q : Exit → Act → World → Prop} {E : Prop}
    (hg : o.guard = none) (d x : Operand) (dT sT : TypeId) (hop : o.op = Op.call { callee := Callee.builtin Builtin.append, args := #[d, x], argTypes := #[dT, sT] })
    (v u : Value) (hd : a.eval d = v) (hx : a.eval x = u) {v' : Value} {w' : World} (hr : (Builtin.append_ #[dT, sT] o.type #[v, u]).run P w = .ok v' w') (hK : K (a.put o.dst v') w') :
    if Region.wanted o (yielded ops a.tmps) = true then Oper.wp P o a w K Q else E := by
  have hw : Region.wanted o (yielded ops a.tmps) = true := by simp [Region.wanted, hg]
  rw [if_pos hw]
  exact wp_appendX w d x dT sT hop v u hd hx hr hK
end
end Go.Proofs.YtljdkjjjnlcflaaDoor
namespace Go.Proofs.YtljdkjjjnlcflaaDoor
open Go.RowKit Go.Lib Tb
theorem row_at (y : R) : rowL y = [.int .u64 (y.1 : Nat), .int .u64 (y.2 : Nat)] := rfl
theorem flatL_one : ∀ (l : List R), ∀ u ∈ flatL rowL l, u.oneCell' = true := fun l u hu => by
  unfold flatL at hu
  obtain ⟨y, _, hy⟩ := List.mem_flatMap.1 hu
  exact row_one y u hy
theorem flatR (l : List R) : (flatL rowL l).length = l.length * 2 := flatL_length rowL_len l
/-- What an own row holds: the elements' cells, and the rest. -/
theorem made_cells {w : World} {B : Nat} {v : Value} {l : List R} (h : MadeX w B 24 2 rowL v l) : (v = .slice none 0 0 ∧ l = []) ∨
    ∃ g cap rest, v = .slice (some ⟨g, 0, none⟩) l.length cap ∧ B ≤ g ∧ w.heap[g]? = some (.cells (flatL rowL l ++ rest).toArray 24 (0, 0)) ∧ l.length ≤ cap ∧ cap ≤ maxLen ∧ rest.length = (cap - l.length) * 2 := by
  rcases h.2 with ⟨h1, h2⟩ | ⟨g, cap, cur, h1, h2, h3, h4, h5, h6, h7⟩
  · exact .inl ⟨h1, List.eq_nil_of_length_eq_zero h2⟩
  · refine .inr ⟨g, cap, cur.toList.drop (l.length * 2), h1, h2, ?_, h4, h5, ?_⟩
    · rw [h3, ← h7, List.take_append_drop, Array.toArray_toList]
    · rw [List.length_drop, Array.length_toList, h6, Nat.sub_mul]
theorem made_of {w : World} {B g cap : Nat} {l : List R} {rest : List Value} (hB : B ≤ g) (h : w.heap[g]? = some (.cells (flatL rowL l ++ rest).toArray 24 (0, 0))) (hc : l.length ≤ cap) (hm : cap ≤ maxLen) (hr : rest.length = (cap - l.length) * 2) :
    MadeX w B 24 2 rowL (.slice (some ⟨g, 0, none⟩) l.length cap) l := by
  refine ⟨flatR l, .inr ⟨g, cap, _, rfl, hB, h, hc, hm, ?_, ?_⟩⟩
  · rw [List.size_toArray, List.length_append, flatR, hr, ← Nat.add_mul]; congr 1; omega
  · rw [List.toList_toArray, ← flatR l, List.take_left]
/-- What was put in, and what only that block turned. -/
def RetI (l : List R) (B : Nat) (w : World) (v : Value) (e : Ending) (w' : World) : Prop := ∃ v', e = .returned v' ∧ MadeX w' B 24 2 rowL v' l ∧ w.grownBy w' v.ownBlock
theorem alloc_shape {w : World} {g : Nat} {cs : Array Value} {t : TypeId} (h : w.heap[g]? = some (.cells cs t (0, 0))) : w.shape? g = some (t, cs.size) ∧ ∀ o, w.frozen? ⟨g, o, none⟩ = false := by
  refine ⟨by unfold World.shape?; rw [h], fun o => by unfold World.frozen?; rw [h]; simp⟩
theorem cell_row {w : World} {g : Nat} {cs : List Value} {t : TypeId} (h : w.heap[g]? = some (.cells cs.toArray t (0, 0))) (o : Nat) : w.cell? ⟨g, o, none⟩ = cs[o]? := by
  simp [World.cell?, h]
theorem grown_drew {w w' : World} {r : Option Nat} (h : w.drew.grownBy w' r) : w.grownBy w' r := ⟨h.os, h.tape, h.output, h.size, h.block⟩
theorem grown_row {w w' : World} {g : Nat} (h : w.grownBy w' (some g)) (cs : Array Value) : w.grownBy (w'.setRow g cs) (some g) :=
  ⟨h.os, h.tape, h.output, by rw [setRow_size]; exact h.size, fun k hk hne => by rw [setRow_other w' g k cs (fun e => hne (by rw [e]))]; exact h.block k hk hne⟩
theorem mid_at {A C D : List Value} {o j : Nat} {v : Value} (h : o = A.length) (hj : C[j]? = some v) : (A ++ C ++ D)[o + j]? = some v := by
  subst h
  rw [List.append_assoc, List.getElem?_append_right (Nat.le_add_right _ _), Nat.add_sub_cancel_left, List.getElem?_append_left (List.getElem?_eq_some_iff.1 hj).1]
  exact hj
theorem grown_new {w w' : World} {r : Option Nat} (h : w.grownBy w' r) {g : Nat} (hg : w.heap.size ≤ g) (cs : Array Value) : w.grownBy (w'.setRow g cs) r :=
  ⟨h.os, h.tape, h.output, by rw [setRow_size]; exact h.size, fun k hk hne => by rw [setRow_other w' g k cs (by omega)]; exact h.block k hk hne⟩
theorem zeros_two (k : Nat) : (Builtin.zeroCells (Value.agg #[.int .u64 0, .int .u64 0]).cells k).size = k * 2 := by simp [Builtin.zeroCells, Value.cells]
theorem grown_trans {w w1 w2 : World} {r : Option Nat} (h : w.grownBy w1 r) (k : w1.grownBy w2 r) : w.grownBy w2 r :=
  ⟨k.os.trans h.os, k.tape.trans h.tape, k.output.trans h.output, Nat.le_trans h.size k.size, fun i hi hne => (k.block i (Nat.lt_of_lt_of_le hi h.size) hne).trans (h.block i hi hne)⟩
theorem grown_below {w w1 : World} (h : Below w.heap.size w w1) (r : Option Nat) : w.grownBy w1 r := ⟨h.os, h.tape, h.output, h.size, fun i hi _ => h.block i hi⟩
theorem grown_set {w w1 : World} {r : Option Nat} (h : w.grownBy w1 r) {b : Nat} (hb : w.heap.size ≤ b) (o : Nat) (x : Value) : w.grownBy (w1.setCell ⟨b, o, none⟩ x) r :=
  ⟨h.os, h.tape, h.output, by simpa [World.setCell] using h.size, fun i hi hne => (Below.heap_setCell w1 ⟨b, o, none⟩ x i (by simp; omega)).trans (h.block i hi hne)⟩
/-- A row that is turned in its place. -/
theorem made_turned {w : World} {B g cap : Nat} {l1 l2 : List R} {x y : R} {n : Nat} (hn : (l1 ++ x :: l2).length = n) (h : MadeX w B 24 2 rowL (.slice (some ⟨g, 0, none⟩) n cap) (l1 ++ x :: l2)) :
    MadeX ((w.setCell ⟨g, l1.length * 2, none⟩ (.int .u64 (y.1 : Nat))).setCell ⟨g, l1.length * 2 + 1, none⟩ (.int .u64 (y.2 : Nat))) B 24 2 rowL (.slice (some ⟨g, 0, none⟩) n cap) (l1 ++ y :: l2) := by
  rcases made_cells h with ⟨h, _⟩ | ⟨g', cap', rest, e, hB, hg, hc, hcm, hr⟩
  · cases h
  · injection e with e1 _ e3
    injection e1 with e1
    injection e1 with e1 _ _
    subst e1 e3
    have e1 : flatL rowL (l1 ++ x :: l2) = flatL rowL l1 ++ (rowL x ++ flatL rowL l2) := by rw [flatL_append]; simp [flatL]
    have e2 : flatL rowL (l1 ++ y :: l2) = flatL rowL l1 ++ (rowL y ++ flatL rowL l2) := by rw [flatL_append]; simp [flatL]
    have hz := flatR l1
    obtain ⟨F1, hF1⟩ : ∃ F, flatL rowL l1 = F := ⟨_, rfl⟩
    obtain ⟨F2, hF2⟩ : ∃ F, flatL rowL l2 = F := ⟨_, rfl⟩
    rw [e1, hF1, hF2] at hg
    rw [hF1] at hz
    have hg' : w.heap[g]? = some (.cells (F1 ++ Value.int .u64 (x.1 : Nat) :: Value.int .u64 (x.2 : Nat) :: (F2 ++ rest)).toArray 24 (0, 0)) := by rw [hg]; simp [rowL]
    have s1 := setCell_eq_setRow w g (l1.length * 2) _ _ (0, 0) (.int .u64 (y.1 : Nat)) hg'
    have a1 : (F1 ++ Value.int .u64 (x.1 : Nat) :: Value.int .u64 (x.2 : Nat) :: (F2 ++ rest)).toArray.setIfInBounds (l1.length * 2) (.int .u64 (y.1 : Nat)) = (F1 ++ Value.int .u64 (y.1 : Nat) :: Value.int .u64 (x.2 : Nat) :: (F2 ++ rest)).toArray := by
      rw [← hz]; simp
    rw [a1] at s1
    have hg2 := setRow_heap w g _ (F1 ++ Value.int .u64 (y.1 : Nat) :: Value.int .u64 (x.2 : Nat) :: (F2 ++ rest)).toArray _ _ hg'
    have s2 := setCell_eq_setRow _ g (l1.length * 2 + 1) _ _ (0, 0) (.int .u64 (y.2 : Nat)) hg2
    have a2 : (F1 ++ Value.int .u64 (y.1 : Nat) :: Value.int .u64 (x.2 : Nat) :: (F2 ++ rest)).toArray.setIfInBounds (l1.length * 2 + 1) (.int .u64 (y.2 : Nat)) = (F1 ++ Value.int .u64 (y.1 : Nat) :: Value.int .u64 (y.2 : Nat) :: (F2 ++ rest)).toArray := by
      rw [← hz]; simp
    rw [a2] at s2
    rw [s1, s2]
    have el : (l1 ++ y :: l2).length = n := by rw [← hn]; simp
    have := made_of (B := B) (l := l1 ++ y :: l2) (rest := rest) (cap := cap) hB (by rw [setRow_heap _ g _ (F1 ++ Value.int .u64 (y.1 : Nat) :: Value.int .u64 (y.2 : Nat) :: (F2 ++ rest)).toArray _ _ hg2, e2, hF1, hF2]; simp [rowL]) (by omega) hcm (by rw [hr]; congr 1; omega)
    rw [el] at this
    exact this
/-- Rows that rise, cut at a key that is there, and at one that isn't. -/
theorem up_there {l : List R} (h : Up l) {k u : Nat} (hg : Tb.get l k = some u) : l = lo l k ++ (k, u) :: hi l k ∧ put l k = fun v => lo l k ++ (k, v) :: hi l k := by
  have e := split_at k h
  rw [hg] at e
  refine ⟨by simpa using e, rfl⟩
theorem up_miss {l : List R} (h : Up l) {k : Nat} (hg : Tb.get l k = none) : l = lo l k ++ hi l k := by rw [← cut_eq k h, cut_none hg]
theorem there_at {l : List R} {k u : Nat} (h : l = lo l k ++ (k, u) :: hi l k) : ∃ hp : (lo l k).length < l.length, l[(lo l k).length]'hp = (k, u) := by
  have e2 := congrArg (fun m => m[(lo l k).length]?) h
  simp only [List.getElem?_append_right (Nat.le_refl _), Nat.sub_self, List.getElem?_cons_zero] at e2
  obtain ⟨hp, e3⟩ := List.getElem?_eq_some_iff.1 e2
  exact ⟨hp, e3⟩
/-- A block of three cells, read and written. -/
theorem res_set3 {w : World} {g : Nat} {a b c x y z : Value} {t : TypeId} (h : w.heap[g]? = some (.cells #[a, b, c] t (0, 0))) :
    (((w.setCell ⟨g, 0, none⟩ x).setCell ⟨g, 1, none⟩ y).setCell ⟨g, 2, none⟩ z).heap[g]? = some (.cells #[x, y, z] t (0, 0)) := by
  rw [setCell_eq_setRow w g 0 _ _ (0, 0) x h]
  have h1 := setRow_heap w g _ (#[a, b, c].setIfInBounds 0 x) _ _ h
  rw [setCell_eq_setRow _ g 1 _ _ (0, 0) y h1]
  have h2 := setRow_heap _ g _ ((#[a, b, c].setIfInBounds 0 x).setIfInBounds 1 y) _ _ h1
  rw [setCell_eq_setRow _ g 2 _ _ (0, 0) z h2]
  have h3 := setRow_heap _ g _ (((#[a, b, c].setIfInBounds 0 x).setIfInBounds 1 y).setIfInBounds 2 z) _ _ h2
  exact h3
theorem two_cells {w : World} {g : Nat} {a b : Value} {t : TypeId} (h : w.heap[g]? = some (.cells #[a, b] t (0, 0))) :
    w.cell? ⟨g, 0, none⟩ = some a ∧ w.frozen? ⟨g, 0, none⟩ = false ∧ w.cell? ⟨g, 1, none⟩ = some b ∧ w.frozen? ⟨g, 1, none⟩ = false := by
  refine ⟨?_, ?_, ?_, ?_⟩ <;> simp [World.cell?, World.frozen?, h]
end Go.Proofs.YtljdkjjjnlcflaaDoor
