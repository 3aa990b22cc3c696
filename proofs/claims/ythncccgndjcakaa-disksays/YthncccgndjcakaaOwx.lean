/- Rows of a value's own, and 'append' to them. No statement of the seat is proved here. -/
import Derived.Test.YthncccgndjcakaaBlk
import Derived.Maps.AppendAt
namespace Go.Proofs.Ythncccgndjcakaa
open Go.ChangeShapes Go.WideShapes Go.ChangeAt Go.RowKit Go.Deep

/-- The blocks that a slice owns. -/
def ObX (v : Value) : Nat → Prop := fun k => v.ownBlock = some k
theorem ObX.nil (k : Nat) : ¬ ObX (.slice Option.none 0 0) k := fun h => by cases h
/-- A row of its own. -/
def OwnX (T : TypeId) (size : Nat) (w : World) (v : Value) (n : Nat) (xs : List Value) : Prop := w.ownsRow 0 T size v n xs
section
variable {T : TypeId} {size n : Nat} {w w' : World} {v : Value} {xs : List Value}
theorem OwnX.kept (h : OwnX T size w v n xs) (hk : ∀ k, ObX v k → w'.heap[k]? = w.heap[k]?) : OwnX T size w' v n xs := by
  refine ⟨h.1, ?_⟩
  rcases h.2 with h0 | ⟨g, cap, cur, e, h1, hg, h2⟩
  · exact .inl h0
  · exact .inr ⟨g, cap, cur, e, h1, by rw [hk g (by rw [e]; rfl)]; exact hg, h2⟩
theorem OwnX.lt (h : OwnX T size w v n xs) {k : Nat} (hk : ObX v k) : k < w.heap.size := by
  rcases h.2 with ⟨rfl, _⟩ | ⟨g, cap, cur, rfl, h1, hg, h2⟩
  · cases hk
  · simp [ObX, Value.ownBlock] at hk; subst hk; exact (Array.getElem?_eq_some_iff.1 hg).1
theorem OwnX.later {B : Nat} (h : OwnX T size w v n xs) (hb : Below B w w') (hB : w.heap.size ≤ B) : OwnX T size w' v n xs :=
  h.kept fun k hk => hb.block k (by have := h.lt hk; omega)
theorem OwnX.moved {F F' : Nat → Prop} (h : OwnX T size w v n xs) (hm : Moved F F' w w') (hd : ∀ k, ObX v k → ¬ F k) : OwnX T size w' v n xs :=
  h.kept fun k hk => hm.block k (h.lt hk) (hd k hk)
theorem OwnX.one (h : OwnX T size w v n xs) : v.cells = #[v] ∧ v.oneCell' = true := by
  rcases h.2 with ⟨rfl, _⟩ | ⟨g, cap, cur, rfl, h1, hg, h2⟩
  · exact ⟨rfl, rfl⟩
  · exact ⟨rfl, rfl⟩
theorem OwnX.nil (T : TypeId) (size : Nat) (w : World) : OwnX T size w (.slice Option.none 0 0) 0 [] := ⟨by simp, .inl ⟨rfl, rfl⟩⟩
/-- What a row with something in it looks like. -/
theorem OwnX.some (h : OwnX T size w v n xs) (hn : 0 < n) : ∃ g cap cur, v = .slice (Option.some ⟨g, 0, Option.none⟩) n cap ∧ w.heap[g]? = Option.some (.cells cur T (0, 0)) ∧ n ≤ cap ∧ cap ≤ maxLen ∧ cur.size = cap * size ∧ cur.toList.take (n * size) = xs := by
  rcases h.2 with ⟨_, h0⟩ | ⟨g, cap, cur, e, _, h2⟩
  · omega
  · exact ⟨g, cap, cur, e, h2⟩
/-- The form of it, with something in it or not. -/
theorem OwnX.form (h : OwnX T size w v n xs) : ∃ a cap, v = .slice a n cap := by
  rcases h.2 with ⟨rfl, rfl⟩ | ⟨g, cap, cur, e, _⟩
  · exact ⟨_, _, rfl⟩
  · exact ⟨_, _, e⟩
theorem OwnX.cell {a : Option Addr} {cap : Nat} (h : OwnX T size w (.slice a n cap) n xs) {j : Nat} (hj : j < n * size) : ∃ g, a = Option.some ⟨g, 0, Option.none⟩ ∧ w.cell? ⟨g, j, Option.none⟩ = xs[j]? := by
  have hn : 0 < n := by
    rcases Nat.eq_zero_or_pos n with rfl | h0
    · simp at hj
    · exact h0
  obtain ⟨g, cap', cur, e, hg, h1, h2, h3, h4⟩ := h.some hn
  simp only [Value.slice.injEq] at e
  obtain ⟨rfl, _, rfl⟩ := e
  refine ⟨g, rfl, ?_⟩
  have hc : w.cell? ⟨g, j, Option.none⟩ = cur[j]? := by simp [World.cell?, hg]
  rw [hc, ← h4, List.getElem?_take_of_lt hj]
  simp
theorem OwnX.frozen {a : Option Addr} {cap : Nat} (h : OwnX T size w (.slice a n cap) n xs) {g : Nat} (ha : a = Option.some ⟨g, 0, Option.none⟩) (j : Nat) : w.frozen? ⟨g, j, Option.none⟩ = false := by
  rcases h.2 with ⟨e, _⟩ | ⟨g', cap', cur, e, _, hg, _⟩
  · rw [ha] at e; cases e
  · rw [ha] at e
    simp only [Value.slice.injEq, Option.some.injEq, Addr.mk.injEq, and_true, true_and] at e
    obtain ⟨rfl, _⟩ := e
    simp [World.frozen?, hg]
/-- One cell of it is stored anew. -/
theorem OwnX.set {a : Option Addr} {cap : Nat} (h : OwnX T size w (.slice a n cap) n xs) {g j : Nat} (ha : a = Option.some ⟨g, 0, Option.none⟩) (u : Value) : OwnX T size (w.setCell ⟨g, j, Option.none⟩ u) (.slice a n cap) n (xs.set j u) := by
  refine ⟨by rw [List.length_set]; exact h.1, ?_⟩
  rcases h.2 with ⟨e, _⟩ | ⟨g', cap', cur, e, _, hg, h1, h2, h3, h4⟩
  · rw [ha] at e; cases e
  · have e0 := e
    rw [ha] at e
    simp only [Value.slice.injEq, Option.some.injEq, Addr.mk.injEq, and_true, true_and] at e
    obtain ⟨rfl, rfl⟩ := e
    refine .inr ⟨g, cap, cur.setIfInBounds j u, e0, Nat.zero_le _, heap_setCell_same w g j _ _ _ hg, h1, h2, by simpa using h3, ?_⟩
    rw [← h4, Array.toList_setIfInBounds, List.take_set]
end
theorem wpOp_stepW {P : Program} {ops : Array Oper} {i : Nat} {o : Oper} {a : Act} {w : World} {Q : Exit → Act → World → Prop} {K : Act → World → Prop} (ho : ops[i]? = some o) (hw : Region.wanted o (yielded ops a.tmps) = true) (h : o.wp P a w K Q) : wpOp P ops Q i K a w := by
  unfold wpOp
  rw [ho]
  simp only [hw, if_true]
  exact .inl h
/-- What is known of a type of elements. -/
structure EltI (slT T : TypeId) (size bytes : Nat) : Prop where
  info : ∃ i z, Try.prog.info? T = some i ∧ i.zero = some z ∧ i.size = size ∧ i.bytes = bytes ∧ z.cells.size = size
  und : Try.prog.underlying slT = some (.slice T)
  pos : 0 < size
  low : bytes ≤ 1000
theorem run_appX {slT T : TypeId} {size bytes : Nat} (E : EltI slT T size bytes) (ty : TypeId) {u : Value} {n : Nat} {xs : List Value} {X : World} (ho : OwnX T size X u n xs) (b o m c : Nat) (news : List Value) (hl : news.length = m * size)
    (hc : ∀ j y, news[j]? = some y → X.cell? ⟨b, o + j, Option.none⟩ = some y) (h1 : ∀ y ∈ news, y.oneCell' = true) (hn : n + m ≤ 1000000) :
    ∃ v' w', (Builtin.append_ #[slT, slT] ty #[u, .slice (some ⟨b, o, Option.none⟩) m c]).run Try.prog X = .ok v' w' ∧ OwnX T size w' v' (n + m) (xs ++ news) ∧ Moved (ObX u) (ObX v') X w' := by
  obtain ⟨i, z, hi, hz, hs, hb, hzs⟩ := E.info
  have hadd : ∀ j, (⟨b, o, Option.none⟩ : Addr).add j = ⟨b, o + j, Option.none⟩ := fun j => by cases j <;> simp [Addr.add]
  have hmul : (n + m) * bytes ≤ 1000000 * 1000 := Nat.mul_le_mul hn E.low
  obtain ⟨v', w', hr, h2, h3, h4, h5⟩ := run_append_own_at (P := Try.prog) (w := X) 0 slT ty T i z size bytes E.und hi hz hs hb hzs E.pos u n xs ho ⟨b, o, Option.none⟩ m c news hl (fun j y hj => by rw [hadd]; exact hc j y hj) h1 (by simp only [maxLen]; omega) (by omega) (Nat.zero_le _)
  refine ⟨v', w', hr, h2, ⟨h3.os, h3.tape, h3.output, h3.size, fun k hk hne => h3.block k hk (fun e => hne e.symm), fun k hk => ?_⟩⟩
  rcases h5 with h5 | h5
  · exact .inl (by unfold ObX at *; rw [← h5]; exact hk)
  · refine .inr ?_
    unfold ObX at hk
    rw [h5] at hk
    simp only [Option.some.injEq] at hk
    omega
theorem wp_appX {slT T : TypeId} {size bytes : Nat} (E : EltI slT T size bytes) {o : Oper} {a : Act} {K : Act → World → Prop} {Q : Exit → Act → World → Prop} (s x : Operand) (hop : o.op = .call { callee := .builtin .append, args := #[s, x], argTypes := #[slT, slT] })
    {u : Value} {n : Nat} {xs : List Value} {X : World} (ho : OwnX T size X u n xs) (b p m c : Nat) (news : List Value) (hs : a.eval s = u) (hx : a.eval x = .slice (some ⟨b, p, Option.none⟩) m c) (hl : news.length = m * size)
    (hc : ∀ j y, news[j]? = some y → X.cell? ⟨b, p + j, Option.none⟩ = some y) (h1 : ∀ y ∈ news, y.oneCell' = true) (hn : n + m ≤ 1000000)
    (h : ∀ v' w', OwnX T size w' v' (n + m) (xs ++ news) → Moved (ObX u) (ObX v') X w' → K (a.put o.dst v') w') : Oper.wp Try.prog o a X K Q := by
  obtain ⟨v', w', hr, h2, h3⟩ := run_appX E o.type ho b p m c news hl hc h1 hn
  unfold Oper.wp execOp
  simp only [hop, resolve, invoke, builtin, Sem.run_bind, Sem.run_pure, Result.andThen_ok, List.map_toArray, List.map_cons, List.map_nil, hs, hx, hr]
  exact h v' w' h2 h3
theorem wpList_appX {slT T : TypeId} {size bytes : Nat} (E : EltI slT T size bytes) {ops : Array Oper} {rest : List Oper} {o : Oper} {a : Act} {Q : Exit → Act → World → Prop} (hgd : o.guard = Option.none) (s x : Operand) (hop : o.op = .call { callee := .builtin .append, args := #[s, x], argTypes := #[slT, slT] })
    {u : Value} {n : Nat} {xs : List Value} {X : World} (ho : OwnX T size X u n xs) (b p m c : Nat) (news : List Value) (hs : a.eval s = u) (hx : a.eval x = .slice (some ⟨b, p, Option.none⟩) m c) (hl : news.length = m * size)
    (hc : ∀ j y, news[j]? = some y → X.cell? ⟨b, p + j, Option.none⟩ = some y) (h1 : ∀ y ∈ news, y.oneCell' = true) (hn : n + m ≤ 1000000)
    (h : ∀ v' w', OwnX T size w' v' (n + m) (xs ++ news) → Moved (ObX u) (ObX v') X w' → wpList Try.prog ops Q rest (a.put o.dst v') w') : wpList Try.prog ops Q (o :: rest) a X :=
  wpList_plain hgd fun _ hK => wp_appX E s x hop ho b p m c news hs hx hl hc h1 hn fun v' w' q1 q2 => hK _ _ (h v' w' q1 q2)
end Go.Proofs.Ythncccgndjcakaa
