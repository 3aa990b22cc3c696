/- Rows of numbers in memory: what they are, 'append' of one. No statement of the seat is proved here. -/
import Derived.Test.YthkckogbjdbnnaaDoorBase
import Derived.Lib.SliceRun
import Derived.Lib.Walk
namespace Go.Proofs.YthkckogbjdbnnaaDoor
open Go.ChangeShapes Go.WideShapes Go.ChangeAt Go.RowKit

/-- A row of numbers in memory. -/
def Nums (w : World) (a : Option Addr) (n : Nat) (l : List Int) : Prop :=
  l.length = n ∧ n ≤ 9223372036854775807 ∧ (n ≠ 0 → ∃ b off, a = some ⟨b, off, Option.none⟩ ∧ ∀ i (h : i < l.length), w.cell? ⟨b, off + i, Option.none⟩ = some (.int .i64 l[i]))
theorem Nums.later {w w' : World} {a : Option Addr} {n : Nat} {l : List Int} (h : Nums w a n l) (hb : Below w.heap.size w w') : Nums w' a n l := by
  refine ⟨h.1, h.2.1, fun hn => ?_⟩
  obtain ⟨b, off, ha, hc⟩ := h.2.2 hn
  exact ⟨b, off, ha, fun i hi => cell_later hb (hc i hi)⟩

/-- Numbers in a row of the call's own. -/
def OwnI (w : World) (base : Nat) (v : Value) (l : List Int) : Prop := w.ownsRow base 3 1 v l.length (l.map (Value.int .i64))
theorem OwnI.form {w : World} {base : Nat} {v : Value} {l : List Int} (h : OwnI w base v l) : ∃ a n c, v = .slice a n c ∧ Nums w a n l := by
  rcases h.2 with ⟨rfl, h0⟩ | ⟨g, cap, cur, rfl, hb, hg, hnc, hcm, hs, ht⟩
  · have : l = [] := List.eq_nil_of_length_eq_zero h0
    subst this
    exact ⟨_, _, _, rfl, rfl, by decide, fun h => absurd rfl h⟩
  · have hm : cap ≤ 9223372036854775807 := by simpa [maxLen] using hcm
    refine ⟨_, _, _, rfl, rfl, by omega, fun _ => ⟨g, 0, rfl, fun i hi => ?_⟩⟩
    have := World.ownsRow.cellAt h i (by omega)
    rw [Nat.zero_add, this]
    simp [hi]
theorem OwnI.later {X X' : World} {base B : Nat} {v : Value} {l : List Int} (h : OwnI X base v l) (hb : Below B X X') (hB : X.heap.size ≤ B) : OwnI X' base v l := by
  refine ⟨h.1, ?_⟩
  rcases h.2 with h0 | ⟨g, cap, cur, e, h1, hg, h2⟩
  · exact .inl h0
  · have := (Array.getElem?_eq_some_iff.1 hg).1
    exact .inr ⟨g, cap, cur, e, h1, by rw [hb.block g (by omega)]; exact hg, h2⟩
theorem OwnI.block {w : World} {base : Nat} {v : Value} {l : List Int} (h : OwnI w base v l) : ∀ k, v.ownBlock = some k → base ≤ k := by
  intro k hk
  rcases h.2 with ⟨rfl, _⟩ | ⟨g, cap, cur, rfl, hb, _⟩
  · cases hk
  · simp [Value.ownBlock] at hk; omega

theorem zero_int : ∃ i, Tryd.prog.info? 3 = some i ∧ i.zero = some (.int .i64 0) ∧ i.size = 1 ∧ i.bytes = 8 := by
  have h : (Tryd.prog.info? 3).map (fun i => (i.zero, i.size, i.bytes)) = some (some (.int .i64 0), 1, 8) := by kernel_rfl
  cases hi : Tryd.prog.info? 3 with
  | none => rw [hi] at h; cases h
  | some i => rw [hi] at h; simp at h; exact ⟨i, rfl, h.1, h.2.1, h.2.2⟩

/-- 'append' of one number that lies in a new block. -/
theorem wpList_appI {ops : Array Oper} {rest : List Oper} {o : Oper} {a : Act} {Q : Exit → Act → World → Prop} (hgd : o.guard = Option.none) (s x : Operand) (hop : o.op = .call { callee := .builtin .append, args := #[s, x], argTypes := #[54, 54] })
    (base : Nat) (u : Value) (acc : List Int) (p : Int) (X : World) (hs : a.eval s = u) (hx : a.eval x = .slice (some ⟨X.heap.size, 0, Option.none⟩) 1 1) (ho : OwnI X base u acc) (hl : acc.length ≤ 1000000) (hb : base ≤ X.heap.size)
    (h : ∀ a' n' c' w', OwnI w' base (.slice a' n' c') (acc ++ [p]) → Below base X w' → wpList Tryd.prog ops Q rest (a.put o.dst (.slice a' n' c')) w') :
    wpList Tryd.prog ops Q (o :: rest) a (X.alloc (.cells #[.int .i64 p] 3)) := by
  obtain ⟨i0, hi, hz0, hz1, hz2⟩ := zero_int
  have hX : Below X.heap.size X (X.alloc (.cells #[.int .i64 p] 3)) := (Below.refl _ _).alloc (Nat.le_refl _) _
  have ho' := ho.later hX (Nat.le_refl _)
  refine wpList_append_own _ hgd s x 54 hop base 3 i0 _ 1 8 Tryd.underlying54 hi hz0 hz1 hz2 rfl (by decide) u acc.length _ hs ho' ⟨X.heap.size, 0, Option.none⟩ 1 1 [.int .i64 p] hx rfl
    (fun j v hj => by cases j with
      | zero => simp at hj; subst hj; simp [Addr.add, go_sem]
      | succ j => simp at hj) (fun v hv => by simp at hv; subst hv; rfl) (by simp only [maxLen]; omega) (by omega) (by have := hX.size; omega) ?_
  intro v' w' hown hgrow hnil
  have hO : OwnI w' base v' (acc ++ [p]) := by
    have e : (acc ++ [p]).length = acc.length + 1 := by simp
    unfold OwnI
    rw [e, List.map_append]
    exact hown
  obtain ⟨a', n', c', rfl, _⟩ := hO.form
  exact h _ _ _ w' hO ((hX.mono hb).grown hgrow (by have := hX.size; omega) ho.block)

end Go.Proofs.YthkckogbjdbnnaaDoor
