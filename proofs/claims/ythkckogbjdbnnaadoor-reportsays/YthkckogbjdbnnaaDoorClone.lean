/- Rows of registrations in memory of the call's own, and what slices.Clone hands back of such a row. -/
import Derived.Test.YthkckogbjdbnnaaDoorFacts
import Derived.Lib.SliceRun
import Derived.Lib.Walk
namespace Go.Proofs.YthkckogbjdbnnaaDoor
open Go.ChangeShapes Go.WideShapes Go.ChangeAt Go.RowKit

/-- A list of registrations as cells. -/
def flat : List (Int × Int) → List Value
  | [] => []
  | r :: l => .int .i64 r.1 :: .int .i64 r.2 :: flat l
theorem flat_length : ∀ l, (flat l).length = l.length * 2
  | [] => rfl
  | r :: l => by simp [flat, flat_length l]; omega
theorem flat_append : ∀ l m, flat (l ++ m) = flat l ++ flat m
  | [], _ => rfl
  | r :: l, m => by simp [flat, flat_append l m]
theorem flat_even : ∀ (l : List (Int × Int)) (i : Nat) (h : i < l.length), (flat l)[i * 2]? = some (.int .i64 l[i].1)
  | r :: l, 0, _ => rfl
  | r :: l, i + 1, h => by
    rw [show (i + 1) * 2 = i * 2 + 1 + 1 by omega]
    simpa [flat] using flat_even l i (by simpa using h)
theorem flat_odd : ∀ (l : List (Int × Int)) (i : Nat) (h : i < l.length), (flat l)[i * 2 + 1]? = some (.int .i64 l[i].2)
  | r :: l, 0, _ => rfl
  | r :: l, i + 1, h => by
    rw [show (i + 1) * 2 + 1 = i * 2 + 1 + 1 + 1 by omega]
    simpa [flat] using flat_odd l i (by simpa using h)
theorem flat_one : ∀ (l : List (Int × Int)) (u : Value), u ∈ flat l → u.oneCell' = true
  | r :: l, u, h => by
    simp only [flat, List.mem_cons] at h
    rcases h with rfl | rfl | h
    · rfl
    · rfl
    · exact flat_one l u h

theorem Row.flat {w : World} {b off n : Nat} {l : List (Int × Int)} (h : Row w (some ⟨b, off, Option.none⟩) n l) (j : Nat) (u : Value) (hj : (flat l)[j]? = some u) : w.cell? ⟨b, off + j, Option.none⟩ = some u := by
  have hlt : j < l.length * 2 := by rw [← flat_length]; exact (List.getElem?_eq_some_iff.1 hj).1
  obtain ⟨b', off', e, hc⟩ := h.2.2 (by have := h.1; omega)
  simp only [Option.some.injEq, Addr.mk.injEq, and_true] at e
  obtain ⟨rfl, rfl⟩ := e
  rcases Nat.mod_two_eq_zero_or_one j with hm | hm
  · obtain ⟨i, rfl⟩ : ∃ i, j = i * 2 := ⟨j / 2, by omega⟩
    rw [flat_even l i (by omega)] at hj
    rw [(hc i (by omega)).1, hj]
  · obtain ⟨i, rfl⟩ : ∃ i, j = i * 2 + 1 := ⟨j / 2, by omega⟩
    rw [flat_odd l i (by omega)] at hj
    rw [← Nat.add_assoc, (hc i (by omega)).2, hj]

/-- A row that is the call's own. -/
def Own (w : World) (base g cap : Nat) (l : List (Int × Int)) : Prop :=
  base ≤ g ∧ l.length ≤ cap ∧ cap ≤ 9223372036854775807 ∧ ∃ cur : List Value, w.heap[g]? = some (.cells cur.toArray 78 (0, 0)) ∧ cur.length = cap * 2 ∧ cur.take (l.length * 2) = flat l

theorem Own.ofRow {w : World} {base : Nat} {v : Value} {n : Nat} {l : List (Int × Int)} (hn : l.length = n) (h : w.ownsRow base 78 2 v n (flat l)) (hv : v ≠ .slice Option.none 0 0) : ∃ g cap, v = .slice (some ⟨g, 0, Option.none⟩) n cap ∧ Own w base g cap l := by
  rcases h.2 with ⟨e, _⟩ | ⟨g, cap, cur, rfl, hb, hg, hnc, hcm, hs, ht⟩
  · exact absurd e hv
  · exact ⟨g, cap, rfl, hb, by omega, by simpa [maxLen] using hcm, cur.toList, by simpa using hg, by simpa using hs, by rw [hn]; exact ht⟩

theorem Own.toRow {w : World} {base g cap : Nat} {l : List (Int × Int)} (h : Own w base g cap l) : w.ownsRow base 78 2 (.slice (some ⟨g, 0, Option.none⟩) l.length cap) l.length (flat l) := by
  obtain ⟨hb, hl, hc, cur, hg, hs, ht⟩ := h
  exact ⟨flat_length l, .inr ⟨g, cap, cur.toArray, rfl, hb, hg, hl, by simpa [maxLen] using hc, by simpa using hs, by simpa using ht⟩⟩

theorem Own.row {w : World} {base g cap : Nat} {l : List (Int × Int)} (h : Own w base g cap l) : Row w (some ⟨g, 0, Option.none⟩) l.length l := by
  refine ⟨rfl, by have := h.2.1; have := h.2.2.1; omega, fun _ => ⟨g, 0, rfl, fun i hi => ?_⟩⟩
  have h1 := h.toRow.cellAt (i * 2) (by omega)
  have h2 := h.toRow.cellAt (i * 2 + 1) (by omega)
  rw [flat_even l i hi] at h1
  rw [flat_odd l i hi] at h2
  simpa using ⟨h1, h2⟩

theorem Own.later {w w' : World} {base B g cap : Nat} {l : List (Int × Int)} (h : Own w base g cap l) (hb : Below B w w') (hg : g < B) : Own w' base g cap l := by
  obtain ⟨h1, h2, h3, cur, h4, h5, h6⟩ := h
  exact ⟨h1, h2, h3, cur, by rw [hb.block g hg]; exact h4, h5, h6⟩
theorem Own.lt {w : World} {base g cap : Nat} {l : List (Int × Int)} (h : Own w base g cap l) : g < w.heap.size := by
  obtain ⟨_, _, _, cur, h4, _⟩ := h
  exact (Array.getElem?_eq_some_iff.1 h4).1

theorem zero_reg : ∃ i, Tryd.prog.info? 78 = some i ∧ i.zero = some (.agg #[.int .i64 0, .int .i64 0]) ∧ i.size = 2 ∧ i.bytes = 16 := by
  have h : (Tryd.prog.info? 78).map (fun i => (i.zero, i.size, i.bytes)) = some (some (.agg #[.int .i64 0, .int .i64 0]), 2, 16) := by kernel_rfl
  cases hi : Tryd.prog.info? 78 with
  | none => rw [hi] at h; cases h
  | some i => rw [hi] at h; simp at h; exact ⟨i, rfl, h.1, h.2.1, h.2.2⟩



end Go.Proofs.YthkckogbjdbnnaaDoor
