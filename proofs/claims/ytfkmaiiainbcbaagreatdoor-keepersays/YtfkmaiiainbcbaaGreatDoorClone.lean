/- Rows of registrations in memory of the call's own, and what slices.Clone hands back of such a row. -/
import Derived.Test.YtfkmaiiainbcbaaGreatDoorFacts
import Derived.Lib.SliceRun
import Derived.Lib.Walk
namespace Go.Proofs.YtfkmaiiainbcbaaGreatDoor
open Go.ChangeShapes Go.WideShapes Go.ChangeAt Go.RowKit

/-- A list of registrations as cells. -/
def flat : List (Int × Int) → List Value
  | [] => []
  | r :: l => .int .i64 r.1 :: .int .i64 r.2 :: flat l
theorem flat_length : ∀ l, (flat l).length = l.length * 2
  | [] => rfl
  | r :: l => by simp [flat, flat_length l]; omega
theorem flat_append : ∀ l m, flat (l ++ m) = flat l ++ flat m
  | [], _ => rfl
  | r :: l, m => by simp [flat, flat_append l m]
theorem flat_even : ∀ (l : List (Int × Int)) (i : Nat) (h : i < l.length), (flat l)[i * 2]? = some (.int .i64 l[i].1)
  | r :: l, 0, _ => rfl
  | r :: l, i + 1, h => by
    rw [show (i + 1) * 2 = i * 2 + 1 + 1 by omega]
    simpa [flat] using flat_even l i (by simpa using h)
theorem flat_odd : ∀ (l : List (Int × Int)) (i : Nat) (h : i < l.length), (flat l)[i * 2 + 1]? = some (.int .i64 l[i].2)
  | r :: l, 0, _ => rfl
  | r :: l, i + 1, h => by
    rw [show (i + 1) * 2 + 1 = i * 2 + 1 + 1 + 1 by omega]
    simpa [flat] using flat_odd l i (by simpa using h)
theorem flat_one : ∀ (l : List (Int × Int)) (u : Value), u ∈ flat l → u.oneCell' = true
  | r :: l, u, h => by
    simp only [flat, List.mem_cons] at h
    rcases h with rfl | rfl | h
    · rfl
    · rfl
    · exact flat_one l u h

theorem Row.flat {w : World} {b off n : Nat} {l : List (Int × Int)} (h : Row w (some ⟨b, off, Option.none⟩) n l) (j : Nat) (u : Value) (hj : (flat l)[j]? = some u) : w.cell? ⟨b, off + j, Option.none⟩ = some u := by
  have hlt : j < l.length * 2 := by rw [← flat_length]; exact (List.getElem?_eq_some_iff.1 hj).1
  obtain ⟨b', off', e, hc⟩ := h.2.2 (by have := h.1; omega)
  simp only [Option.some.injEq, Addr.mk.injEq, and_true] at e
  obtain ⟨rfl, rfl⟩ := e
  rcases Nat.mod_two_eq_zero_or_one j with hm | hm
  · obtain ⟨i, rfl⟩ : ∃ i, j = i * 2 := ⟨j / 2, by omega⟩
    rw [flat_even l i (by omega)] at hj
    rw [(hc i (by omega)).1, hj]
  · obtain ⟨i, rfl⟩ : ∃ i, j = i * 2 + 1 := ⟨j / 2, by omega⟩
    rw [flat_odd l i (by omega)] at hj
    rw [← Nat.add_assoc, (hc i (by omega)).2, hj]

/-- A row that is the call's own. -/
def Own (w : World) (base g cap : Nat) (l : List (Int × Int)) : Prop :=
  base ≤ g ∧ l.length ≤ cap ∧ cap ≤ 9223372036854775807 ∧ ∃ cur : List Value, w.heap[g]? = some (.cells cur.toArray 73 (0, 0)) ∧ cur.length = cap * 2 ∧ cur.take (l.length * 2) = flat l

theorem Own.ofRow {w : World} {base : Nat} {v : Value} {n : Nat} {l : List (Int × Int)} (hn : l.length = n) (h : w.ownsRow base 73 2 v n (flat l)) (hv : v ≠ .slice Option.none 0 0) : ∃ g cap, v = .slice (some ⟨g, 0, Option.none⟩) n cap ∧ Own w base g cap l := by
  rcases h.2 with ⟨e, _⟩ | ⟨g, cap, cur, rfl, hb, hg, hnc, hcm, hs, ht⟩
  · exact absurd e hv
  · exact ⟨g, cap, rfl, hb, by omega, by simpa [maxLen] using hcm, cur.toList, by simpa using hg, by simpa using hs, by rw [hn]; exact ht⟩

theorem Own.toRow {w : World} {base g cap : Nat} {l : List (Int × Int)} (h : Own w base g cap l) : w.ownsRow base 73 2 (.slice (some ⟨g, 0, Option.none⟩) l.length cap) l.length (flat l) := by
  obtain ⟨hb, hl, hc, cur, hg, hs, ht⟩ := h
  exact ⟨flat_length l, .inr ⟨g, cap, cur.toArray, rfl, hb, hg, hl, by simpa [maxLen] using hc, by simpa using hs, by simpa using ht⟩⟩

theorem Own.row {w : World} {base g cap : Nat} {l : List (Int × Int)} (h : Own w base g cap l) : Row w (some ⟨g, 0, Option.none⟩) l.length l := by
  refine ⟨rfl, by have := h.2.1; have := h.2.2.1; omega, fun _ => ⟨g, 0, rfl, fun i hi => ?_⟩⟩
  have h1 := h.toRow.cellAt (i * 2) (by omega)
  have h2 := h.toRow.cellAt (i * 2 + 1) (by omega)
  rw [flat_even l i hi] at h1
  rw [flat_odd l i hi] at h2
  simpa using ⟨h1, h2⟩

theorem Own.later {w w' : World} {base B g cap : Nat} {l : List (Int × Int)} (h : Own w base g cap l) (hb : Below B w w') (hg : g < B) : Own w' base g cap l := by
  obtain ⟨h1, h2, h3, cur, h4, h5, h6⟩ := h
  exact ⟨h1, h2, h3, cur, by rw [hb.block g hg]; exact h4, h5, h6⟩
theorem Own.lt {w : World} {base g cap : Nat} {l : List (Int × Int)} (h : Own w base g cap l) : g < w.heap.size := by
  obtain ⟨_, _, _, cur, h4, _⟩ := h
  exact (Array.getElem?_eq_some_iff.1 h4).1

theorem zero_reg : ∃ i, Tryz.prog.info? 73 = some i ∧ i.zero = some (.agg #[.int .i64 0, .int .i64 0]) ∧ i.size = 2 ∧ i.bytes = 16 := by
  have h : (Tryz.prog.info? 73).map (fun i => (i.zero, i.size, i.bytes)) = some (some (.agg #[.int .i64 0, .int .i64 0]), 2, 16) := by kernel_rfl
  cases hi : Tryz.prog.info? 73 with
  | none => rw [hi] at h; cases h
  | some i => rw [hi] at h; simp at h; exact ⟨i, rfl, h.1, h.2.1, h.2.2⟩

theorem clone_nil (n c : Nat) (w : World) : Calls Tryz.prog 46 #[.slice Option.none n c] w fun e w' => e = .returned (.slice Option.none 0 0) ∧ w' = w := by
  have q22 : ∀ (w : World) (a : Option Addr) (n c n' c' : Nat), (binOp .eql 35 (.slice a n c) (.slice Option.none n' c')).run Tryz.prog w = .ok (.bool a.isNone) w := fun w a n c n' c' => Lib.run_eql_slice_nil w _ _ a n c n' c' Tryz.underlying35
  go_enter Tryz.func46, Tryz.ntmps46
  go_wp2
  go_ret
  exact ⟨rfl, rfl⟩

set_option maxHeartbeats 2000000 in
set_option maxRecDepth 100000 in
theorem clone_some (ad : Addr) (n c : Nat) (l : List (Int × Int)) (w : World) (hr : Row w (some ad) n l) (hn : n ≤ 1000000) :
    Calls Tryz.prog 46 #[.slice (some ad) n c] w fun e w' => ∃ g cap, e = .returned (.slice (some ⟨g, 0, Option.none⟩) n cap) ∧ Own w' w.heap.size g cap l ∧ Below w.heap.size w w' := by
  have q22 : ∀ (w : World) (a : Option Addr) (n c n' c' : Nat), (binOp .eql 35 (.slice a n c) (.slice Option.none n' c')).run Tryz.prog w = .ok (.bool a.isNone) w := fun w a n c n' c' => Lib.run_eql_slice_nil w _ _ a n c n' c' Tryz.underlying35
  obtain ⟨i0, hi, hz0, hz1, hz2⟩ := zero_reg
  have hl := hr.1
  have HR : Hid (Row w (some ad) n l) := hr
  clear hr
  go_enter Tryz.func46, Tryz.ntmps46
  go_wp2_with (at_builtin; refine wpList_append_own _ rfl _ _ 35 rfl w.heap.size 73 i0 _ 2 16 Tryz.underlying35 hi hz0 hz1 hz2 rfl (by decide) _ _ _ rfl (World.ownsRow_made w #[] 0 (Nat.le_refl _) (Nat.zero_le _) (by simp)) ad n c (flat l) rfl ?qc1 ?qc2 ?qc3 ?qc4 ?qc5 ?qc6 ?_)
  case qc1 => rw [flat_length, hl]
  case qc2 =>
    intro j u hj
    have hlt : j < l.length * 2 := by rw [← flat_length]; exact (List.getElem?_eq_some_iff.1 hj).1
    obtain ⟨b, off, e, _⟩ := HR.out.2.2 (by omega)
    simp only [Option.some.injEq] at e
    subst e
    rw [Addr.add_lit]
    exact Lib.cell?_alloc_some _ (HR.out.flat j u hj)
  case qc3 => exact flat_one l
  case qc4 => rw [Nat.zero_add]; simp [maxLen]; omega
  case qc5 => rw [Nat.zero_add]; omega
  case qc6 => simp
  intro v' w1 hown hgrow hnil
  go_wp2
  go_ret
  have hown' : w1.ownsRow w.heap.size 73 2 v' n (flat l) := by simpa using hown
  obtain ⟨g, cap, rfl, ho⟩ := Own.ofRow hl hown' hnil
  exact ⟨g, cap, rfl, ho, ((Below.refl _ w).alloc (Nat.le_refl _) _).grown hgrow (by simp) (by intro k hk; simp [Value.ownBlock] at hk; omega)⟩
end Go.Proofs.YtfkmaiiainbcbaaGreatDoor
