/- What slices.Insert of one registration does to a row of the call's own that is full, ahead of the last. -/
import Derived.Test.YtokjacbipmfjkaaInsMid
namespace Go.Proofs.Ytokjacbipmfjkaa
open Go.ChangeShapes Go.WideShapes Go.ChangeAt Go.RowKit

/-- What two copies make of a new row: one put behind the first i, and the rest behind it. -/
theorem splice3 (l : List (Int × Int)) (i : Nat) (x k : Int) (row : List Value) (cap : Nat) (hi : i < l.length) (hroom : l.length + 1 ≤ cap) (hs : row.length = cap * 2) (ht : row.take (i * 2) = flat (l.take i)) (r1 r2 : List Value)
    (h1 : r1 = row.take (i * 2) ++ [.int .i64 x, .int .i64 k] ++ row.drop (i * 2 + [Value.int .i64 x, .int .i64 k].length))
    (h2 : r2 = r1.take ((i + 1) * 2) ++ flat (l.drop i) ++ r1.drop ((i + 1) * 2 + (flat (l.drop i)).length)) :
    r1.length = cap * 2 ∧ r2.length = cap * 2 ∧ r2.take ((put l i (x, k)).length * 2) = flat (put l i (x, k)) := by
  have hfl : (flat (l.drop i)).length = (l.length - i) * 2 := by rw [flat_length, List.length_drop]
  have l1 : r1.length = cap * 2 := by rw [h1]; simp; omega
  have l2 : r2.length = cap * 2 := by rw [h2]; simp [hfl]; omega
  refine ⟨l1, l2, ?_⟩
  have e1 : r1.take ((i + 1) * 2) = flat (l.take i) ++ [.int .i64 x, .int .i64 k] := by
    rw [h1, ht, List.take_append_of_le_length (by simp [flat_length]; omega), List.take_of_length_le (by simp [flat_length]; omega)]
  have e3 : r2 = flat (put l i (x, k)) ++ r1.drop ((i + 1) * 2 + (flat (l.drop i)).length) := by
    rw [h2, e1, put, flat_append]; simp [flat]
  rw [e3, List.take_append_of_le_length (by rw [flat_length]; exact Nat.le_refl _), List.take_of_length_le (by rw [flat_length]; exact Nat.le_refl _)]

set_option maxHeartbeats 4000000 in
set_option maxRecDepth 100000 in
theorem ins_grow (a c g cap i : Nat) (base : Nat) (l : List (Int × Int)) (x k : Int) (w : World) (ho : Own w base g cap l) (hi : i < l.length) (hroom : cap < l.length + 1) (hn : l.length ≤ 1000000) (ha : w.heap[a]? = some (.cells #[.int .i64 x, .int .i64 k] 49 (0, 0))) :
    Calls Try.prog 62 #[.slice (some ⟨g, 0, Option.none⟩) l.length cap, .int .i64 (i : Int), .slice (some ⟨a, 0, Option.none⟩) 1 c] w fun e w' =>
      ∃ g' cap', e = .returned (.slice (some ⟨g', 0, Option.none⟩) (l.length + 1) cap') ∧ Own w' base g' cap' (put l i (x, k)) ∧ Below base w w' := by
  have hrow := ho.row
  have hglt := ho.lt
  obtain ⟨hbg, hncap, hcap, _⟩ := ho
  obtain ⟨i0, hi0, hz0, hz1, hz2⟩ := zero_reg
  have halt : a < w.heap.size := (Array.getElem?_eq_some_iff.1 ha).1
  have hold : (Builtin.firstCells i0.size i (.slice (some ⟨g, 0, Option.none⟩) i cap)).run Try.prog w.drew = .ok (flat (l.take i)).toArray w.drew := by
    rw [hz1]
    exact run_firstCells_some w.drew 2 i ⟨g, 0, Option.none⟩ i cap (flat (l.take i)) (by rw [flat_length, List.length_take]; congr 1; omega) (fun j v hj => by
      rw [Addr.add_lit]
      rw [flat_take, List.getElem?_take] at hj
      split at hj
      · exact hrow.flat j v hj
      · cases hj)
  have hkk : ((l.length : Int) + 1 - (i : Int)) = ((l.length + 1 - i : Nat) : Int) := by omega
  have hik : i + (l.length + 1 - i) = l.length + 1 := by omega
  obtain ⟨G, hG⟩ : ∃ G, G = grownCap w (l.length + 1) cap 49 := ⟨_, rfl⟩
  have hGn : l.length + 1 ≤ G := by rw [hG]; exact grownCap_ge w _ _ _
  have hG63 : G ≤ 9223372036854775807 := by
    have := grownCap_le_maxLen w (l.length + 1) cap 49 (by unfold maxLen; omega)
    rw [← hG] at this
    unfold maxLen at this
    omega
  obtain ⟨ROW, hROW⟩ : ∃ ROW : List Value, ROW = flat (l.take i) ++ (Builtin.zeroCells (Value.agg #[.int .i64 0, .int .i64 0]).cells (l.length + 1 - i)).toList ++ (Builtin.zeroCells (Value.agg #[.int .i64 0, .int .i64 0]).cells (G - (l.length + 1))).toList := ⟨_, rfl⟩
  have hRT : ROW.toArray = (flat (l.take i)).toArray ++ Builtin.zeroCells (Value.agg #[.int .i64 0, .int .i64 0]).cells (l.length + 1 - i) ++ Builtin.zeroCells (Value.agg #[.int .i64 0, .int .i64 0]).cells (G - (l.length + 1)) := by rw [hROW]; simp
  have hrz : ∀ ty, (Builtin.append_ #[22, 3] ty #[.slice (some ⟨g, 0, Option.none⟩) i cap, .int .i64 ((l.length : Int) + 1 - (i : Int))]).run Try.prog w =
      .ok (.slice (some ⟨w.heap.size, 0, Option.none⟩) (l.length + 1) G) (w.drew.alloc (.cells ROW.toArray 49)) := fun ty => by
    have h := Lib.run_append_grow_zeros w 22 3 ty 49 i0 _ .i64 .i64 Try.underlying22 Try.underlying3 hi0 hz0 (some ⟨g, 0, Option.none⟩) i cap (flat (l.take i)) hold (l.length + 1 - i) (by omega) (by omega) (by omega) (by omega) (by rw [hz2]; omega) (by rw [hz2, hik]; exact growslice_fits hroom (by omega))
    rw [hik, ← hG] at h
    rw [hkk, hRT]
    exact h
  have hRl : ROW.length = G * 2 := by rw [hROW]; simp [size_zeroCells, flat_length, Value.cells]; omega
  have hRt : ROW.take (i * 2) = flat (l.take i) := by
    rw [hROW, List.append_assoc, List.take_append_of_le_length (by rw [flat_length, List.length_take]; omega), List.take_of_length_le (by rw [flat_length, List.length_take]; omega)]
  obtain ⟨r1, hr1⟩ : ∃ r1, r1 = ROW.take (i * 2) ++ [.int .i64 x, .int .i64 k] ++ ROW.drop (i * 2 + [Value.int .i64 x, .int .i64 k].length) := ⟨_, rfl⟩
  obtain ⟨r2, hr2⟩ : ∃ r2, r2 = r1.take ((i + 1) * 2) ++ flat (l.drop i) ++ r1.drop ((i + 1) * 2 + (flat (l.drop i)).length) := ⟨_, rfl⟩
  obtain ⟨hl1, hl2, ht2⟩ := splice3 l i x k ROW G hi hGn hRl hRt r1 r2 hr1 hr2
  have hfl : (flat (l.drop i)).length = (l.length - i) * 2 := by rw [flat_length, List.length_drop]
  have hg0 : (w.alloc (.cells ROW.toArray 49)).drew.heap[w.heap.size]? = some (.cells ROW.toArray 49 (0, 0)) := heap_alloc_new w _
  have hold2 : ∀ p v, p < w.heap.size → w.heap[p]? = v → (w.alloc (.cells ROW.toArray 49)).drew.heap[p]? = v := fun p v hp hv => by rw [← hv]; exact Below.heap_alloc w _ p hp
  have hsrc1 : ∀ j v, [Value.int .i64 x, .int .i64 k][j]? = some v → (w.alloc (.cells ROW.toArray 49)).drew.cell? ((⟨a, 0, Option.none⟩ : Addr).add j) = some v := by
    have hh := hold2 a _ halt ha
    exact one_news (by simp [World.cell?, hh]) (by simp [World.cell?, hh])
  have hcpA : ∀ ty dc, (Builtin.copy_ #[22, 22] ty #[.slice (some ⟨w.heap.size, i * 2, Option.none⟩) (l.length + 1 - i) dc, .slice (some ⟨a, 0, Option.none⟩) 1 c]).run Try.prog (w.alloc (.cells ROW.toArray 49)).drew = .ok (goInt (Nat.min 1 (l.length + 1 - i))) ((w.alloc (.cells ROW.toArray 49)).drew.setRow w.heap.size r1.toArray) := fun ty dc => by
    rw [hr1]
    exact run_copy_own _ w.heap.size (i * 2) (l.length + 1 - i) dc ⟨a, 0, Option.none⟩ 1 c ROW _ ty hg0 (by show 2 = Nat.min 1 (l.length + 1 - i) * 2; have : Nat.min 1 (l.length + 1 - i) = 1 := Nat.min_eq_left (by omega); rw [this]) hsrc1 (by simp; omega) (one_one x k)
  have hg1 : (((w.alloc (.cells ROW.toArray 49)).drew.setRow w.heap.size r1.toArray).drew).heap[w.heap.size]? = some (.cells r1.toArray 49 (0, 0)) := setRow_heap (w.alloc (.cells ROW.toArray 49)).drew w.heap.size _ _ _ _ hg0
  have hsrc2 : ∀ j v, (flat (l.drop i))[j]? = some v → (((w.alloc (.cells ROW.toArray 49)).drew.setRow w.heap.size r1.toArray).drew).cell? ((⟨g, i * 2, Option.none⟩ : Addr).add j) = some v := by
    intro j v hj
    rw [Addr.add_lit]
    have hc : w.cell? ⟨g, i * 2 + j, Option.none⟩ = some v := by
      have := hrow.flat (i * 2 + j) v (by rw [flat_drop, List.getElem?_drop] at hj; exact hj)
      simpa using this
    have hb : (((w.alloc (.cells ROW.toArray 49)).drew.setRow w.heap.size r1.toArray).drew).heap[g]? = w.heap[g]? := by
      show ((w.alloc (.cells ROW.toArray 49)).drew.setRow w.heap.size r1.toArray).heap[g]? = _
      rw [setRow_other _ _ _ _ (by omega)]
      exact Below.heap_alloc w _ g hglt
    rw [World.cell?_of_block (w := w) hb]
    exact hc
  have hcpB : ∀ ty dc sc, (Builtin.copy_ #[22, 22] ty #[.slice (some ⟨w.heap.size, (i + 1) * 2, Option.none⟩) (l.length - i) dc, .slice (some ⟨g, i * 2, Option.none⟩) (l.length - i) sc]).run Try.prog (((w.alloc (.cells ROW.toArray 49)).drew.setRow w.heap.size r1.toArray).drew) = .ok (goInt (Nat.min (l.length - i) (l.length - i))) ((((w.alloc (.cells ROW.toArray 49)).drew.setRow w.heap.size r1.toArray).drew).setRow w.heap.size r2.toArray) := fun ty dc sc => by
    rw [hr2]
    exact run_copy_own _ w.heap.size ((i + 1) * 2) (l.length - i) dc ⟨g, i * 2, Option.none⟩ (l.length - i) sc r1 _ ty hg1 (by rw [hfl]; congr 1; exact (Nat.min_self _).symm) hsrc2 (by rw [hfl]; omega) (flat_one _)
  have HO : Hid (Own ((((w.alloc (.cells ROW.toArray 49)).drew.setRow w.heap.size r1.toArray).drew).setRow w.heap.size r2.toArray) base w.heap.size G (put l i (x, k))) := ⟨by omega, by rw [put_length _ _ _ (by omega)]; omega, hG63, r2, setRow_heap _ _ _ _ _ _ hg1, hl2, ht2⟩
  have HB : Hid (Below base w ((((w.alloc (.cells ROW.toArray 49)).drew.setRow w.heap.size r1.toArray).drew).setRow w.heap.size r2.toArray)) := by
    refine ⟨rfl, rfl, rfl, ?_, fun kk hkk => ?_⟩
    · show w.heap.size ≤ (((w.alloc (.cells ROW.toArray 49)).setRow w.heap.size r1.toArray).setRow w.heap.size r2.toArray).heap.size
      simp
    · rw [setRow_other _ _ _ _ (by omega)]
      show ((w.alloc (.cells ROW.toArray 49)).drew.setRow w.heap.size r1.toArray).heap[kk]? = _
      rw [setRow_other _ _ _ _ (by omega)]
      exact Below.heap_alloc w _ kk (by omega)
  clear hRT hROW hold hkk hik hr1 hr2 hl1 hl2 ht2 hfl hg0 hold2 hsrc1 hg1 hsrc2 hrow ha hRl hRt hG hi0 hz0 hz1 hz2
  generalize hl : l.length = n at *
  have HL : Hid (l.length = n) := hl
  clear hl
  have hz2' : ((i : Int) == (n : Int)) = false := beq_eq_false_iff_ne.2 (by omega)
  have hz3 : (cap : Int) < (n : Int) + 1 := by omega
  have hb4 : ¬ (cap = i) := by omega
  have hw1 : IntKind.i64.wrap ((i : Int) + 1) = (i : Int) + 1 := by rw [IntKind.wrap_i64]; omega
  have hb1 : (0 : Int) ≤ (i : Int) + 1 := by omega
  have hin : i ≤ n := by omega
  have htn : ((i : Int) + 1).toNat = i + 1 := by omega
  have hb3 : (i : Int) ≤ (n : Int) := by omega
  have hb5 : (i : Int) + 1 ≤ (n : Int) + 1 := by omega
  have hGi : ¬ (G = i) := by omega
  have hGim : ¬ (G = i + 1) := by omega
  go_enter Try.func62, Try.ntmps62
  go_wp2_with (first
    | (at_builtin; refine Lib.wpList_append_run _ rfl _ _ _ _ rfl _ _ rfl rfl _ _ (hrz _) ?_)
    | (at_builtin; refine wpList_copy_run _ rfl _ _ 22 22 rfl _ _ rfl rfl (hcpA _ _) ?_))
  go_region_law (refine step_copy_run rfl _ _ 22 22 rfl _ _ (by simp [Act.eval, Act.put]) (by simp [Act.eval, Act.put]) (hcpB _ _ _) ?_)
  go_wp2
  go_ret
  exact ⟨w.heap.size, G, rfl, HO.out, HB.out⟩
end Go.Proofs.Ytokjacbipmfjkaa
