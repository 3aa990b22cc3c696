/- What slices.Insert of one registration does to a row of the call's own, ahead of the last, with room and without. -/
import Derived.Test.YtokjacbipmfjkaaInsert
namespace Go.Proofs.Ytokjacbipmfjkaa
open Go.ChangeShapes Go.WideShapes Go.ChangeAt Go.RowKit

theorem run_overlaps_no (w : World) (a g c : Nat) (xs : Array Value) (cur : List Value) (hne : a ≠ g) (ha : w.heap[a]? = some (.cells xs 49 (0, 0))) (hg : w.heap[g]? = some (.cells cur.toArray 49 (0, 0))) (hl : cur.length ≠ 0) :
    ∀ off lb cb, (callFunc 68 #[.slice (some ⟨a, 0, Option.none⟩) 1 c, .slice (some ⟨g, off, Option.none⟩) lb cb]).run Try.prog w = .ok (.value (.bool false)) w := fun off lb cb => by
  rw [run_callFunc_extern Try.func68 (by kernel_rfl) (by kernel_rfl) (by kernel_rfl) (e := Extern.SlicesOverlaps.overlaps #[22, 22] #[4]) (by kernel_rfl),
    Lib.run_overlaps_apart w 22 4 49 Try.underlying22 2 Try.sizeOf49 ⟨a, 0, Option.none⟩ ⟨g, off, Option.none⟩ 1 c lb cb hne 49 49 xs.size cur.length (by simp [World.shape?, ha]) (by simp [World.shape?, hg]) hl (by simp [World.frozen?, ha]) (by simp [World.frozen?, ha])]
  rfl

/-- What two copies make of a row: all from place i on moved up by one, and one put there. -/
theorem splice2 (l : List (Int × Int)) (i : Nat) (x k : Int) (cur : List Value) (cap : Nat) (hi : i < l.length) (hroom : l.length + 1 ≤ cap) (hs : cur.length = cap * 2) (ht : cur.take (l.length * 2) = flat l) (r1 r2 : List Value)
    (h1 : r1 = cur.take ((i + 1) * 2) ++ flat (l.drop i) ++ cur.drop ((i + 1) * 2 + (flat (l.drop i)).length))
    (h2 : r2 = r1.take (i * 2) ++ [.int .i64 x, .int .i64 k] ++ r1.drop (i * 2 + [Value.int .i64 x, .int .i64 k].length)) :
    r1.length = cap * 2 ∧ r2.length = cap * 2 ∧ r2.take ((put l i (x, k)).length * 2) = flat (put l i (x, k)) := by
  have hfl : (flat (l.drop i)).length = (l.length - i) * 2 := by rw [flat_length, List.length_drop]
  have l1 : r1.length = cap * 2 := by rw [h1]; simp [hfl]; omega
  have l2 : r2.length = cap * 2 := by rw [h2]; simp; omega
  refine ⟨l1, l2, ?_⟩
  have e1 : r1.take (i * 2) = flat (l.take i) := by
    rw [h1, List.append_assoc, List.take_append_of_le_length (by simp; omega), List.take_take, Nat.min_eq_left (by omega), flat_take, ← ht, List.take_take, Nat.min_eq_left (by omega)]
  have e2 : r1.drop (i * 2 + 2) = flat (l.drop i) ++ cur.drop ((i + 1) * 2 + (flat (l.drop i)).length) := by
    rw [h1, List.append_assoc, List.drop_append_of_le_length (by simp; omega), List.drop_of_length_le (by simp; omega), List.nil_append]
  have e3 : r2 = flat (put l i (x, k)) ++ cur.drop ((i + 1) * 2 + (flat (l.drop i)).length) := by
    rw [h2, e1, show [Value.int .i64 x, .int .i64 k].length = 2 from rfl, e2, put, flat_append]; simp [flat]
  rw [e3, List.take_append_of_le_length (by rw [flat_length]; exact Nat.le_refl _), List.take_of_length_le (by rw [flat_length]; exact Nat.le_refl _)]

set_option maxHeartbeats 4000000 in
set_option maxRecDepth 100000 in
/-- Ahead of the last, with room. -/
theorem ins_room (a c g cap i : Nat) (base : Nat) (l : List (Int × Int)) (x k : Int) (w : World) (ho : Own w base g cap l) (hi : i < l.length) (hroom : l.length + 1 ≤ cap) (hn : l.length ≤ 1000000) (hag : a ≠ g) (ha : w.heap[a]? = some (.cells #[.int .i64 x, .int .i64 k] 49 (0, 0))) :
    Calls Try.prog 62 #[.slice (some ⟨g, 0, Option.none⟩) l.length cap, .int .i64 (i : Int), .slice (some ⟨a, 0, Option.none⟩) 1 c] w fun e w' =>
      ∃ g' cap', e = .returned (.slice (some ⟨g', 0, Option.none⟩) (l.length + 1) cap') ∧ Own w' base g' cap' (put l i (x, k)) ∧ Below base w w' := by
  obtain ⟨hbg, hncap, hcap, cur, hg, hs, ht⟩ := ho
  have hov := run_overlaps_no w a g c _ cur hag ha hg (by omega)
  have hcpos : ∀ p, w.drew.cell? ⟨g, p, Option.none⟩ = cur[p]? := fun p => by show w.cell? ⟨g, p, Option.none⟩ = _; simp [World.cell?, hg]
  have hfl : (flat (l.drop i)).length = (l.length - i) * 2 := by rw [flat_length, List.length_drop]
  have hsrc : ∀ j v, (flat (l.drop i))[j]? = some v → w.drew.cell? ((⟨g, i * 2, Option.none⟩ : Addr).add j) = some v := by
    intro j v hj
    rw [Addr.add_lit, hcpos]
    rw [flat_drop, List.getElem?_drop, ← ht, List.getElem?_take] at hj
    split at hj
    · exact hj
    · cases hj
  obtain ⟨r1, hr1⟩ : ∃ r1, r1 = cur.take ((i + 1) * 2) ++ flat (l.drop i) ++ cur.drop ((i + 1) * 2 + (flat (l.drop i)).length) := ⟨_, rfl⟩
  have hcp1 : ∀ ty dc sc, (Builtin.copy_ #[22, 22] ty #[.slice (some ⟨g, (i + 1) * 2, Option.none⟩) (l.length - i) dc, .slice (some ⟨g, i * 2, Option.none⟩) (l.length + 1 - i) sc]).run Try.prog w.drew = .ok (goInt (Nat.min (l.length + 1 - i) (l.length - i))) (w.drew.setRow g r1.toArray) := fun ty dc sc => by
    rw [hr1]
    exact run_copy_own w.drew g ((i + 1) * 2) (l.length - i) dc ⟨g, i * 2, Option.none⟩ (l.length + 1 - i) sc cur _ ty hg (by rw [hfl]; congr 1; exact (Nat.min_eq_right (by omega)).symm) hsrc (by rw [hfl]; omega) (flat_one _)
  obtain ⟨r2, hr2⟩ : ∃ r2, r2 = r1.take (i * 2) ++ [.int .i64 x, .int .i64 k] ++ r1.drop (i * 2 + [Value.int .i64 x, .int .i64 k].length) := ⟨_, rfl⟩
  obtain ⟨hl1, hl2, ht2⟩ := splice2 l i x k cur cap hi hroom hs ht r1 r2 hr1 hr2
  have hg1 : (w.drew.setRow g r1.toArray).heap[g]? = some (.cells r1.toArray 49 (0, 0)) := setRow_heap w.drew g _ _ _ _ hg
  have hsrc2 : ∀ j v, [Value.int .i64 x, .int .i64 k][j]? = some v → (w.drew.setRow g r1.toArray).cell? ((⟨a, 0, Option.none⟩ : Addr).add j) = some v := by
    have hh : (w.drew.setRow g r1.toArray).heap[a]? = some (.cells #[.int .i64 x, .int .i64 k] 49 (0, 0)) := by rw [setRow_other _ _ _ _ hag]; exact ha
    exact one_news (by simp [World.cell?, hh]) (by simp [World.cell?, hh])
  have hcp2 : ∀ ty dc, (Builtin.copy_ #[22, 22] ty #[.slice (some ⟨g, i * 2, Option.none⟩) (l.length + 1 - i) dc, .slice (some ⟨a, 0, Option.none⟩) 1 c]).run Try.prog (w.drew.setRow g r1.toArray) = .ok (goInt (Nat.min 1 (l.length + 1 - i))) ((w.drew.setRow g r1.toArray).setRow g r2.toArray) := fun ty dc => by
    rw [hr2]
    exact run_copy_own _ g (i * 2) (l.length + 1 - i) dc ⟨a, 0, Option.none⟩ 1 c r1 _ ty hg1 (by show 2 = Nat.min 1 (l.length + 1 - i) * 2; have : Nat.min 1 (l.length + 1 - i) = 1 := Nat.min_eq_left (by omega); rw [this]) hsrc2 (by simp; omega) (one_one x k)
  have HO : Hid (Own ((w.drew.setRow g r1.toArray).setRow g r2.toArray) base g cap (put l i (x, k))) := ⟨hbg, by rw [put_length _ _ _ (by omega)]; omega, hcap, r2, setRow_heap _ g _ _ _ _ hg1, hl2, ht2⟩
  have HB : Hid (Below base w ((w.drew.setRow g r1.toArray).setRow g r2.toArray)) := ⟨rfl, rfl, rfl, by simp, fun kk hkk => by rw [setRow_other _ _ _ _ (by omega), setRow_other _ _ _ _ (by omega)]; rfl⟩
  clear ha hg ht hs hcpos hfl hsrc hr1 hr2 hl1 hl2 ht2 hg1 hsrc2
  generalize hl : l.length = n at *
  have HL : Hid (l.length = n) := hl
  clear hl
  have hz2 : ((i : Int) == (n : Int)) = false := beq_eq_false_iff_ne.2 (by omega)
  have hb2 : ¬ (cap = i + 1) := by omega
  have hb4 : ¬ (cap = i) := by omega
  have hgt : decide ((cap : Int) < (n : Int) + 1) = false := by simp; omega
  have hw1 : IntKind.i64.wrap ((i : Int) + 1) = (i : Int) + 1 := by rw [IntKind.wrap_i64]; omega
  have hb1 : (0 : Int) ≤ (i : Int) + 1 := by omega
  have hin : i ≤ n := by omega
  have htn : ((i : Int) + 1).toNat = i + 1 := by omega
  have hb3 : (i : Int) ≤ (n : Int) + 1 := by omega
  have hb5 : (i : Int) + 1 ≤ (n : Int) + 1 := by omega
  go_enter Try.func62, Try.ntmps62
  go_wp2_with (simp only [hov])
  go_region_law (refine step_copy_run rfl _ _ 22 22 rfl _ _ (by simp [Act.eval, Act.put]) (by simp [Act.eval, Act.put]) (hcp1 _ _ _) ?_)
  go_wp2_with (at_builtin; refine wpList_copy_run _ rfl _ _ 22 22 rfl _ _ rfl rfl (hcp2 _ _) ?_)
  go_ret
  exact ⟨g, cap, rfl, HO.out, HB.out⟩
end Go.Proofs.Ytokjacbipmfjkaa
