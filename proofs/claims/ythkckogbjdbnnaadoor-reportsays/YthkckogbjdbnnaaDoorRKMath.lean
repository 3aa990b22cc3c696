/- Plain facts: keys that are sorted and told once each are those of 1 to 999 that somebody has, rising. No statement of the seat is proved here. -/
import Derived.Lib.SlicesCompact
import Derived.Lib.RowBridge
namespace Go.Proofs.YthkckogbjdbnnaaDoor
open Go.Lib

/-- Keys, sorted, each once. -/
def keysL (l : List (Int × Int)) : List Int := Lib.compact ((l.map (·.2)).mergeSort fun x y => decide (x ≤ y))
/-- Those of 1 to k - 1 that somebody has. -/
def hasK (l : List (Int × Int)) (n : Int) : Bool := l.any fun r => r.2 == n
def keysT (l : List (Int × Int)) (k : Nat) : List Int := ((List.range k).filter fun (i : Nat) => hasK l ((i : Int) + 1)).map fun (i : Nat) => (i : Int) + 1
theorem keysT_next (l : List (Int × Int)) (k : Nat) : keysT l (k + 1) = keysT l k ++ if hasK l ((k : Int) + 1) = true then [(k : Int) + 1] else [] := by
  unfold keysT
  rw [List.range_succ, List.filter_append, List.map_append]
  congr 1
  by_cases h : hasK l ((k : Int) + 1) = true <;> simp [h]
theorem keysT_len (l : List (Int × Int)) (k : Nat) : (keysT l k).length ≤ k := by
  unfold keysT
  rw [List.length_map]
  exact Nat.le_trans (List.length_filter_le _ _) (by simp)

theorem rise_eq : ∀ (a b : List Int), a.Pairwise (· < ·) → b.Pairwise (· < ·) → (∀ x, x ∈ a ↔ x ∈ b) → a = b
  | [], [], _, _, _ => rfl
  | [], y :: b, _, _, h => by have := (h y).2 List.mem_cons_self; cases this
  | x :: a, [], _, _, h => by have := (h x).1 List.mem_cons_self; cases this
  | x :: a, y :: b, ha, hb, h => by
    have ha' := List.pairwise_cons.1 ha
    have hb' := List.pairwise_cons.1 hb
    have hxy : x = y := by
      rcases List.mem_cons.1 ((h x).1 List.mem_cons_self) with e | hx
      · exact e
      · rcases List.mem_cons.1 ((h y).2 List.mem_cons_self) with e | hy
        · exact e.symm
        · have := hb'.1 x hx
          have := ha'.1 y hy
          omega
    subst hxy
    congr 1
    refine rise_eq a b ha'.2 hb'.2 fun z => ⟨fun hz => ?_, fun hz => ?_⟩
    · rcases List.mem_cons.1 ((h z).1 (List.mem_cons_of_mem _ hz)) with e | h1
      · subst e; have := ha'.1 z hz; omega
      · exact h1
    · rcases List.mem_cons.1 ((h z).2 (List.mem_cons_of_mem _ hz)) with e | h1
      · subst e; have := hb'.1 z hz; omega
      · exact h1

theorem keeps_at (zs : List Int) (j : Nat) (hj : j < zs.length) : keeps zs.toArray j = true ↔ j = 0 ∨ ∃ h : 0 < j, zs[j] ≠ zs[j - 1] := by
  unfold keeps
  by_cases h0 : j = 0
  · subst h0; simp
  · have e1 : zs.toArray[j]! = zs[j] := by simp [hj]
    have e2 : zs.toArray[j - 1]! = zs[j - 1] := by simp [show j - 1 < zs.length by omega]
    simp only [h0, false_or]
    constructor
    · intro h; exact ⟨by omega, by simpa [e1, e2] using h⟩
    · rintro ⟨_, h⟩; simpa [e1, e2] using h
theorem mem_compact (zs : List Int) (x : Int) : x ∈ Lib.compact zs ↔ x ∈ zs := by
  unfold Lib.compact compactUpTo
  rw [List.mem_map]
  constructor
  · rintro ⟨j, hj, rfl⟩
    have hj' := (List.mem_filter.1 hj).1
    have hlt : j < zs.length := by simpa using hj'
    have : zs.toArray[j]! = zs[j] := by simp [hlt]
    rw [this]; exact List.getElem_mem hlt
  · intro hx
    obtain ⟨j, hj, rfl⟩ := List.mem_iff_getElem.1 hx
    clear hx
    induction j with
    | zero => exact ⟨0, List.mem_filter.2 ⟨by simp; omega, (keeps_at zs 0 hj).2 (.inl rfl)⟩, by simp [hj]⟩
    | succ j ih =>
      by_cases hk : keeps zs.toArray (j + 1) = true
      · exact ⟨j + 1, List.mem_filter.2 ⟨by simp; omega, hk⟩, by simp [hj]⟩
      · have he : zs[j + 1] = zs[j] := by
          refine Classical.byContradiction fun hne => hk ((keeps_at zs (j + 1) hj).2 (.inr ⟨by omega, by simpa using hne⟩))
        rw [he]
        exact ih (by omega)
theorem sorted_at {zs : List Int} (hs : zs.Pairwise (· ≤ ·)) (i j : Nat) (hij : i ≤ j) (hj : j < zs.length) : zs[i] ≤ zs[j] := by
  rcases Nat.lt_or_ge i j with h | h
  · exact List.pairwise_iff_getElem.1 hs i j (by omega) hj h
  · have : i = j := by omega
    subst this; exact Int.le_refl _
theorem rise_compact {zs : List Int} (hs : zs.Pairwise (· ≤ ·)) : (Lib.compact zs).Pairwise (· < ·) := by
  unfold Lib.compact compactUpTo
  rw [List.pairwise_map]
  refine List.Pairwise.filter _ ?_ |>.imp_of_mem ?_ (R := fun i j => i < j)
  · exact List.pairwise_lt_range
  · intro i j hi hj hij
    have hj1 := List.mem_filter.1 hj
    have hlt : j < zs.length := by simpa using hj1.1
    have hk := (keeps_at zs j hlt).1 hj1.2
    rcases hk with h0 | ⟨h0, hne⟩
    · omega
    · have h1 := sorted_at hs i (j - 1) (by omega) (by omega)
      have h2 := sorted_at hs (j - 1) j (by omega) hlt
      have e1 : zs.toArray[i]! = zs[i] := by simp [show i < zs.length by omega]
      have e2 : zs.toArray[j]! = zs[j] := by simp [hlt]
      rw [e1, e2]; omega
theorem sortK (l : List Int) : (l.mergeSort fun x y => decide (x ≤ y)).Pairwise (· ≤ ·) := by
  have := List.pairwise_mergeSort (le := fun x y : Int => decide (x ≤ y)) (fun a b c => by simp; omega) (fun a b => by simp; omega) l
  exact this.imp fun h => by simpa using h
/-- The keys of those who may be known. -/
theorem keys_same {l : List (Int × Int)} (h : ∀ r ∈ l, 1 ≤ r.2 ∧ r.2 ≤ 999) : keysL l = keysT l 999 := by
  refine rise_eq _ _ (rise_compact (sortK _)) ?_ fun x => ?_
  · unfold keysT
    rw [List.pairwise_map]
    exact (List.Pairwise.filter _ List.pairwise_lt_range).imp fun h => by omega
  · unfold keysL keysT
    rw [mem_compact, List.mem_mergeSort, List.mem_map, List.mem_map]
    constructor
    · rintro ⟨r, hr, rfl⟩
      have := h r hr
      refine ⟨(r.2 - 1).toNat, List.mem_filter.2 ⟨by simp; omega, ?_⟩, by omega⟩
      unfold hasK
      rw [List.any_eq_true]
      exact ⟨r, hr, by simp; omega⟩
    · rintro ⟨i, hi, rfl⟩
      have := (List.mem_filter.1 hi).2
      unfold hasK at this
      rw [List.any_eq_true] at this
      obtain ⟨r, hr, e⟩ := this
      exact ⟨r, hr, by simpa using e⟩
theorem compact_len (zs : List Int) : (Lib.compact zs).length ≤ zs.length := Lib.compact_length_le zs
end Go.Proofs.YthkckogbjdbnnaaDoor
