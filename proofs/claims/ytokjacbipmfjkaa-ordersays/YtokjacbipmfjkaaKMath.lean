/- Plain facts on who is known behind With: by that key, all others as before; and back again. -/
import Derived.Test.YtokjacbipmfjkaaHMath
import Derived.Test.YtokjacbipmfjkaaOthers
namespace Go.Proofs.Ytokjacbipmfjkaa
open Go.RowKit

theorem keyOf_append_none : ∀ (A B : List (Int × Int)) (x : Int), (∀ r ∈ A, r.1 ≠ x) → keyOf (A ++ B) x = keyOf B x
  | [], _, _, _ => rfl
  | r :: A, B, x, h => by
    rw [List.cons_append, keyOf, if_neg (h r (by simp))]
    exact keyOf_append_none A B x (fun q hq => h q (by simp [hq]))
theorem keyOf_none : ∀ (A : List (Int × Int)) (x : Int), (∀ r ∈ A, r.1 ≠ x) → keyOf A x = 0
  | [], _, _ => rfl
  | r :: A, x, h => by
    rw [keyOf, if_neg (h r (by simp))]
    exact keyOf_none A x (fun q hq => h q (by simp [hq]))
theorem keyOf_skip : ∀ (A B : List (Int × Int)) (r : Int × Int) (x : Int), r.1 ≠ x → keyOf (A ++ r :: B) x = keyOf (A ++ B) x
  | [], B, r, x, h => by simp [keyOf, h]
  | q :: A, B, r, x, h => by
    simp only [List.cons_append, keyOf]
    rw [keyOf_skip A B r x h]
theorem keyOf_kept (who x : Int) (hx : x ≠ who) : ∀ l, keyOf (kept who l) x = keyOf l x
  | [] => rfl
  | r :: l => by
    have ih := keyOf_kept who x hx l
    unfold kept at ih ⊢
    by_cases h : r.1 = who
    · have hne : ¬ r.1 = x := by omega
      rw [List.filter_cons_of_neg (by simp [h]), ih, keyOf, if_neg hne]
    · rw [List.filter_cons_of_pos (by simpa using h), keyOf, keyOf, ih]
theorem kept_ne {who : Int} {l : List (Int × Int)} {r : Int × Int} (h : r ∈ kept who l) : r.1 ≠ who ∧ r ∈ l := by
  obtain ⟨h1, h2⟩ := List.mem_filter.1 h
  exact ⟨by simpa using h2, h1⟩

theorem withL_form {l : List (Int × Int)} {p : Int} (h : rf p l = 0) (who key : Int) : withL l who key = if key = 0 then kept who l else lo who l ++ (who, key) :: kept who (hi who l) := by
  rw [withL_eq h, rwith_eq]
theorem lo_lt (who : Int) (l : List (Int × Int)) {r : Int × Int} (h : r ∈ lo who l) : r.1 < who := by
  have := List.all_eq_true.1 (List.all_takeWhile (p := fun r : Int × Int => decide (r.1 < who)) (l := l)) r h
  simpa using this

/-- M1: who was put in is known by that key. -/
theorem with_key {l : List (Int × Int)} {p : Int} (h : rf p l = 0) (who key : Int) : keyOf (withL l who key) who = key := by
  rw [withL_form h]
  split
  · rename_i hk
    rw [hk]
    exact keyOf_none _ _ (fun r hr => (kept_ne hr).1)
  · rw [keyOf_append_none _ _ _ (fun r hr => by have := lo_lt who l hr; omega)]
    simp [keyOf]
/-- M2: all others as before. -/
theorem with_other {l : List (Int × Int)} {p : Int} (h : rf p l = 0) (who key x : Int) (hx : x ≠ who) : keyOf (withL l who key) x = keyOf l x := by
  rw [withL_form h]
  split
  · exact keyOf_kept who x hx l
  · rw [keyOf_skip _ _ _ _ (by simpa using Ne.symm hx), ← kept_split, keyOf_kept who x hx l]

theorem kept_with {l : List (Int × Int)} {p : Int} (h : rf p l = 0) (who key : Int) : kept who (withL l who key) = kept who l := by
  have hkk : kept who (kept who l) = kept who l := by unfold kept; rw [List.filter_filter]; simp
  rw [withL_form h]
  split
  · exact hkk
  · have e : kept who (lo who l ++ (who, key) :: kept who (hi who l)) = kept who (lo who l ++ kept who (hi who l)) := by unfold kept; simp [List.filter_append]
    rw [e, ← kept_split, hkk]

theorem hi_key : ∀ (l : List (Int × Int)) (p who : Int), rf p l = 0 → keyOf l who ≠ 0 → hi who l = (who, keyOf l who) :: kept who (hi who l)
  | [], _, _, _, h => absurd rfl h
  | q :: l, p, who, h, hk => by
    obtain ⟨h1, _⟩ := rf_tail h
    by_cases hq : q.1 < who
    · have hne : ¬ q.1 = who := by omega
      rw [show hi who (q :: l) = hi who l by simp [hi, hq]]
      rw [keyOf, if_neg hne] at hk ⊢
      exact hi_key l _ who h1 hk
    · rw [show hi who (q :: l) = q :: l by simp [hi, hq]]
      by_cases he : q.1 = who
      · have hrest : kept who l = l := kept_all fun j hj => by have := rf_gt l _ h1 l[j] (List.getElem_mem hj); omega
        rw [keyOf, if_pos he]
        rw [show kept who (q :: l) = kept who l by simp [kept, he], hrest]
        rw [← he]
      · rw [keyOf, if_neg he] at hk
        exact absurd (rf_below' l _ who h1 (by omega)) hk
where
  rf_below' : ∀ (l : List (Int × Int)) (p who : Int), rf p l = 0 → who ≤ p → keyOf l who = 0 := fun l p who h hw =>
    keyOf_none l who (fun r hr => by have := rf_gt l p h r hr; omega)

theorem key_absent {l : List (Int × Int)} {p who : Int} (h : rf p l = 0) (hk : keyOf l who = 0) : ∀ r ∈ l, r.1 ≠ who := by
  induction l generalizing p with
  | nil => intro r hr; cases hr
  | cons q l ih =>
    obtain ⟨h1, _, _, _, h2, _⟩ := rf_tail h
    intro r hr
    rw [keyOf] at hk
    split at hk
    · omega
    · rcases List.mem_cons.1 hr with rfl | hr
      · assumption
      · exact ih h1 hk r hr

/-- M3: and back again. -/
theorem with_back {l : List (Int × Int)} {p : Int} (h : rf p l = 0) (who key : Int) : withL (withL l who key) who (keyOf l who) = l := by
  have e : withL (withL l who key) who (keyOf l who) = withL l who (keyOf l who) := by unfold withL; rw [show kept who (if key = 0 then kept who l else put (kept who l) (pl (kept who l) who) (who, key)) = kept who l from kept_with h who key]
  rw [e, withL_form h]
  split
  · rename_i hk
    exact List.filter_eq_self.2 fun r hr => by simpa using key_absent h hk r hr
  · rename_i hk
    have := hi_key l p who h hk
    have e2 := List.takeWhile_append_dropWhile (p := fun r : Int × Int => decide (r.1 < who)) (l := l)
    rw [← this]
    exact e2
/-- M4: the others are the same. -/
theorem with_others {l : List (Int × Int)} {p : Int} (h : rf p l = 0) (who key : Int) : othersL (withL l who key) who = othersL l who := by
  unfold othersL; rw [kept_with h]

theorem key_present {l : List (Int × Int)} {p : Int} (h : rf p l = 0) {r : Int × Int} (hr : r ∈ l) : keyOf l r.1 ≠ 0 := by
  intro hk
  exact key_absent h hk r hr rfl

theorem rf_pair : ∀ (l : List (Int × Int)) (p : Int), rf p l = 0 → l.Pairwise fun a b => a.1 < b.1
  | [], _, _ => List.Pairwise.nil
  | q :: l, p, h => by
    obtain ⟨h1, _⟩ := rf_tail h
    exact List.pairwise_cons.2 ⟨fun r hr => rf_gt l _ h1 r hr, rf_pair l _ h1⟩

/-- M5: the others are known, aren't who is asked for, and rise. -/
theorem others_facts {l : List (Int × Int)} {p : Int} (h : rf p l = 0) (who : Int) (i : Nat) (hi : i < (othersL l who).length) :
    (othersL l who)[i] ≠ who ∧ keyOf l (othersL l who)[i] ≠ 0 := by
  unfold othersL at hi ⊢
  rw [List.getElem_map]
  have hm := List.getElem_mem (l := kept who l) (n := i) (by simpa using hi)
  exact ⟨(kept_ne hm).1, key_present h (kept_ne hm).2⟩
theorem others_rise {l : List (Int × Int)} {p : Int} (h : rf p l = 0) (who : Int) (i j : Nat) (hj : j < (othersL l who).length) (hij : i < j) : (othersL l who)[i] < (othersL l who)[j] := by
  have hp : (othersL l who).Pairwise (· < ·) := by
    unfold othersL kept
    rw [List.pairwise_map]
    exact (rf_pair l p h).filter _
  exact List.pairwise_iff_getElem.1 hp i j (by omega) hj hij
end Go.Proofs.Ytokjacbipmfjkaa
