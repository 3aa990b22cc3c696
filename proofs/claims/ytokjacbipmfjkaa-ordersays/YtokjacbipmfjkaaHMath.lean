/- Plain facts on lists of registrations that rise: both ways of putting somebody in come to the same; and what is known of keys behind it. -/
import Derived.Test.YtokjacbipmfjkaaRWith
namespace Go.Proofs.Ytokjacbipmfjkaa
open Go.RowKit

theorem rf_gt : ∀ (l : List (Int × Int)) (p : Int), rf p l = 0 → ∀ r ∈ l, p < r.1
  | [], _, _, r, hr => by cases hr
  | q :: l, p, h, r, hr => by
    unfold rf at h
    split at h
    · omega
    · split at h
      · omega
      · rcases List.mem_cons.1 hr with rfl | hr
        · omega
        · have := rf_gt l _ h r hr; omega
theorem rf_tail {q : Int × Int} {l : List (Int × Int)} {p : Int} (h : rf p (q :: l) = 0) : rf q.1 l = 0 ∧ p < q.1 ∧ 1 ≤ q.1 ∧ q.1 ≤ 4 ∧ 1 ≤ q.2 ∧ q.2 ≤ 999 := by
  unfold rf at h
  split at h
  · omega
  · split at h
    · omega
    · exact ⟨h, by omega⟩

theorem rw_true (who key : Int) : ∀ (l acc : List (Int × Int)), l.foldl (rwStep who key) (acc, true) = (acc ++ kept who l, true)
  | [], acc => by simp [kept]
  | r :: l, acc => by
    rw [List.foldl_cons]
    by_cases h : r.1 = who
    · rw [show rwStep who key (acc, true) r = (acc, true) by simp [rwStep, h], rw_true who key l acc]
      simp [kept, h]
    · rw [show rwStep who key (acc, true) r = (acc ++ [r], true) by simp [rwStep, h], rw_true who key l _]
      simp [kept, h]

/-- Who stands ahead, and who doesn't. -/
def lo (who : Int) (l : List (Int × Int)) : List (Int × Int) := l.takeWhile fun r => decide (r.1 < who)
def hi (who : Int) (l : List (Int × Int)) : List (Int × Int) := l.dropWhile fun r => decide (r.1 < who)

theorem rw_false (who key : Int) : ∀ (l acc : List (Int × Int)), l.foldl (rwStep who key) (acc, false) = if hi who l = [] then (acc ++ l, false) else (acc ++ lo who l ++ [(who, key)] ++ kept who (hi who l), true)
  | [], acc => by simp [hi]
  | r :: l, acc => by
    rw [List.foldl_cons]
    by_cases h : r.1 < who
    · have hne : r.1 ≠ who := by omega
      have hnle : ¬ who ≤ r.1 := by omega
      rw [show rwStep who key (acc, false) r = (acc ++ [r], false) by simp [rwStep, hne, hnle], rw_false who key l _]
      have e1 : hi who (r :: l) = hi who l := by simp [hi, h]
      have e2 : lo who (r :: l) = r :: lo who l := by simp [lo, h]
      rw [e1, e2]
      simp
    · have hle : who ≤ r.1 := by omega
      have e1 : hi who (r :: l) = r :: l := by simp [hi, h]
      have e2 : lo who (r :: l) = [] := by simp [lo, h]
      rw [e1, e2, if_neg (by simp)]
      by_cases he : r.1 = who
      · rw [show rwStep who key (acc, false) r = (acc ++ [(who, key)], true) by simp [rwStep, he], rw_true]
        simp [kept, he]
      · rw [show rwStep who key (acc, false) r = (acc ++ [(who, key)] ++ [r], true) by simp [rwStep, he, hle], rw_true]
        simp [kept, he]

theorem rwith_eq (l : List (Int × Int)) (who key : Int) : rwith l who key = if key = 0 then kept who l else lo who l ++ (who, key) :: kept who (hi who l) := by
  unfold rwith rwTo
  rw [List.take_length]
  by_cases hk : key = 0
  · subst hk
    rw [show ((0 : Int) == 0) = true from rfl, rw_true]
    simp
  · rw [show (key == 0) = false by simpa using hk, rw_false, if_neg hk]
    split
    · rename_i h
      have : lo who l = l := by
        have := List.takeWhile_append_dropWhile (p := fun r : Int × Int => decide (r.1 < who)) (l := l)
        rw [show l.dropWhile (fun r => decide (r.1 < who)) = [] from h, List.append_nil] at this
        exact this
      simp [h, this, kept]
    · simp

theorem hi_ge : ∀ (l : List (Int × Int)) (p who : Int), rf p l = 0 → ∀ r ∈ hi who l, who ≤ r.1
  | [], _, _, _, r, hr => by cases hr
  | q :: l, p, who, h, r, hr => by
    obtain ⟨h1, _⟩ := rf_tail h
    by_cases hq : q.1 < who
    · rw [show hi who (q :: l) = hi who l by simp [hi, hq]] at hr
      exact hi_ge l _ who h1 r hr
    · rw [show hi who (q :: l) = q :: l by simp [hi, hq]] at hr
      rcases List.mem_cons.1 hr with rfl | hr
      · omega
      · have := rf_gt l _ h1 r hr; omega

theorem kept_split (who : Int) (l : List (Int × Int)) : kept who l = lo who l ++ kept who (hi who l) := by
  have e := List.takeWhile_append_dropWhile (p := fun r : Int × Int => decide (r.1 < who)) (l := l)
  have h1 : kept who (lo who l) = lo who l := by
    refine List.filter_eq_self.2 fun r hr => ?_
    have := (List.all_takeWhile (p := fun r : Int × Int => decide (r.1 < who)) (l := l))
    have := List.all_eq_true.1 this r hr
    simp at this ⊢
    omega
  rw [show kept who l = kept who (lo who l ++ hi who l) by rw [lo, hi, e], kept, List.filter_append]
  rw [show (lo who l).filter (fun r => r.1 != who) = lo who l from h1]
  rfl

theorem withL_eq {l : List (Int × Int)} {p : Int} (h : rf p l = 0) (who key : Int) : withL l who key = rwith l who key := by
  rw [rwith_eq]
  unfold withL
  split
  · rfl
  · have hk := kept_split who l
    have hpl : pl (kept who l) who = (lo who l).length := by
      rw [hk]
      refine pl_eq _ _ _ (by simp) (fun j hj hjk => ?_) (fun hlt => ?_)
      · rw [List.getElem_append_left hjk]
        have := List.all_eq_true.1 (List.all_takeWhile (p := fun r : Int × Int => decide (r.1 < who)) (l := l)) _ (List.getElem_mem hjk)
        simpa using this
      · rw [List.getElem_append_right (Nat.le_refl _)]
        have hm := List.getElem_mem (l := kept who (hi who l)) (n := (lo who l).length - (lo who l).length) (by simp at hlt ⊢; omega)
        have := hi_ge l p who h _ ((List.mem_filter.1 hm).1)
        omega
    rw [hpl, put, hk, List.take_left, List.drop_left]

theorem holds_same {g t h : Int} {l : List (Int × Int)} (hf : fault g t h l = 0) (who : Int) : holdsB t h l who = rholdsB t h l who := by
  obtain ⟨h1, h2⟩ := fault_rf hf
  have hk := key_nonneg h1 who
  have e : (keyOf l who != 0) = decide (0 < keyOf l who) := by
    by_cases h0 : keyOf l who = 0
    · simp [h0]
    · have : 0 < keyOf l who := by omega
      simp [h0, this]
  rcases tf_type h2 with rfl | rfl | rfl | rfl | rfl | rfl | rfl <;> simp [holdsB, rholdsB, allB, e]
end Go.Proofs.Ytokjacbipmfjkaa
