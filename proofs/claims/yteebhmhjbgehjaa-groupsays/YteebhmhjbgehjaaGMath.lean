/- What is admitted twice is admitted once; in which order two are changes nothing. Plain facts. No statement of the seat is proved here. -/
import Derived.Test.YteebhmhjbgehjaaGEq
namespace Go.Proofs.Yteebhmhjbgehjaa

def adm1 (f : Int) (v c : Cel) : Cel := if c.e = f then (if newerB c v = true then c else v) else v
theorem admL_is {f : Int} {l : List Cel} {k : Nat} {c : Cel} (hk : k < l.length) : admL f l k c = l.set k (adm1 f l[k] c) := by
  unfold admL adm1
  rw [dif_pos hk]
  split
  · split
    · rfl
    · simp
  · simp
theorem admL_len {f : Int} {l : List Cel} {k : Nat} {c : Cel} : (admL f l k c).length = l.length := by
  unfold admL
  split
  · split
    · split
      · simp
      · rfl
    · rfl
  · rfl
theorem admL_get {f : Int} {l : List Cel} {k : Nat} {c : Cel} (hk : k < l.length) (hk' : k < (admL f l k c).length) : (admL f l k c)[k] = adm1 f l[k] c := by
  have e := admL_is (f := f) (c := c) hk
  simp [e]
theorem admL_two {f : Int} {l : List Cel} {k : Nat} {c o : Cel} (hk : k < l.length) : admL f (admL f l k c) k o = l.set k (adm1 f (adm1 f l[k] c) o) := by
  rw [admL_is (by rw [admL_len]; exact hk), admL_get hk, admL_is hk, List.set_set]
theorem newer_irr (c : Cel) : newerB c c = false := by simp [newerB]
theorem adm1_idem (f : Int) (v c : Cel) : adm1 f (adm1 f v c) c = adm1 f v c := by
  unfold adm1
  by_cases h : c.e = f
  · by_cases h2 : newerB c v = true
    · simp [h, h2]
    · simp [h, h2]
  · simp [h]
theorem adm1_old (f : Int) (v c : Cel) : newerB v (adm1 f v c) = false := by
  unfold adm1
  by_cases h : c.e = f
  · by_cases h2 : newerB c v = true
    · simp only [h, h2, if_true]
      unfold newerB at h2 ⊢
      by_cases h3 : c.e = v.e
      · simp [h3] at h2 ⊢; omega
      · have h3' : v.e ≠ c.e := fun e => h3 e.symm
        simp [h3] at h2; simp [h3']; omega
    · simp [h, h2, newer_irr]
  · simp [h, newer_irr]
theorem adm1_comm (f : Int) (v c o : Cel) (h : ¬ (c.e = o.e ∧ c.n = o.n)) : adm1 f (adm1 f v c) o = adm1 f (adm1 f v o) c := by
  unfold adm1
  by_cases hc : c.e = f
  · by_cases ho : o.e = f
    · have hn : c.n ≠ o.n := fun e => h ⟨hc.trans ho.symm, e⟩
      have e1 : newerB c o = decide (o.n < c.n) := by simp [newerB, hc, ho]
      have e2 : newerB o c = decide (c.n < o.n) := by simp [newerB, hc, ho]
      have e3 : newerB c v = if f ≠ v.e then decide (v.e < f) else decide (v.n < c.n) := by simp [newerB, hc]
      have e4 : newerB o v = if f ≠ v.e then decide (v.e < f) else decide (v.n < o.n) := by simp [newerB, ho]
      simp only [hc, ho, if_true]
      by_cases x1 : newerB c v = true
      · by_cases x2 : newerB o v = true
        · simp only [x1, x2, if_true, e1, e2, decide_eq_true_eq]
          by_cases x3 : c.n < o.n
          · rw [if_pos x3, if_neg (by omega)]
          · rw [if_neg x3, if_pos (by omega)]
        · simp only [x1, x2, if_true, if_false, Bool.false_eq_true, e2, decide_eq_true_eq]
          rw [if_neg]
          intro x3
          rw [e3] at x1; rw [e4] at x2
          split at x1 <;> simp_all <;> omega
      · by_cases x2 : newerB o v = true
        · simp only [x1, x2, if_true, if_false, Bool.false_eq_true, e1, decide_eq_true_eq]
          rw [if_neg]
          intro x3
          rw [e3] at x1; rw [e4] at x2
          split at x1 <;> simp_all <;> omega
        · simp only [x1, x2, if_false, Bool.false_eq_true]
    · simp [ho]
  · simp [hc]
end Go.Proofs.Yteebhmhjbgehjaa
