/- That the disk and the document's disk have the same behind each act, in plain terms. No statement of the seat is proved here. -/
import Derived.Test.YthncccgndjcakaaDRef4
import Derived.Test.YthncccgndjcakaaDSpin
namespace Go.Proofs.Ythncccgndjcakaa
open Go.ChangeShapes Go.WideShapes Go.ChangeAt Go.RowKit Go.Deep

/-- What of the first i writes that wait is kept at one place. -/
def docN (keep : Int) (s : Sec) (l : List (Nat × Sec)) (a : Nat) : Nat → Sec
  | 0 => s
  | i + 1 => if bitB keep (i % 64) = true ∧ (l.getD i (0, [])).1 = a then (l.getD i (0, [])).2 else docN keep s l a i
theorem docN_app (keep : Int) (s : Sec) (l : List (Nat × Sec)) (x : Nat × Sec) (a : Nat) : ∀ i, i ≤ l.length → docN keep s (l ++ [x]) a i = docN keep s l a i
  | 0, _ => rfl
  | i + 1, h => by
    have e : (l ++ [x]).getD i (0, []) = l.getD i (0, []) := by
      simp only [List.getD]
      rw [List.getElem?_append_left (by omega)]
    unfold docN
    rw [e, docN_app keep s l x a i (by omega)]
theorem keptN_get (keep : Int) (K : List Sec) (l : List (Nat × Sec)) (a : Nat) (ha : a < K.length) : ∀ i, (keptN keep K l i).getD a [] = docN keep (K.getD a []) l a i
  | 0 => rfl
  | i + 1 => by
    have ih := keptN_get keep K l a ha i
    have hl : a < (keptN keep K l i).length := by rw [keptN_len]; exact ha
    unfold keptN docN
    by_cases hb : bitB keep (i % 64) = true
    · rw [if_pos hb]
      by_cases e : (l.getD i (0, [])).1 = a
      · rw [if_pos ⟨hb, e⟩, ← e]
        simp only [List.getD] at e hl ⊢
        rw [List.getElem?_set_self (by rw [e]; exact hl)]; rfl
      · rw [if_neg (fun h => e h.2), ← ih]
        simp only [List.getD] at e ⊢
        rw [List.getElem?_set_ne e]
    · rw [if_neg hb, if_neg (fun h => hb h.1), ih]
theorem resS_keptW (keep : Int) (bit : Nat) (hb : bitB keep bit = false) : ∀ (l : List Wr) (s : Sec), resS keep s (keptW bit l) = resS keep s l
  | [], _ => rfl
  | x :: l, s => by
    have ih := resS_keptW keep bit hb l
    by_cases e : x.bit = bit
    · have h1 : keptW bit (x :: l) = keptW bit l := by unfold keptW; rw [List.filter_cons_of_neg]; simp [e]
      rw [h1, ih]
      show _ = resS keep (if bitB keep x.bit = true then x.data else s) l
      rw [e, hb]; rfl
    · have h1 : keptW bit (x :: l) = x :: keptW bit l := by unfold keptW; rw [List.filter_cons_of_pos]; simpa using e
      rw [h1]
      show resS keep (if bitB keep x.bit = true then x.data else s) (keptW bit l) = resS keep (if bitB keep x.bit = true then x.data else s) l
      rw [ih]
/-- They have the same. -/
structure Rel (n : Nat) (D : DM) (R : RM) : Prop where
  kept : R.kept = D.kept
  now : R.now = D.now
  down : R.down = D.down
  fuse : D.down = false → D.armed = decide (0 ≤ R.fuse) ∧ (0 ≤ R.fuse → D.left = R.fuse)
  next : D.next = R.wait.length % 64
  since : ∀ keep s a, a < n → resS keep s (D.since.getD a []) = docN keep s R.wait a R.wait.length
theorem Rel.first (n : Nat) : Rel n (newD n) (rnewR n) := by
  refine ⟨rfl, rfl, rfl, fun _ => ⟨rfl, fun h => absurd h (by show ¬ ((0 : Int) ≤ -1); omega)⟩, rfl, fun keep s a ha => ?_⟩
  have e : (newD n).since.getD a [] = [] := by simp [newD, List.getD, ha]
  rw [e]; rfl
section
variable {n : Nat} {D : DM} {R : RM}
theorem Rel.stepF (h : Rel n D R) : rstepF R = stepF D := by
  unfold rstepF Proofs.Ythncccgndjcakaa.stepF stepB
  rw [h.down]
  cases hd : D.down
  · obtain ⟨h1, h2⟩ := h.fuse hd
    rw [h1]
    by_cases h0 : R.fuse = 0
    · have := h2 (by omega)
      simp [h0, this]
    · by_cases hp : 0 ≤ R.fuse
      · have := h2 hp
        simp [h0, this]
      · simp [h0, hp]
  · simp
theorem Rel.stepB (h : Rel n D R) : stepB D = true ↔ rstepF R = 10 := by
  rw [h.stepF]; unfold Proofs.Ythncccgndjcakaa.stepF
  constructor
  · intro e; rw [if_pos e]
  · intro e
    by_cases hb : Proofs.Ythncccgndjcakaa.stepB D = true
    · exact hb
    · rw [if_neg hb] at e; omega
theorem Rel.step (h : Rel n D R) (hk : R.OK n) : Rel n (stepD D) (rstepR R) := by
  have w := rstepR_same R
  have hdn : (rstepR R).down = (stepD D).down ∧ ((stepD D).down = false → (stepD D).armed = decide (0 ≤ (rstepR R).fuse) ∧ (0 ≤ (rstepR R).fuse → (stepD D).left = (rstepR R).fuse)) := by
    unfold rstepR stepD
    rw [h.down]
    cases hd : D.down
    · obtain ⟨h1, h2⟩ := h.fuse hd
      rw [h1]
      have hlo := hk.flo
      by_cases h0 : R.fuse = 0
      · have := h2 (by omega)
        simp [h0, this]
      · by_cases hp : 0 < R.fuse
        · have e := h2 (by omega)
          have hp' : 0 ≤ R.fuse := by omega
          have h3 : (R.fuse == 0) = false := by simpa using h0
          simp [h0, hp, hp', e]
          omega
        · have hp' : ¬ (0 ≤ R.fuse) := by omega
          simp [h0, hp, hp', hd, h.down]
          rw [h1]; simp; omega
    · cases ha : (D.armed && D.left == 0)
      · simp [h.down, hd]
      · simp [h.down, hd]
  refine ⟨?_, ?_, hdn.1, hdn.2, ?_, ?_⟩
  · rw [w.1, stepD_kept]; exact h.kept
  · rw [w.2.1, stepD_now]; exact h.now
  · rw [w.2.2, stepD_next]; exact h.next
  · rw [w.2.2, stepD_since]; exact h.since
theorem Rel.put (h : Rel n D R) (ok : D.OK n) (k : Nat) (hk : k < n) (s : Sec) : Rel n (putD D k s) (rputR R k s) := by
  refine ⟨h.kept, ?_, h.down, h.fuse, ?_, fun keep z a ha => ?_⟩
  · show R.now.set k (padS s) = D.now.set k (padS s)
    rw [h.now]
  · show (D.next + 1) % 64 = (R.wait ++ [(k, padS s)]).length % 64
    rw [h.next]; simp
  · show resS keep z ((D.since.set k (keptW D.next (D.since.getD k []) ++ [⟨D.next, padS s⟩])).getD a []) = docN keep z (R.wait ++ [(k, padS s)]) a (R.wait ++ [(k, padS s)]).length
    have e1 : (R.wait ++ [(k, padS s)]).length = R.wait.length + 1 := by simp
    have e2 : (R.wait ++ [(k, padS s)]).getD R.wait.length (0, []) = (k, padS s) := by simp [List.getD]
    rw [e1]
    unfold docN
    rw [e2, docN_app keep z R.wait _ a _ (Nat.le_refl _), ← h.next]
    by_cases e : k = a
    · subst e
      have hks : k < D.since.length := by rw [ok.s]; exact hk
      have e3 : (D.since.set k (keptW D.next (D.since.getD k []) ++ [⟨D.next, padS s⟩])).getD k [] = keptW D.next (D.since.getD k []) ++ [⟨D.next, padS s⟩] := by
        simp only [List.getD]
        rw [List.getElem?_set_self hks]; rfl
      rw [e3, resS_snoc]
      by_cases hb : bitB keep D.next = true
      · rw [if_pos hb, if_pos ⟨hb, rfl⟩]
      · rw [if_neg hb, if_neg (fun q => hb q.1), resS_keptW keep _ (by simpa using hb)]
        exact h.since keep z k hk
    · rw [if_neg (fun q => e q.2)]
      have e3 : (D.since.set k (keptW D.next (D.since.getD k []) ++ [⟨D.next, padS s⟩])).getD a [] = D.since.getD a [] := by
        simp only [List.getD]
        rw [List.getElem?_set_ne e]
      rw [e3]
      exact h.since keep z a ha
theorem Rel.writeF (h : Rel n D R) (at' : Int) (s : Sec) : rwriteF R n at' s = writeF D n at' s := by
  unfold rwriteF Proofs.Ythncccgndjcakaa.writeF; rw [h.stepF]
theorem Rel.write (h : Rel n D R) (ok : D.OK n) (hk : R.OK n) (at' : Int) (s : Sec) : Rel n (writeD D n at' s) (rwriteR R n at' s) := by
  unfold writeD rwriteR
  by_cases hb : hasD n at' = true ∧ s.length ≤ 64
  · rw [if_pos hb, if_pos hb]
    by_cases hs : Proofs.Ythncccgndjcakaa.stepB D = true
    · have := h.stepB.1 hs
      rw [if_pos hs, if_neg (by rw [this]; decide)]
      exact h.step hk
    · have h0 : rstepF R = 0 := (rstepF_or R).resolve_left (fun e => hs (h.stepB.2 e))
      rw [if_neg hs, if_pos h0]
      have hat : at'.toNat < n := by have := hb.1; simp [hasD] at this; omega
      exact (h.step hk).put (stepD_ok ok) _ hat s
  · rw [if_neg hb, if_neg hb]; exact h
theorem Rel.flush (h : Rel n D R) (hk : R.OK n) : Rel n (flushD D n) (rflushR R) := by
  unfold flushD rflushR
  have h1 := h.step hk
  by_cases hs : Proofs.Ythncccgndjcakaa.stepB D = true
  · have := h.stepB.1 hs
    rw [if_pos hs, if_neg (by rw [this]; decide)]
    exact h1
  · have h0 : rstepF R = 0 := (rstepF_or R).resolve_left (fun e => hs (h.stepB.2 e))
    rw [if_neg hs, if_pos h0]
    refine ⟨h1.now, h1.now, h1.down, h1.fuse, rfl, fun keep s a ha => ?_⟩
    have e : (List.replicate n ([] : List Wr)).getD a [] = [] := by simp [List.getD, ha]
    show resS keep s ((List.replicate n ([] : List Wr)).getD a []) = s
    rw [e]; rfl
theorem Rel.arm (h : Rel n D R) (m : Int) (r : Int) (hr : r = max m (-1)) : Rel n (armD D m) { R with fuse := r } := by
  refine ⟨h.kept, h.now, h.down, fun _ => ⟨?_, fun h0 => ?_⟩, h.next, h.since⟩
  · show decide (0 ≤ m) = decide (0 ≤ r)
    rw [decide_eq_decide]; omega
  · show m = r
    have h0 : 0 ≤ r := h0
    omega
theorem Rel.restart (h : Rel n D R) (ok : D.OK n) (hk : R.OK n) (keep : Int) : Rel n (resD D n keep) (rresR R keep) := by
  have e : keptN keep R.kept R.wait R.wait.length = D.kept.zipWith (resS keep) D.since := by
    refine List.ext_getElem? fun i => ?_
    by_cases hi : i < n
    · have h1 : i < (keptN keep R.kept R.wait R.wait.length).length := by rw [keptN_len, hk.kl]; exact hi
      have h2 : i < D.kept.length := by rw [ok.k]; exact hi
      have h3 : i < D.since.length := by rw [ok.s]; exact hi
      have h4 := keptN_get keep R.kept R.wait i (by rw [hk.kl]; exact hi) R.wait.length
      rw [← h.since keep _ i hi, h.kept] at h4
      rw [h.kept] at h1
      rw [h.kept, List.getElem?_eq_getElem h1]
      simp only [List.getD, List.getElem?_eq_getElem h1, List.getElem?_eq_getElem h2, List.getElem?_eq_getElem h3, Option.getD_some] at h4
      rw [h4]
      simp [List.getElem?_zipWith, h2, h3]
    · rw [List.getElem?_eq_none (by rw [keptN_len, hk.kl]; omega), List.getElem?_eq_none (by simp [ok.k, ok.s]; omega)]
  refine ⟨e, e, rfl, fun _ => ⟨rfl, fun h0 => absurd h0 (by show ¬ ((0 : Int) ≤ -1); omega)⟩, rfl, fun keep s a ha => ?_⟩
  have e : (List.replicate n ([] : List Wr)).getD a [] = [] := by simp [List.getD, ha]
  show resS keep s ((List.replicate n ([] : List Wr)).getD a []) = s
  rw [e]; rfl
theorem Rel.readF (h : Rel n D R) (at' : Int) : rreadF R n at' = readF D n at' := by
  unfold rreadF Proofs.Ythncccgndjcakaa.readF; rw [h.down]
theorem Rel.readS (h : Rel n D R) (at' : Int) : rreadS R n at' = readS D n at' := by
  unfold rreadS Proofs.Ythncccgndjcakaa.readS; rw [h.readF, h.now]
end
end Go.Proofs.Ythncccgndjcakaa
