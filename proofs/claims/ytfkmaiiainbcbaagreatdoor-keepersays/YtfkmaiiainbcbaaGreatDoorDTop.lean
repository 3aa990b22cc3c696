/- The plain side of TopDisk: a calm disk (not armed, not down), and what of its writes is to be found again. No statement of the seat is proved here. -/
import Derived.Test.YtfkmaiiainbcbaaGreatDoorDNew
namespace Go.Proofs.YtfkmaiiainbcbaaGreatDoor.D
open Go.ChangeShapes Go.WideShapes Go.ChangeAt Go.RowKit Go.Deep

structure Calm (D : DM) : Prop where
  a : D.armed = false
  d : D.down = false
theorem Calm.stepB {D : DM} (h : Calm D) : stepB D = false := by simp [Proofs.YtfkmaiiainbcbaaGreatDoor.D.stepB, h.a, h.d]
theorem Calm.stepF {D : DM} (h : Calm D) : stepF D = 0 := by simp [Proofs.YtfkmaiiainbcbaaGreatDoor.D.stepF, h.stepB]
theorem Calm.stepD {D : DM} (h : Calm D) : stepD D = D := by simp [Proofs.YtfkmaiiainbcbaaGreatDoor.D.stepD, h.a, h.d]
theorem Calm.new (n : Nat) : Calm (newD n) := ⟨rfl, rfl⟩
theorem Calm.put {D : DM} (h : Calm D) (k : Nat) (s : List UInt8) : Calm (putD D k s) := ⟨h.a, h.d⟩
theorem Calm.writeF {D : DM} (h : Calm D) (n : Nat) (at' : Int) (s : List UInt8) : writeF D n at' s = if hasD n at' = true ∧ s.length ≤ 64 then 0 else 1 := by simp only [Proofs.YtfkmaiiainbcbaaGreatDoor.D.writeF, h.stepF]
theorem Calm.writeD {D : DM} (h : Calm D) (n : Nat) (at' : Int) (s : List UInt8) : writeD D n at' s = if hasD n at' = true ∧ s.length ≤ 64 then putD D at'.toNat s else D := by simp [Proofs.YtfkmaiiainbcbaaGreatDoor.D.writeD, h.stepB, h.stepD]
theorem Calm.write {D : DM} (h : Calm D) (n : Nat) (at' : Int) (s : List UInt8) : Calm (Proofs.YtfkmaiiainbcbaaGreatDoor.D.writeD D n at' s) := by
  rw [h.writeD]; split
  · exact h.put _ _
  · exact h
theorem Calm.flush {D : DM} (h : Calm D) (n : Nat) : flushD D n = setD { D with kept := D.now } n := by simp [flushD, h.stepB, h.stepD]
theorem Calm.flushed {D : DM} (h : Calm D) (n : Nat) : Calm (flushD D n) := by rw [h.flush]; exact ⟨h.a, h.d⟩
theorem Calm.readF {D : DM} (h : Calm D) (n : Nat) (at' : Int) : readF D n at' = if hasD n at' = true then 0 else 1 := by simp [Proofs.YtfkmaiiainbcbaaGreatDoor.D.readF, h.d]
theorem Calm.readS {D : DM} (h : Calm D) {n k : Nat} (hk : k < n) : readS D n k = ⟨(D.now.getD k []).toArray⟩ := by
  have : Proofs.YtfkmaiiainbcbaaGreatDoor.D.readF D n k = 0 := by rw [h.readF, if_pos]; simp [hasD, hk]
  simp [Proofs.YtfkmaiiainbcbaaGreatDoor.D.readS, this]
/-- What the law wants to find again, of m writes that were taken. -/
structure Wants (keep : Int) (n m : Nat) (D : DM) (want : List Sec) : Prop where
  calm : Calm D
  next : D.next = m
  bit : ∀ l ∈ D.since, ∀ x ∈ l, x.bit < m
  eq : want = D.kept.zipWith (resS keep) D.since
theorem zip_nil (keep : Int) : ∀ (l : List Sec) (n : Nat), l.length = n → l.zipWith (resS keep) (List.replicate n []) = l
  | [], n, h => by simp
  | x :: l, 0, h => by simp at h
  | x :: l, n + 1, h => by
    rw [List.replicate_succ, List.zipWith_cons_cons, zip_nil keep l n (by simpa using h)]
    rfl
theorem Wants.start {D : DM} {n : Nat} (keep : Int) (h : Calm D) (ok : D.OK n) : Wants keep n 0 (flushD D n) (flushD D n).now := by
  refine ⟨h.flushed n, by rw [h.flush]; rfl, ?_, ?_⟩
  · rw [h.flush]
    intro l hl x hx
    obtain rfl : l = [] := (List.mem_replicate.1 hl).2
    simp at hx
  · rw [h.flush]
    exact (zip_nil keep D.now n ok.m).symm
theorem resS_snoc (keep : Int) (s : Sec) (l : List Wr) (x : Wr) : resS keep s (l ++ [x]) = if bitB keep x.bit = true then x.data else resS keep s l := by
  unfold resS; rw [List.foldl_append]; rfl
theorem Wants.put {keep : Int} {n m : Nat} {D : DM} {want : List Sec} (h : Wants keep n m D want) (ok : D.OK n) {k : Nat} (hk : k < n) (hm : m < 63) (s : List UInt8) :
    Wants keep n (m + 1) (putD D k s) (if bitB keep m = true then want.set k (padS s) else want) := by
  have hks : k < D.since.length := by rw [ok.s]; exact hk
  have hkk : k < D.kept.length := by rw [ok.k]; exact hk
  have hg : D.since.getD k [] = D.since[k] := by simp [List.getD, hks]
  have hK : keptW D.next (D.since.getD k []) = D.since[k] := by
    rw [hg, h.next]
    refine keptW_all fun j hj => ?_
    have := h.bit _ (List.getElem_mem hks) _ (List.getElem_mem hj)
    simp; omega
  refine ⟨h.calm.put k s, ?_, ?_, ?_⟩
  · show (D.next + 1) % 64 = m + 1
    rw [h.next]; omega
  · intro l hl x hx
    have hl : l ∈ D.since.set k (keptW D.next (D.since.getD k []) ++ [⟨D.next, padS s⟩]) := hl
    rcases List.mem_set_or hl with rfl | hl
    · rw [hK] at hx
      rcases List.mem_append.1 hx with hx | hx
      · have := h.bit _ (List.getElem_mem hks) _ hx; omega
      · obtain rfl : x = ⟨D.next, padS s⟩ := by simpa using hx
        show D.next < m + 1
        rw [h.next]; omega
    · have := h.bit _ hl _ hx; omega
  · show _ = D.kept.zipWith (resS keep) (D.since.set k (keptW D.next (D.since.getD k []) ++ [⟨D.next, padS s⟩]))
    rw [hK, h.eq, h.next]
    refine List.ext_getElem? fun i => ?_
    by_cases hi : i = k
    · subst hi
      by_cases hb : bitB keep m = true
      · rw [if_pos hb, List.getElem?_set_self (by simp; omega)]
        simp [List.getElem?_zipWith, hkk, hks, resS_snoc, hb]
      · rw [if_neg hb]
        simp [List.getElem?_zipWith, hkk, hks, resS_snoc, hb]
    · have hi' : k ≠ i := fun e => hi e.symm
      by_cases hb : bitB keep m = true
      · rw [if_pos hb, List.getElem?_set_ne hi']
        simp [List.getElem?_zipWith, List.getElem?_set_ne hi']
      · rw [if_neg hb]
        simp [List.getElem?_zipWith, List.getElem?_set_ne hi']
/-- After the restart each sector is what was wanted. -/
theorem Wants.fin {keep : Int} {n m : Nat} {D : DM} {want : List Sec} (h : Wants keep n m D want) {k : Nat} (hk : k < n) : readF (resD D n keep) n k = 0 ∧ readS (resD D n keep) n k = ⟨(want.getD k []).toArray⟩ := by
  have hc : Calm (resD D n keep) := ⟨rfl, rfl⟩
  refine ⟨by rw [hc.readF, if_pos]; simp [hasD, hk], ?_⟩
  rw [hc.readS hk, h.eq]; rfl
end Go.Proofs.YtfkmaiiainbcbaaGreatDoor.D
