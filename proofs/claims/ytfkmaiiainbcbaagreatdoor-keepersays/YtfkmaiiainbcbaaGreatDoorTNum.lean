/- Plain facts on digits and on words between blanks: what is written is read. No statement of the seat is proved here. -/
import Derived.Lib.ItoaNum
import Derived.Lib.AtoiAll
import Derived.Lib.IndexMore
import Derived.Lib.Join
namespace Go.Proofs.YtfkmaiiainbcbaaGreatDoor

/-- The number that digits tell, behind n; none: one is no digit. -/
def digs : List UInt8 → Int → Option Int
  | [], n => some n
  | b :: l, n => if b.toNat < 48 ∨ 57 < b.toNat then none else digs l (10 * n + (b.toNat - 48 : Int))
/-- A natural number that a text tells; -1: none up to that. -/
def natW (s : ByteArray) (most : Int) : Int :=
  if s.size < 1 ∨ 10 < s.size ∨ (s.data.toList.head? = some 48 ∧ 1 < s.size) then -1 else match digs s.data.toList 0 with
    | none => -1
    | some n => if most < n then -1 else n

theorem digit_nat {d : Nat} (h : d < 10) : (UInt8.ofNat (48 + d)).toNat = 48 + d := by simp; omega
theorem digs_append : ∀ (l : List UInt8) (c : UInt8) (m : Int), digs (l ++ [c]) m = (digs l m).bind fun n => if c.toNat < 48 ∨ 57 < c.toNat then none else some (10 * n + (c.toNat - 48 : Int))
  | [], c, m => by simp [digs]
  | b :: l, c, m => by
    simp only [List.cons_append, digs]
    split
    · rfl
    · exact digs_append l c _
theorem dec_rec (n : Nat) : Lib.decDigits n = if n < 10 then [UInt8.ofNat (48 + n)] else Lib.decDigits (n / 10) ++ [UInt8.ofNat (48 + n % 10)] := by
  rw [Lib.decDigits]; split <;> rfl
theorem digs_dec (n : Nat) : digs (Lib.decDigits n) 0 = some (n : Int) := by
  induction n using Nat.strongRecOn with
  | ind n ih =>
    rw [dec_rec]
    split
    · rename_i h
      have := digit_nat h
      simp only [digs]
      rw [this, if_neg (by omega)]
      congr 1; omega
    · rename_i h
      have hd := digit_nat (show n % 10 < 10 by omega)
      rw [digs_append, ih (n / 10) (by omega)]
      simp only [Option.bind_some]
      rw [hd, if_neg (by omega)]
      congr 1; omega
theorem dec_ne (n : Nat) : Lib.decDigits n ≠ [] := by
  rw [dec_rec]; split <;> simp
theorem head_app {l m : List UInt8} (h : l ≠ []) : (l ++ m).head? = l.head? := by
  cases l with
  | nil => exact absurd rfl h
  | cons a l => rfl
theorem dec_head (n : Nat) (h : (Lib.decDigits n).head? = some 48) : n = 0 := by
  induction n using Nat.strongRecOn with
  | ind n ih =>
    rw [dec_rec] at h
    split at h
    · rename_i hn
      simp only [List.head?_cons, Option.some.injEq] at h
      have h1 := congrArg UInt8.toNat h
      rw [digit_nat hn] at h1
      simp at h1
      exact h1
    · rename_i hn
      have hne := dec_ne (n / 10)
      rw [head_app hne] at h
      have := ih (n / 10) (by omega) h
      omega
theorem dec_dig (n : Nat) : ∀ c ∈ Lib.decDigits n, 48 ≤ c.toNat ∧ c.toNat ≤ 57 := by
  induction n using Nat.strongRecOn with
  | ind n ih =>
    rw [dec_rec]
    split
    · rename_i h
      intro c hc
      simp only [List.mem_singleton] at hc
      rw [hc, digit_nat h]; omega
    · intro c hc
      rcases List.mem_append.1 hc with hc | hc
      · exact ih (n / 10) (by omega) c hc
      · simp only [List.mem_singleton] at hc
        rw [hc, digit_nat (show n % 10 < 10 by omega)]; omega
theorem digs_nonneg : ∀ (l : List UInt8) (m n : Int), 0 ≤ m → digs l m = some n → m ≤ n
  | [], m, n, _, h => by simp [digs] at h; omega
  | b :: l, m, n, hm, h => by
    simp only [digs] at h
    split at h
    · cases h
    · have := digs_nonneg l _ n (by omega) h
      omega
theorem digs_pos : ∀ (l : List UInt8) (n : Int), l ≠ [] → digs l 0 = some n → l.head? ≠ some 48 → 1 ≤ n
  | [], _, h, _, _ => absurd rfl h
  | b :: l, n, _, h, h0 => by
    simp only [digs] at h
    split at h
    · cases h
    · rename_i hb
      have hb1 : b.toNat ≠ 48 := fun e => h0 (by simp only [List.head?_cons, Option.some.injEq]; exact UInt8.toNat_inj.1 (by simpa using e))
      have := digs_nonneg l _ n (by omega) h
      omega
/-- Digits without a nought ahead are those of their number. -/
theorem dec_inv : ∀ (k : Nat) (l : List UInt8) (n : Int), l.length = k → l ≠ [] → digs l 0 = some n → (l.head? = some 48 → l.length = 1) → 0 ≤ n ∧ l = Lib.decDigits n.toNat := by
  intro k
  induction k with
  | zero => intro l n hk hne _ _; exact absurd (List.eq_nil_of_length_eq_zero hk) hne
  | succ k ih =>
    intro l n hk hne hd h0
    have hl : l = l.dropLast ++ [l.getLast hne] := (List.dropLast_concat_getLast hne).symm
    generalize hr : l.dropLast = r at hl
    generalize hc : l.getLast hne = c at hl
    subst hl
    clear hr hc
    rw [digs_append] at hd
    cases hm : digs r 0 with
    | none => rw [hm] at hd; simp at hd
    | some m =>
      rw [hm] at hd
      simp only [Option.bind_some] at hd
      split at hd
      · cases hd
      · rename_i hcb
        simp only [Option.some.injEq] at hd
        have hc48 : c = UInt8.ofNat (48 + (c.toNat - 48)) := by
          apply UInt8.toNat_inj.1
          rw [digit_nat (by omega)]; omega
        by_cases hrn : r = []
        · subst hrn
          simp only [digs, Option.some.injEq] at hm
          subst hm
          refine ⟨by omega, ?_⟩
          rw [dec_rec, if_pos (by omega)]
          have : n.toNat = c.toNat - 48 := by omega
          rw [this, ← hc48]
          rfl
        · have hrh : r.head? ≠ some 48 := fun e => by
            have := h0 (by rw [head_app hrn]; exact e)
            have hlen : 0 < r.length := List.length_pos_iff.2 hrn
            rw [List.length_append, List.length_singleton] at this; omega
          have hm1 := digs_pos r m hrn hm hrh
          obtain ⟨hm0, e⟩ := ih r m (by rw [List.length_append, List.length_singleton] at hk; omega) hrn hm (fun e => absurd e hrh)
          refine ⟨by omega, ?_⟩
          rw [dec_rec, if_neg (by omega)]
          have e1 : n.toNat / 10 = m.toNat := by omega
          have e2 : n.toNat % 10 = c.toNat - 48 := by omega
          rw [e1, e2, ← hc48, ← e]
theorem dec_len10 (n : Nat) (h : n ≤ 1000000000) : (Lib.decDigits n).length ≤ 10 := by
  have : ∀ k n : Nat, n < 10 ^ (k + 1) → (Lib.decDigits n).length ≤ k + 1 := by
    intro k
    induction k with
    | zero => intro n hn; rw [dec_rec, if_pos (by simpa using hn)]; simp
    | succ k ih =>
      intro n hn
      rw [dec_rec]
      split
      · simp
      · have := ih (n / 10) (by rw [Nat.pow_succ] at hn; omega)
        simp; omega
  exact this 9 n (by omega)
theorem nat_dec (n : Nat) (most : Int) (h : (n : Int) ≤ most) (h9 : n ≤ 1000000000) : natW ⟨(Lib.decDigits n).toArray⟩ most = n := by
  have h1 := dec_len10 n h9
  have h2 : 0 < (Lib.decDigits n).length := List.length_pos_iff.2 (dec_ne n)
  unfold natW
  have hz : (⟨(Lib.decDigits n).toArray⟩ : ByteArray).size = (Lib.decDigits n).length := by simp [ByteArray.size]
  rw [hz, if_neg]
  · simp only [digs_dec]
    rw [if_neg (by omega)]
  · rintro (h | h | ⟨e, h⟩)
    · omega
    · omega
    · have h0 := dec_head n (by simpa using e)
      subst h0
      rw [dec_rec] at h
      simp at h
theorem nat_inv {s : ByteArray} {most : Int} (h : 0 ≤ natW s most) : s.data.toList = Lib.decDigits (natW s most).toNat ∧ natW s most ≤ most := by
  unfold natW at h ⊢
  split at h
  · omega
  · rename_i hc
    rw [if_neg hc]
    cases hd : digs s.data.toList 0 with
    | none => rw [hd] at h; simp at h
    | some n =>
      rw [hd] at h
      simp only at h ⊢
      split at h
      · omega
      · rename_i hm
        rw [if_neg hm]
        have hsz : s.data.toList.length = s.size := by rw [Array.length_toList]; rfl
        have hne : s.data.toList ≠ [] := fun e => hc (.inl (by rw [← hsz, e]; exact Nat.zero_lt_one))
        obtain ⟨_, e⟩ := dec_inv _ s.data.toList n rfl hne hd (fun e => by
          have h1 : ¬ 1 < s.size := fun h1 => hc (.inr (.inr ⟨e, h1⟩))
          have h2 : 0 < s.data.toList.length := List.length_pos_iff.2 hne
          rw [hsz] at h2 ⊢
          omega)
        exact ⟨e, by omega⟩
theorem parse_digs : ∀ (l : List UInt8) (acc n : Nat), digs l acc = some (n : Int) → n ≤ 1000000000 → Lib.parseUint10 acc l = .ok n
  | [], acc, n, h, _ => by
    simp only [digs, Option.some.injEq] at h
    have : acc = n := by omega
    subst this
    rfl
  | c :: l, acc, n, h, hn => by
    simp only [digs] at h
    split at h
    · cases h
    · rename_i hb
      have e : (10 * (acc : Int) + (c.toNat - 48 : Int)) = ((acc * 10 + (c.toNat - 48) : Nat) : Int) := by omega
      rw [e] at h
      have hle := digs_nonneg l _ _ (by omega) h
      unfold Lib.parseUint10
      rw [if_pos (by omega), if_neg (by omega), if_neg (by omega)]
      exact parse_digs l _ n h hn
theorem atoi_dec (n : Nat) (h : n ≤ 1000000000) : Lib.atoiAll (Lib.decDigits n) = .ok (n : Int) := by
  cases hd : Lib.decDigits n with
  | nil => exact absurd hd (dec_ne n)
  | cons c r =>
    have hc := dec_dig n c (by rw [hd]; simp)
    have hp : Lib.parseUint10 0 (c :: r) = .ok n := by rw [← hd]; exact parse_digs _ 0 n (digs_dec n) h
    unfold Lib.atoiAll
    have hneg : ¬ (c.toNat = 45) := by omega
    simp only
    rw [if_neg (by omega)]
    unfold Lib.parseMag
    rw [if_neg (by simp), hp]
    simp only
    rw [if_neg (by omega), if_neg (fun e => hneg e.1), if_neg hneg]

/-- The words of a line: each blank parts. -/
def splitW : List UInt8 → List (List UInt8)
  | [] => [[]]
  | c :: s => if c = 32 then [] :: splitW s else match splitW s with
    | [] => [[c]]
    | w :: ws => (c :: w) :: ws
def joinW (ws : List (List UInt8)) : List UInt8 := Lib.join ws [32]
theorem joinW_cons (w x : List UInt8) (ws : List (List UInt8)) : joinW (w :: x :: ws) = w ++ 32 :: joinW (x :: ws) := by
  simp [joinW, Lib.join, List.intercalate, List.intersperse]
theorem joinW_one (w : List UInt8) : joinW [w] = w := by simp [joinW, Lib.join, List.intercalate]
theorem split_ne (s : List UInt8) : splitW s ≠ [] := by
  cases s with
  | nil => simp [splitW]
  | cons c s =>
    unfold splitW
    split
    · simp
    · split <;> simp
theorem join_split : ∀ s : List UInt8, joinW (splitW s) = s
  | [] => by simp [splitW, joinW_one]
  | c :: s => by
    have ih := join_split s
    unfold splitW
    split
    · rename_i h
      cases hs : splitW s with
      | nil => exact absurd hs (split_ne s)
      | cons w ws => rw [joinW_cons, ← hs, ih, h]; rfl
    · cases hs : splitW s with
      | nil => exact absurd hs (split_ne s)
      | cons w ws =>
        simp only
        cases ws with
        | nil => rw [hs, joinW_one] at ih; rw [joinW_one, ih]
        | cons x xs => rw [hs, joinW_cons] at ih; rw [joinW_cons, List.cons_append, ih]
theorem split_word : ∀ (w : List UInt8), (32 : UInt8) ∉ w → splitW w = [w]
  | [], _ => rfl
  | c :: w, h => by
    have ih := split_word w (fun e => h (by simp [e]))
    unfold splitW
    rw [if_neg (fun e => h (by simp [e])), ih]
theorem split_blank : ∀ (w s : List UInt8), (32 : UInt8) ∉ w → splitW (w ++ 32 :: s) = w :: splitW s
  | [], s, _ => by simp [splitW]
  | c :: w, s, h => by
    have ih := split_blank w s (fun e => h (by simp [e]))
    rw [List.cons_append]
    conv => lhs; unfold splitW
    rw [if_neg (fun e => h (by simp [e])), ih]
theorem split_join : ∀ (w : List UInt8) (ws : List (List UInt8)), (∀ x ∈ w :: ws, (32 : UInt8) ∉ x) → splitW (joinW (w :: ws)) = w :: ws
  | w, [], h => by rw [joinW_one]; exact split_word w (h w (by simp))
  | w, x :: ws, h => by
    rw [joinW_cons, split_blank w _ (h w (by simp)), split_join x ws fun y hy => h y (by simp [hy])]
theorem split_noblank : ∀ (s : List UInt8), ∀ w ∈ splitW s, (32 : UInt8) ∉ w
  | [], w, h => by simp [splitW] at h; subst h; simp
  | c :: s, w, h => by
    have ih := split_noblank s
    unfold splitW at h
    split at h
    · rcases List.mem_cons.1 h with rfl | h
      · simp
      · exact ih w h
    · rename_i hc
      cases hs : splitW s with
      | nil => exact absurd hs (split_ne s)
      | cons x xs =>
        rw [hs] at h
        rcases List.mem_cons.1 h with rfl | h
        · intro hm
          rcases List.mem_cons.1 hm with e | hm
          · exact hc e.symm
          · exact ih x (by rw [hs]; simp) hm
        · exact ih w (by rw [hs]; simp [h])
end Go.Proofs.YtfkmaiiainbcbaaGreatDoor
