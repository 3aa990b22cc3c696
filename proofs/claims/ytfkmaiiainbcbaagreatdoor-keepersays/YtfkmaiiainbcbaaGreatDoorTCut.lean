/- Plain facts on strings.Cut at a blank, and on the words of a text. No statement of the seat is proved here. -/
import Derived.Test.YtfkmaiiainbcbaaGreatDoorTNum
namespace Go.Proofs.YtfkmaiiainbcbaaGreatDoor

/-- The first word, what is behind it, and is there a mark? -/
def cut1 (b : UInt8) : List UInt8 → List UInt8 × List UInt8 × Bool
  | [] => ([], [], false)
  | c :: s => if c = b then ([], s, true) else (c :: (cut1 b s).1, (cut1 b s).2)
theorem cut1_word {b : UInt8} : ∀ (w : List UInt8), b ∉ w → cut1 b w = (w, [], false)
  | [], _ => rfl
  | c :: w, h => by
    have ih := cut1_word (b := b) w (fun e => h (List.mem_cons_of_mem _ e))
    unfold cut1
    rw [if_neg (fun e => h (by rw [e]; exact List.mem_cons_self)), ih]
theorem cut1_mark {b : UInt8} : ∀ (w s : List UInt8), b ∉ w → cut1 b (w ++ b :: s) = (w, s, true)
  | [], s, _ => by simp [cut1]
  | c :: w, s, h => by
    have ih := cut1_mark (b := b) w s (fun e => h (List.mem_cons_of_mem _ e))
    rw [List.cons_append]
    conv => lhs; unfold cut1
    rw [if_neg (fun e => h (by rw [e]; exact List.mem_cons_self)), ih]
theorem cut_eq (b : UInt8) : ∀ s : List UInt8, Lib.cut s [b] = cut1 b s
  | [] => by simp [Lib.cut, Lib.index, cut1]
  | c :: l => by
    have ih := cut_eq b l
    by_cases h : c = b
    · subst h
      have e : Lib.index (c :: l) [c] = 0 := by
        unfold Lib.index
        rw [if_pos (by show ((c == c) && true) = true; simp)]
      unfold Lib.cut cut1
      rw [e]
      simp
    · have hp : ([b].isPrefixOf (c :: l)) = false := by
        have hb : (b == c) = false := beq_eq_false_iff_ne.2 (Ne.symm h)
        show ((b == c) && _) = false
        rw [hb]; rfl
      conv => rhs; unfold cut1
      rw [if_neg h, ← ih]
      by_cases h1 : Lib.index l [b] = -1
      · have e : Lib.index (c :: l) [b] = -1 := by unfold Lib.index; rw [hp, h1]; rfl
        unfold Lib.cut
        rw [e, h1]
        simp
      · have h0 := Lib.index_ge l [b]
        have e : Lib.index (c :: l) [b] = Lib.index l [b] + 1 := by
          conv => lhs; unfold Lib.index
          rw [hp, beq_eq_false_iff_ne.2 h1]
          simp
        unfold Lib.cut
        rw [e, if_pos (by omega), if_pos (by omega)]
        have e2 : (Lib.index l [b] + 1).toNat = (Lib.index l [b]).toNat + 1 := by omega
        rw [e2]
        simp
theorem cut_word {w : List UInt8} (h : (32 : UInt8) ∉ w) : Lib.cut (joinW [w]) [32] = (w, [], false) := by rw [cut_eq, joinW_one]; exact cut1_word w h
theorem cut_words {w x : List UInt8} {ws : List (List UInt8)} (h : (32 : UInt8) ∉ w) : Lib.cut (joinW (w :: x :: ws)) [32] = (w, joinW (x :: ws), true) := by rw [cut_eq, joinW_cons]; exact cut1_mark w _ h
end Go.Proofs.YtfkmaiiainbcbaaGreatDoor
