/- What hold.Key and the document's own KeyOf answer, for every state and everybody: the first key under that name. -/
import Derived.Test.YtfkmaiiainbcbaaGreatDoorBase
namespace Go.Proofs.YtfkmaiiainbcbaaGreatDoor
open Go.ChangeShapes Go.WideShapes Go.ChangeAt Go.RowKit

set_option maxHeartbeats 400000 in
theorem key_any (g t h : Int) (a : Option Addr) (n c : Nat) (y : Bool) (l : List (Int × Int)) (who : Int) (w : World) (hr : Row w a n l) :
    Calls Tryz.prog 49 #[.agg #[.int .i64 g, .slice a n c, .int .i64 t, .int .i64 h, .bool y], .int .i64 who] w fun e w' => e = .returned (.int .i64 (keyOf l who)) ∧ Below w.heap.size w w' := by
  obtain ⟨hl, hn, hrow⟩ := hr
  go_enter Tryz.func49, Tryz.ntmps49
  go_wp2
  go_loopw [10] (fun i wr => ∃ k : Nat, k ≤ n ∧ i = .int .i64 k ∧ Below w.heap.size w wr ∧ keyOf l who = keyOf (l.drop k) who) (fun i _ => n - (intOf i).toNat)
  case atStart => exact ⟨0, Nat.zero_le _, rfl, (Below.refl _ _).alloc (Nat.le_refl _) _, rfl⟩
  case round =>
    obtain ⟨k, hk, rfl, hb, hkey⟩ := hrel
    have HK : Hid (keyOf l who = keyOf (l.drop k) who) := hkey
    clear hkey
    by_cases hlt : k < n
    · obtain ⟨b, off, rfl, hc⟩ := hrow (by omega)
      have hc0 := cell_later hb (hc k (by omega)).1
      have hc1 := cell_later hb (hc k (by omega)).2
      have HD : Hid _ := keyOf_drop l who k (by omega)
      clear hc hrow
      go_wp2
      · have hh : (l[k].1 == who) = true := by assumption
        go_ret
        exact ⟨ret_int (by rw [HK.out, HD.out, if_pos (by simpa using hh)]), hb.alloc hb.size _⟩
      · have hh : (l[k].1 == who) = false := by assumption
        go_roundw
        case rel => exact ⟨k + 1, by omega, by go_num, hb.alloc hb.size _, by rw [HK.out, HD.out, if_neg (by simpa using hh)]⟩
        case measure => simp [intOf]; omega
    · go_wp2
      go_ret
      exact ⟨ret_int (by rw [HK.out, List.drop_of_length_le (by omega)]; rfl), hb⟩

set_option maxHeartbeats 400000 in
theorem keyOf_any (g t h : Int) (a : Option Addr) (n c : Nat) (y : Bool) (l : List (Int × Int)) (who : Int) (w : World) (hr : Row w a n l) :
    Calls Tryz.prog 29 #[.agg #[.int .i64 g, .slice a n c, .int .i64 t, .int .i64 h, .bool y], .int .i64 who] w fun e w' => e = .returned (.int .i64 (keyOf l who)) ∧ Below w.heap.size w w' := by
  obtain ⟨hl, hn, hrow⟩ := hr
  go_enter Tryz.func29, Tryz.ntmps29
  go_wp2
  go_loop [5] (fun i => ∃ k : Nat, k ≤ n ∧ i = .int .i64 k ∧ keyOf l who = keyOf (l.drop k) who) (fun i => n - (intOf i).toNat)
  case atStart => exact ⟨0, Nat.zero_le _, rfl, rfl⟩
  case round =>
    obtain ⟨k, hk, rfl, hkey⟩ := hrel
    have HK : Hid (keyOf l who = keyOf (l.drop k) who) := hkey
    clear hkey
    by_cases hlt : k < n
    · obtain ⟨b, off, rfl, hc⟩ := hrow (by omega)
      have hc0 := cell_later ((Below.refl _ _).alloc (Nat.le_refl _) (.cells #[.int .i64 g, .slice (some ⟨b, off, none⟩) n c, .int .i64 t, .int .i64 h, .bool y] 37)) (hc k (by omega)).1
      have hc1 := cell_later ((Below.refl _ _).alloc (Nat.le_refl _) (.cells #[.int .i64 g, .slice (some ⟨b, off, none⟩) n c, .int .i64 t, .int .i64 h, .bool y] 37)) (hc k (by omega)).2
      have HD : Hid _ := keyOf_drop l who k (by omega)
      clear hc hrow
      go_wp2
      · have hh : (l[k].1 == who) = true := by assumption
        go_ret
        exact ⟨ret_int (by rw [HK.out, HD.out, if_pos (by simpa using hh)]), (Below.refl _ _).alloc (Nat.le_refl _) _⟩
      · have hh : (l[k].1 == who) = false := by assumption
        go_round
        case rel => exact ⟨k + 1, by omega, by go_num, by rw [HK.out, HD.out, if_neg (by simpa using hh)]⟩
        case measure => simp [intOf]; omega
    · go_wp2
      go_ret
      exact ⟨ret_int (by rw [HK.out, List.drop_of_length_le (by omega)]; rfl), (Below.refl _ _).alloc (Nat.le_refl _) _⟩
end Go.Proofs.YtfkmaiiainbcbaaGreatDoor
