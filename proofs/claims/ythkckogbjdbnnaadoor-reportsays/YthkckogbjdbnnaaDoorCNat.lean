/- What the document's own natural answers. -/
import Derived.Test.YthkckogbjdbnnaaDoorCOp
import Derived.Test.YthkckogbjdbnnaaDoorTNum
namespace Go.Proofs.YthkckogbjdbnnaaDoor.K
open Go.ChangeShapes Go.WideShapes Go.ChangeAt Go.RowKit Go.Maps

theorem head_is (s : ByteArray) (h : 0 < s.size) : s.data.toList.head? = some (s[0]'h) := by
  rw [List.head?_eq_getElem?]
  exact List.getElem?_eq_getElem (show 0 < s.data.toList.length from h)
theorem is48 (b : UInt8) : some b = some 48 ↔ b.toNat = 48 := by
  rw [Option.some.injEq]
  constructor
  · rintro rfl; rfl
  · intro h; exact UInt8.toNat_inj.1 h
theorem digs_at (s : ByteArray) (k : Nat) (h : k < s.size) (m : Int) : digs (s.data.toList.drop k) m = if (s[k]'h).toNat < 48 ∨ 57 < (s[k]'h).toNat then none else digs (s.data.toList.drop (k + 1)) (10 * m + ((s[k]'h).toNat - 48 : Int)) := by
  rw [List.drop_eq_getElem_cons (show k < s.data.toList.length from h)]; rfl

theorem w64 (x : Int) (h0 : 0 ≤ x) (h1 : x < 9223372036854775808) : wrap64 x = x := by unfold wrap64; omega
theorem pow_nine (k : Nat) (m : Int) (hk : k ≤ 9) (h : m < 10 ^ k) : m < 1000000000 := by
  have h1 : (10 : Nat) ^ k ≤ 10 ^ 9 := Nat.pow_le_pow_right (by decide) hk
  have h2 : ((10 ^ k : Nat) : Int) = (10 : Int) ^ k := by simp
  omega
theorem pow_step (k : Nat) (m d : Int) (h : m < 10 ^ k) (hd : d ≤ 9) : 10 * m + d < 10 ^ (k + 1) := by
  rw [Int.pow_succ]; omega

set_option maxHeartbeats 4000000 in
set_option maxRecDepth 100000 in
theorem natural_any (s : ByteArray) (hs : s.size ≤ 9223372036854775807) (most : Int) (w : World) : Calls Tryd.prog 42 #[.string s, .int .i64 most] w fun e w' => e = .returned (.int .i64 (natW s most)) ∧ w' = w := by
  by_cases h1 : s.size < 1
  · have HF : Hid (natW s most = -1) := by show _ = _; unfold natW; rw [if_pos (.inl h1)]
    go_enter Tryd.func42, Tryd.ntmps42
    go_wp2
    go_ret
    exact ⟨by rw [HF.out]; rfl, rfl⟩
  have h1' : decide ((s.size : Int) < 1) = false := by simp; omega
  by_cases h2 : 10 < s.size
  · have HF : Hid (natW s most = -1) := by show _ = _; unfold natW; rw [if_pos (.inr (.inl h2))]
    have h2' : decide ((10 : Int) < (s.size : Int)) = true := by simp; omega
    go_enter Tryd.func42, Tryd.ntmps42
    go_wp2
    go_ret
    exact ⟨by rw [HF.out]; rfl, rfl⟩
  have h2' : decide ((10 : Int) < (s.size : Int)) = false := by simp; omega
  have h0 : 0 < s.size := by omega
  have hh := head_is s h0
  by_cases h3 : (s[0]'h0).toNat = 48 ∧ 1 < s.size
  · have HF : Hid (natW s most = -1) := by show _ = _; unfold natW; rw [if_pos (.inr (.inr ⟨by rw [hh, is48]; exact h3.1, h3.2⟩))]
    have h4 := h3.1
    have h5 : (1 : Int) < (s.size : Int) := by omega
    clear h3
    go_enter Tryd.func42, Tryd.ntmps42
    go_wp2
    go_ret
    exact ⟨by rw [HF.out]; rfl, rfl⟩
  have HF : Hid (natW s most = match digs s.data.toList 0 with | none => -1 | some n => if most < n then -1 else n) := by
    show _ = _; unfold natW; rw [if_neg (by rw [hh, is48]; omega)]; rfl
  by_cases h4 : (s[0]'h0).toNat = 48
  · have h5 : decide ((1 : Int) < (s.size : Int)) = false := by simp; omega
    go_enter Tryd.func42, Tryd.ntmps42
    go_wp2
    go_loopw [5, 6] (fun n i wr => ∃ (k : Nat) (m : Int), k ≤ s.size ∧ i = .int .i64 k ∧ n = .int .i64 m ∧ wr = w ∧ 0 ≤ m ∧ m < 10 ^ k ∧ digs s.data.toList 0 = digs (s.data.toList.drop k) m) (fun _ i _ => s.size - (intOf i).toNat)
    case atStart => exact ⟨0, 0, Nat.zero_le _, rfl, rfl, rfl, by omega, by decide, rfl⟩
    case round =>
      obtain ⟨k, m, hk, rfl, rfl, rfl, hm0, hm1, hd⟩ := hrel
      have HM : Hid _ := hd
      have HX : Hid _ := hm1
      clear hd hm1
      by_cases hlt : k < s.size
      · have hki : (k : Int) < (s.size : Int) := by omega
        have HD : Hid _ := digs_at s k hlt m
        by_cases g1 : (s[k]'hlt).toNat < 48
        · go_wp2
          go_ret
          exact ⟨by rw [HF.out, HM.out, HD.out, if_pos (.inl g1)]; rfl, rfl⟩
        · have g1' : decide ((s[k]'hlt).toNat < 48) = false := by simpa using g1
          by_cases g2 : 57 < (s[k]'hlt).toNat
          · go_wp2
            go_ret
            exact ⟨by rw [HF.out, HM.out, HD.out, if_pos (.inr g2)]; rfl, rfl⟩
          · have g2' : decide (57 < (s[k]'hlt).toNat) = false := by simpa using g2
            go_wp2
            refine ⟨⟨k + 1, 10 * m + ((s[k]'hlt).toNat - 48 : Int), by omega, by go_num, ?_, trivial, by omega, pow_step k m _ HX.out (by omega), by rw [HM.out, HD.out, if_neg (by omega)]⟩, by simp [intOf]; omega⟩
            rw [w64 (10 * m) (by omega) (by have := pow_nine k m (by omega) HX.out; omega), w64 _ (by omega) (by have := pow_nine k m (by omega) HX.out; omega)]
      · have hlt' : decide ((k : Int) < (s.size : Int)) = false := by simp; omega
        have HE : Hid (digs (s.data.toList.drop k) m = some m) := by show _ = _; rw [List.drop_eq_nil_of_le (by simpa using hlt)]; rfl
        by_cases g3 : most < m
        · go_wp2
          go_ret
          exact ⟨by rw [HF.out, HM.out, HE.out]; simp [g3], rfl⟩
        · have g3' : decide (most < m) = false := by simpa using g3
          go_wp2
          go_ret
          exact ⟨by rw [HF.out, HM.out, HE.out]; exact ret_intA (by show _ = (if most < m then (-1 : Int) else m); rw [if_neg (by omega)]), rfl⟩
  · have h4' : ((s[0]'h0).toNat == 48) = false := by simpa using h4
    go_enter Tryd.func42, Tryd.ntmps42
    go_wp2
    go_loopw [5, 6] (fun n i wr => ∃ (k : Nat) (m : Int), k ≤ s.size ∧ i = .int .i64 k ∧ n = .int .i64 m ∧ wr = w ∧ 0 ≤ m ∧ m < 10 ^ k ∧ digs s.data.toList 0 = digs (s.data.toList.drop k) m) (fun _ i _ => s.size - (intOf i).toNat)
    case atStart => exact ⟨0, 0, Nat.zero_le _, rfl, rfl, rfl, by omega, by decide, rfl⟩
    case round =>
      obtain ⟨k, m, hk, rfl, rfl, rfl, hm0, hm1, hd⟩ := hrel
      have HM : Hid _ := hd
      have HX : Hid _ := hm1
      clear hd hm1
      by_cases hlt : k < s.size
      · have hki : (k : Int) < (s.size : Int) := by omega
        have HD : Hid _ := digs_at s k hlt m
        by_cases g1 : (s[k]'hlt).toNat < 48
        · go_wp2
          go_ret
          exact ⟨by rw [HF.out, HM.out, HD.out, if_pos (.inl g1)]; rfl, rfl⟩
        · have g1' : decide ((s[k]'hlt).toNat < 48) = false := by simpa using g1
          by_cases g2 : 57 < (s[k]'hlt).toNat
          · go_wp2
            go_ret
            exact ⟨by rw [HF.out, HM.out, HD.out, if_pos (.inr g2)]; rfl, rfl⟩
          · have g2' : decide (57 < (s[k]'hlt).toNat) = false := by simpa using g2
            go_wp2
            refine ⟨⟨k + 1, 10 * m + ((s[k]'hlt).toNat - 48 : Int), by omega, by go_num, ?_, trivial, by omega, pow_step k m _ HX.out (by omega), by rw [HM.out, HD.out, if_neg (by omega)]⟩, by simp [intOf]; omega⟩
            rw [w64 (10 * m) (by omega) (by have := pow_nine k m (by omega) HX.out; omega), w64 _ (by omega) (by have := pow_nine k m (by omega) HX.out; omega)]
      · have hlt' : decide ((k : Int) < (s.size : Int)) = false := by simp; omega
        have HE : Hid (digs (s.data.toList.drop k) m = some m) := by show _ = _; rw [List.drop_eq_nil_of_le (by simpa using hlt)]; rfl
        by_cases g3 : most < m
        · go_wp2
          go_ret
          exact ⟨by rw [HF.out, HM.out, HE.out]; simp [g3], rfl⟩
        · have g3' : decide (most < m) = false := by simpa using g3
          go_wp2
          go_ret
          exact ⟨by rw [HF.out, HM.out, HE.out]; exact ret_intA (by show _ = (if most < m then (-1 : Int) else m); rw [if_neg (by omega)]), rfl⟩
end Go.Proofs.YthkckogbjdbnnaaDoor.K
