/- What the document's own StateFault answers, for every state. -/
import Derived.Test.YtfkmaiiainbcbaaGreatDoorFault
namespace Go.Proofs.YtfkmaiiainbcbaaGreatDoor
open Go.ChangeShapes Go.WideShapes Go.ChangeAt Go.RowKit

/-- Who stands ahead of place k. -/
def ahead (l : List (Int × Int)) (k : Nat) : Int := if k = 0 then 0 else (l[k - 1]?.getD (0, 0)).1

theorem ahead_zero (l : List (Int × Int)) : ahead l 0 = 0 := rfl
theorem ahead_succ (l : List (Int × Int)) (k : Nat) (h : k < l.length) : ahead l (k + 1) = l[k].1 := by simp [ahead, h]

theorem rf_step (l : List (Int × Int)) (k : Nat) (h : k < l.length) : rf (ahead l k) (l.drop k) =
    if l[k].1 < 1 ∨ 4 < l[k].1 ∨ l[k].2 < 1 ∨ 999 < l[k].2 then 1 else if l[k].1 ≤ ahead l k then 2 else rf (ahead l (k + 1)) (l.drop (k + 1)) := by
  rw [List.drop_eq_getElem_cons h, rf, ahead_succ l k h]

/-- Five ways through a registration's bounds. -/
theorem bounds5 (x y : Int) : x < 1 ∨ (¬ x < 1 ∧ 4 < x) ∨ (¬ x < 1 ∧ ¬ 4 < x ∧ y < 1) ∨ (¬ x < 1 ∧ ¬ 4 < x ∧ ¬ y < 1 ∧ 999 < y) ∨ (¬ x < 1 ∧ ¬ 4 < x ∧ ¬ y < 1 ∧ ¬ 999 < y) := by omega

set_option maxHeartbeats 2000000 in
theorem stateFault_any (g t h : Int) (a : Option Addr) (n c : Nat) (y : Bool) (l : List (Int × Int)) (w : World) (hr : Row w a n l) :
    Calls Tryz.prog 11 #[.agg #[.int .i64 g, .slice a n c, .int .i64 t, .int .i64 h, .bool y]] w fun e w' => e = .returned (.int .i64 (fault g t h l)) ∧ Below w.heap.size w w' := by
  by_cases g0 : g < 0
  · have HF : Hid (fault g t h l = 1) := by show _ = _; simp [fault, g0]
    go_enter Tryz.func11, Tryz.ntmps11
    go_wp2
    go_ret
    exact ⟨ret_int HF.out.symm, (Below.refl _ _).alloc (Nat.le_refl _) _⟩
  have g0' : decide (g < 0) = false := by simpa using g0
  by_cases g1 : 1000000000 < g
  · have HF : Hid (fault g t h l = 1) := by show _ = _; simp [fault, g1]
    clear g0
    go_enter Tryz.func11, Tryz.ntmps11
    go_wp2
    go_ret
    exact ⟨ret_int HF.out.symm, (Below.refl _ _).alloc (Nat.le_refl _) _⟩
  have HF : Hid (fault g t h l = if rf 0 l = 0 then tf t h l else rf 0 l) := by show _ = _; simp [fault, g0, g1]
  have g1' : decide (1000000000 < g) = false := by simpa using g1
  clear g0 g1
  obtain ⟨hl, hn, hrow⟩ := id hr
  go_enter Tryz.func11, Tryz.ntmps11
  go_wp2
  go_loopw [3] (fun i wr => ∃ k : Nat, k ≤ n ∧ i = .int .i64 k ∧ Below (w.alloc (.cells #[.int .i64 g, .slice a n c, .int .i64 t, .int .i64 h, .bool y] 37)).heap.size (w.alloc (.cells #[.int .i64 g, .slice a n c, .int .i64 t, .int .i64 h, .bool y] 37)) wr ∧ rf 0 l = rf (ahead l k) (l.drop k)) (fun i _ => n - (intOf i).toNat)
  case atStart => exact ⟨0, Nat.zero_le _, rfl, Below.refl _ _, rfl⟩
  case round =>
    obtain ⟨k, hk, rfl, hb, hrf⟩ := hrel
    obtain ⟨c0, c1, c2, c3, c4⟩ := box5 hb
    have HK : Hid (rf 0 l = rf (ahead l k) (l.drop k)) := hrf
    have hbw := box_trans hb
    clear hrf
    by_cases hlt : k < n
    · obtain ⟨b, off, rfl, hc⟩ := hrow (by omega)
      have hc0 := cell_later hbw (hc k (by omega)).1
      have hc1 := cell_later hbw (hc k (by omega)).2
      have HD : Hid _ := rf_step l k (by omega)
      rcases bounds5 l[k].1 l[k].2 with h1 | ⟨h1, h2⟩ | ⟨h1, h2, h3⟩ | ⟨h1, h2, h3, h4⟩ | ⟨h1, h2, h3, h4⟩
      case inl =>
        clear hc
        go_wp2
        go_ret
        exact ⟨ret_int (by rw [HF.out, HK.out, HD.out, if_pos (Or.inl h1)]; rfl), hbw.alloc hbw.size _⟩
      case inr.inl =>
        have h1' : decide (l[k].1 < 1) = false := by simpa using h1
        clear hc
        go_wp2
        go_ret
        exact ⟨ret_int (by rw [HF.out, HK.out, HD.out, if_pos (Or.inr (Or.inl h2))]; rfl), hbw.alloc hbw.size _⟩
      case inr.inr.inl =>
        have h1' : decide (l[k].1 < 1) = false := by simpa using h1
        have h2' : decide (4 < l[k].1) = false := by simpa using h2
        clear hc
        go_wp2
        go_ret
        exact ⟨ret_int (by rw [HF.out, HK.out, HD.out, if_pos (Or.inr (Or.inr (Or.inl h3)))]; rfl), hbw.alloc hbw.size _⟩
      case inr.inr.inr.inl =>
        have h1' : decide (l[k].1 < 1) = false := by simpa using h1
        have h2' : decide (4 < l[k].1) = false := by simpa using h2
        have h3' : decide (l[k].2 < 1) = false := by simpa using h3
        clear hc
        go_wp2
        go_ret
        exact ⟨ret_int (by rw [HF.out, HK.out, HD.out, if_pos (Or.inr (Or.inr (Or.inr h4)))]; rfl), hbw.alloc hbw.size _⟩
      have hno : ¬ (l[k].1 < 1 ∨ 4 < l[k].1 ∨ l[k].2 < 1 ∨ 999 < l[k].2) := by omega
      have HN : Hid (rf 0 l = if l[k].1 ≤ ahead l k then 2 else rf (ahead l (k + 1)) (l.drop (k + 1))) := by show _ = _; rw [HK.out, HD.out, if_neg hno]
      have h1' : decide (l[k].1 < 1) = false := by simpa using h1
      have h2' : decide (4 < l[k].1) = false := by simpa using h2
      have h3' : decide (l[k].2 < 1) = false := by simpa using h3
      have h4' : decide (999 < l[k].2) = false := by simpa using h4
      clear hno
      rcases Nat.eq_zero_or_pos k with rfl | hpos
      · have hge : ¬ l[0].1 ≤ 0 := by omega
        simp only [Nat.zero_mul, Nat.add_zero] at hc0 hc1
        clear hc
        go_wp2
        go_quiet (fail)
        go_wp2
        go_roundw
        case rel => exact ⟨1, by omega, by go_num, below_drewN (hb.alloc hb.size _) _, by rw [HN.out, if_neg (by rw [ahead_zero]; omega)]⟩
        case measure => simp [intOf]; omega
      · obtain ⟨j, rfl⟩ : ∃ j, k = j + 1 := ⟨k - 1, by omega⟩
        have hp0 := cell_later hbw (hc j (by omega)).1
        have hb2 : Below wr.heap.size wr (wr.alloc (.cells #[.int .i64 l[j + 1].1, .int .i64 l[j + 1].2] 73)) := (Below.refl _ _).alloc (Nat.le_refl _) _
        have e1 := cell_later hb2 c1
        have e2 := cell_later hb2 hp0
        have HA : Hid (ahead l (j + 1) = l[j].1) := ahead_succ l j (by omega)
        clear hc
        by_cases hle : l[j + 1].1 ≤ l[j].1
        · go_wp2
          go_quiet (fail)
          go_wp2
          go_ret
          exact ⟨ret_int (by rw [HF.out, HN.out, HA.out, if_pos hle]; rfl), below_drewN (hbw.alloc hbw.size _) _⟩
        · have hle' : decide (l[j + 1].1 ≤ l[j].1) = false := by simpa using hle
          go_wp2
          go_quiet (fail)
          go_wp2
          go_roundw
          case rel => exact ⟨j + 1 + 1, by omega, by go_num, below_drewN (hb.alloc hb.size _) _, by rw [HN.out, HA.out, if_neg (by omega)]⟩
          case measure => simp [intOf]; omega
    · have HT : Hid (fault g t h l = tf t h l) := by show _ = _; rw [HF.out, HK.out, List.drop_of_length_le (by omega)]; rfl
      have hlt' : decide ((k : Int) < (n : Int)) = false := by simp; omega
      clear HF HK hrow
      rcases kinds8 t with rfl | rfl | rfl | rfl | rfl | rfl | rfl | ⟨k0, k1, k3, k5, k6, k7, k8⟩
      · by_cases h0 : (h == 0) = true
        · have h0n : (h != 0) = false := by simpa using h0
          go_wp2
          go_ret
          exact ⟨ret_int (by rw [HT.out]; simp [tf]; simpa using h0), hbw⟩
        · have h0n : (h != 0) = true := by simpa using h0
          go_wp2
          go_ret
          exact ⟨ret_int (by rw [HT.out]; simp [tf]; simpa using h0), hbw⟩
      · have ty : typeB 1 = true := rfl
        by_cases hk0 : (keyOf l h == 0) = true
        · go_wp2_with (first
            | (go_at_call 28; refine (typeMay_any 1 _).mono ?_; rintro e w1 ⟨rfl, rfl⟩)
            | (go_at_call 29; refine (keyOf_any g 1 h a n c y l h _ (by exact hr.later hbw)).mono ?_; rintro e w1 ⟨rfl, hb1⟩))
          go_ret
          exact ⟨ret_int (by rw [HT.out]; simp [tf, typeB]; simpa using hk0), hbw.trans (hb1.mono hbw.size)⟩
        · have hk0' : (keyOf l h == 0) = false := by simpa using hk0
          clear hk0
          go_wp2_with (first
            | (go_at_call 28; refine (typeMay_any 1 _).mono ?_; rintro e w1 ⟨rfl, rfl⟩)
            | (go_at_call 29; refine (keyOf_any g 1 h a n c y l h _ (by exact hr.later hbw)).mono ?_; rintro e w1 ⟨rfl, hb1⟩))
          go_ret
          exact ⟨ret_int (by rw [HT.out]; simp [tf, typeB]; simpa using hk0'), hbw.trans (hb1.mono hbw.size)⟩
      · have ty : typeB 3 = true := rfl
        by_cases hk0 : (keyOf l h == 0) = true
        · go_wp2_with (first
            | (go_at_call 28; refine (typeMay_any 3 _).mono ?_; rintro e w1 ⟨rfl, rfl⟩)
            | (go_at_call 29; refine (keyOf_any g 3 h a n c y l h _ (by exact hr.later hbw)).mono ?_; rintro e w1 ⟨rfl, hb1⟩))
          go_ret
          exact ⟨ret_int (by rw [HT.out]; simp [tf, typeB]; simpa using hk0), hbw.trans (hb1.mono hbw.size)⟩
        · have hk0' : (keyOf l h == 0) = false := by simpa using hk0
          clear hk0
          go_wp2_with (first
            | (go_at_call 28; refine (typeMay_any 3 _).mono ?_; rintro e w1 ⟨rfl, rfl⟩)
            | (go_at_call 29; refine (keyOf_any g 3 h a n c y l h _ (by exact hr.later hbw)).mono ?_; rintro e w1 ⟨rfl, hb1⟩))
          go_ret
          exact ⟨ret_int (by rw [HT.out]; simp [tf, typeB]; simpa using hk0'), hbw.trans (hb1.mono hbw.size)⟩
      · have ty : typeB 5 = true := rfl
        by_cases hk0 : (keyOf l h == 0) = true
        · go_wp2_with (first
            | (go_at_call 28; refine (typeMay_any 5 _).mono ?_; rintro e w1 ⟨rfl, rfl⟩)
            | (go_at_call 29; refine (keyOf_any g 5 h a n c y l h _ (by exact hr.later hbw)).mono ?_; rintro e w1 ⟨rfl, hb1⟩))
          go_ret
          exact ⟨ret_int (by rw [HT.out]; simp [tf, typeB]; simpa using hk0), hbw.trans (hb1.mono hbw.size)⟩
        · have hk0' : (keyOf l h == 0) = false := by simpa using hk0
          clear hk0
          go_wp2_with (first
            | (go_at_call 28; refine (typeMay_any 5 _).mono ?_; rintro e w1 ⟨rfl, rfl⟩)
            | (go_at_call 29; refine (keyOf_any g 5 h a n c y l h _ (by exact hr.later hbw)).mono ?_; rintro e w1 ⟨rfl, hb1⟩))
          go_ret
          exact ⟨ret_int (by rw [HT.out]; simp [tf, typeB]; simpa using hk0'), hbw.trans (hb1.mono hbw.size)⟩
      · have ty : typeB 6 = true := rfl
        by_cases hk0 : (keyOf l h == 0) = true
        · go_wp2_with (first
            | (go_at_call 28; refine (typeMay_any 6 _).mono ?_; rintro e w1 ⟨rfl, rfl⟩)
            | (go_at_call 29; refine (keyOf_any g 6 h a n c y l h _ (by exact hr.later hbw)).mono ?_; rintro e w1 ⟨rfl, hb1⟩))
          go_ret
          exact ⟨ret_int (by rw [HT.out]; simp [tf, typeB]; simpa using hk0), hbw.trans (hb1.mono hbw.size)⟩
        · have hk0' : (keyOf l h == 0) = false := by simpa using hk0
          clear hk0
          go_wp2_with (first
            | (go_at_call 28; refine (typeMay_any 6 _).mono ?_; rintro e w1 ⟨rfl, rfl⟩)
            | (go_at_call 29; refine (keyOf_any g 6 h a n c y l h _ (by exact hr.later hbw)).mono ?_; rintro e w1 ⟨rfl, hb1⟩))
          go_ret
          exact ⟨ret_int (by rw [HT.out]; simp [tf, typeB]; simpa using hk0'), hbw.trans (hb1.mono hbw.size)⟩
      · have ty : typeB 7 = true := rfl
        by_cases h0 : (h == 0) = true
        · have h0n : (h != 0) = false := by simpa using h0
          have h0i : h = 0 := by simpa using h0
          by_cases hz : n = 0
          · have hz' : ((n : Int) == 0) = true := by simpa using hz
            have HZ : Hid (tf 7 h l = 2) := by show _ = _; simp [tf, typeB, hl, hz]
            clear h0i hz
            go_wp2_with (go_at_call 28; refine (typeMay_any 7 _).mono ?_; rintro e w1 ⟨rfl, rfl⟩)
            go_ret
            exact ⟨ret_int (by rw [HT.out, HZ.out]), hbw⟩
          · have hz' : ((n : Int) == 0) = false := by simpa using hz
            have HZ : Hid (tf 7 h l = 0) := by show _ = _; simp [tf, typeB, hl, hz, h0i]
            clear h0i hz
            go_wp2_with (go_at_call 28; refine (typeMay_any 7 _).mono ?_; rintro e w1 ⟨rfl, rfl⟩)
            go_ret
            exact ⟨ret_int (by rw [HT.out, HZ.out]), hbw⟩
        · have h0n : (h != 0) = true := by simpa using h0
          have HZ : Hid (tf 7 h l = 2) := by show _ = _; simp [tf, typeB]; intro h1; simp [h1] at h0
          go_wp2_with (go_at_call 28; refine (typeMay_any 7 _).mono ?_; rintro e w1 ⟨rfl, rfl⟩)
          go_ret
          exact ⟨ret_int (by rw [HT.out, HZ.out]), hbw⟩
      · have ty : typeB 8 = true := rfl
        by_cases h0 : (h == 0) = true
        · have h0n : (h != 0) = false := by simpa using h0
          have h0i : h = 0 := by simpa using h0
          by_cases hz : n = 0
          · have hz' : ((n : Int) == 0) = true := by simpa using hz
            have HZ : Hid (tf 8 h l = 2) := by show _ = _; simp [tf, typeB, hl, hz]
            clear h0i hz
            go_wp2_with (go_at_call 28; refine (typeMay_any 8 _).mono ?_; rintro e w1 ⟨rfl, rfl⟩)
            go_ret
            exact ⟨ret_int (by rw [HT.out, HZ.out]), hbw⟩
          · have hz' : ((n : Int) == 0) = false := by simpa using hz
            have HZ : Hid (tf 8 h l = 0) := by show _ = _; simp [tf, typeB, hl, hz, h0i]
            clear h0i hz
            go_wp2_with (go_at_call 28; refine (typeMay_any 8 _).mono ?_; rintro e w1 ⟨rfl, rfl⟩)
            go_ret
            exact ⟨ret_int (by rw [HT.out, HZ.out]), hbw⟩
        · have h0n : (h != 0) = true := by simpa using h0
          have HZ : Hid (tf 8 h l = 2) := by show _ = _; simp [tf, typeB]; intro h1; simp [h1] at h0
          go_wp2_with (go_at_call 28; refine (typeMay_any 8 _).mono ?_; rintro e w1 ⟨rfl, rfl⟩)
          go_ret
          exact ⟨ret_int (by rw [HT.out, HZ.out]), hbw⟩
      · have ty : typeB t = false := by simp [typeB, k1, k3, k5, k6, k7, k8]
        have HZ : Hid (tf t h l = 2) := by show _ = _; simp only [beq_eq_false_iff_ne] at k0; simp [tf, k0, ty]
        go_wp2_with (go_at_call 28; refine (typeMay_any t _).mono ?_; rintro e w1 ⟨rfl, rfl⟩)
        go_ret
        exact ⟨ret_int (by rw [HT.out, HZ.out]), hbw⟩
end Go.Proofs.YtfkmaiiainbcbaaGreatDoor
