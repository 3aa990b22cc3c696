/- What code.Type, hold.held and hold.Check answer, for every state. -/
import Derived.Test.YtfkmaiiainbcbaaGreatDoorSFault
import Derived.Test.YtfkmaiiainbcbaaGreatDoorFacts
namespace Go.Proofs.YtfkmaiiainbcbaaGreatDoor
open Go.ChangeShapes Go.WideShapes Go.ChangeAt Go.RowKit

/-- An error by its number; 0: none. -/
def errV (f : Int) : Value := if f = 0 then .nilIface else .iface 58 (.int .i64 f)

theorem type_any (t : Int) (w : World) : Calls Tryz.prog 47 #[.int .i64 t] w fun e w' => e = .returned (.bool (typeB t)) ∧ w' = w := by
  rcases kinds8 t with rfl | rfl | rfl | rfl | rfl | rfl | rfl | ⟨k0, k1, k3, k5, k6, k7, k8⟩
  case inr.inr.inr.inr.inr.inr.inr =>
    have HF : Hid (typeB t = false) := by show _ = _; simp [typeB, k1, k3, k5, k6, k7, k8]
    go_enter Tryz.func47, Tryz.ntmps47
    go_wp2
    go_ret
    exact ⟨ret_bool HF.out.symm, rfl⟩
  all_goals
    go_enter Tryz.func47, Tryz.ntmps47
    go_wp2
    go_ret
    exact ⟨rfl, rfl⟩

/-- Do type and holder fit? -/
def heldB (t h : Int) (l : List (Int × Int)) : Bool := tf t h l == 0
theorem heldB_0 (h : Int) (l : List (Int × Int)) : heldB 0 h l = (h == 0) := by
  by_cases h0 : h = 0 <;> simp [heldB, tf, h0]
theorem heldB_no {t : Int} (h : Int) (l : List (Int × Int)) (k0 : (t == 0) = false) (ty : typeB t = false) : heldB t h l = false := by
  simp only [beq_eq_false_iff_ne] at k0; simp [heldB, tf, k0, ty]
theorem heldB_all {t : Int} (h : Int) (l : List (Int × Int)) (ht : t = 7 ∨ t = 8) : heldB t h l = (h == 0 && decide (0 < l.length)) := by
  rcases ht with rfl | rfl <;> by_cases h0 : h = 0 <;> by_cases hl : l.length = 0 <;> simp_all [heldB, tf, typeB] <;> (cases l <;> simp_all)
theorem heldB_one {t : Int} (h : Int) (l : List (Int × Int)) (ht : t = 1 ∨ t = 3 ∨ t = 5 ∨ t = 6) : heldB t h l = (keyOf l h != 0) := by
  rcases ht with rfl | rfl | rfl | rfl <;> by_cases h0 : keyOf l h = 0 <;> simp [heldB, tf, typeB, h0]

set_option maxHeartbeats 2000000 in
theorem held_any (g t h : Int) (a : Option Addr) (n c : Nat) (y : Bool) (l : List (Int × Int)) (w : World) (hr : Row w a n l) :
    Calls Tryz.prog 32 #[.agg #[.int .i64 g, .slice a n c, .int .i64 t, .int .i64 h, .bool y]] w fun e w' => e = .returned (.bool (heldB t h l)) ∧ Below w.heap.size w w' := by
  rcases kinds8 t with rfl | k | k | k | k | k | k | ⟨k0, k1, k3, k5, k6, k7, k8⟩
  case inl =>
    have HF : Hid _ := heldB_0 h l
    go_enter Tryz.func32, Tryz.ntmps32
    go_wp2
    go_ret
    exact ⟨ret_bool HF.out.symm, (Below.refl _ _).alloc (Nat.le_refl _) _⟩
  case inr.inr.inr.inr.inr.inr.inr =>
    have ty : typeB t = false := by simp [typeB, k1, k3, k5, k6, k7, k8]
    have HF : Hid _ := heldB_no h l k0 ty
    go_enter Tryz.func32, Tryz.ntmps32
    go_wp2_with (go_at_call 47; refine (type_any t _).mono ?_; rintro e w1 ⟨rfl, rfl⟩)
    go_ret
    exact ⟨ret_bool HF.out.symm, (Below.refl _ _).alloc (Nat.le_refl _) _⟩
  case inr.inl =>
    subst k
    have ty : typeB 1 = true := rfl
    have al : allB 1 = false := rfl
    have k0 : ((1 : Int) == 0) = false := rfl
    have HF : Hid _ := heldB_one (t := 1) h l (by decide)
    go_enter Tryz.func32, Tryz.ntmps32
    go_wp2_with (first
      | (go_at_call 47; refine (type_any 1 _).mono ?_; rintro e w1 ⟨rfl, rfl⟩)
      | (go_at_call 48; refine (all_any g 1 h a n c y _).mono ?_; rintro e w1 ⟨rfl, hb1⟩; obtain ⟨c0, c1, c2, c3, c4⟩ := box5 hb1)
      | (go_at_call 49; refine (key_any g 1 h a n c y l h _ (by exact hr.later (box_trans hb1))).mono ?_; rintro e w2 ⟨rfl, hb2⟩))
    go_ret
    exact ⟨ret_bool HF.out.symm, (box_trans hb1).trans (hb2.mono (box_trans hb1).size)⟩
  case inr.inr.inl =>
    subst k
    have ty : typeB 3 = true := rfl
    have al : allB 3 = false := rfl
    have k0 : ((3 : Int) == 0) = false := rfl
    have HF : Hid _ := heldB_one (t := 3) h l (by decide)
    go_enter Tryz.func32, Tryz.ntmps32
    go_wp2_with (first
      | (go_at_call 47; refine (type_any 3 _).mono ?_; rintro e w1 ⟨rfl, rfl⟩)
      | (go_at_call 48; refine (all_any g 3 h a n c y _).mono ?_; rintro e w1 ⟨rfl, hb1⟩; obtain ⟨c0, c1, c2, c3, c4⟩ := box5 hb1)
      | (go_at_call 49; refine (key_any g 3 h a n c y l h _ (by exact hr.later (box_trans hb1))).mono ?_; rintro e w2 ⟨rfl, hb2⟩))
    go_ret
    exact ⟨ret_bool HF.out.symm, (box_trans hb1).trans (hb2.mono (box_trans hb1).size)⟩
  case inr.inr.inr.inl =>
    subst k
    have ty : typeB 5 = true := rfl
    have al : allB 5 = false := rfl
    have k0 : ((5 : Int) == 0) = false := rfl
    have HF : Hid _ := heldB_one (t := 5) h l (by decide)
    go_enter Tryz.func32, Tryz.ntmps32
    go_wp2_with (first
      | (go_at_call 47; refine (type_any 5 _).mono ?_; rintro e w1 ⟨rfl, rfl⟩)
      | (go_at_call 48; refine (all_any g 5 h a n c y _).mono ?_; rintro e w1 ⟨rfl, hb1⟩; obtain ⟨c0, c1, c2, c3, c4⟩ := box5 hb1)
      | (go_at_call 49; refine (key_any g 5 h a n c y l h _ (by exact hr.later (box_trans hb1))).mono ?_; rintro e w2 ⟨rfl, hb2⟩))
    go_ret
    exact ⟨ret_bool HF.out.symm, (box_trans hb1).trans (hb2.mono (box_trans hb1).size)⟩
  case inr.inr.inr.inr.inl =>
    subst k
    have ty : typeB 6 = true := rfl
    have al : allB 6 = false := rfl
    have k0 : ((6 : Int) == 0) = false := rfl
    have HF : Hid _ := heldB_one (t := 6) h l (by decide)
    go_enter Tryz.func32, Tryz.ntmps32
    go_wp2_with (first
      | (go_at_call 47; refine (type_any 6 _).mono ?_; rintro e w1 ⟨rfl, rfl⟩)
      | (go_at_call 48; refine (all_any g 6 h a n c y _).mono ?_; rintro e w1 ⟨rfl, hb1⟩; obtain ⟨c0, c1, c2, c3, c4⟩ := box5 hb1)
      | (go_at_call 49; refine (key_any g 6 h a n c y l h _ (by exact hr.later (box_trans hb1))).mono ?_; rintro e w2 ⟨rfl, hb2⟩))
    go_ret
    exact ⟨ret_bool HF.out.symm, (box_trans hb1).trans (hb2.mono (box_trans hb1).size)⟩
  case inr.inr.inr.inr.inr.inl =>
    subst k
    have ty : typeB 7 = true := rfl
    have al : allB 7 = true := rfl
    have k0 : ((7 : Int) == 0) = false := rfl
    have hl := hr.1
    by_cases h0 : (h == 0) = true
    · have HF : Hid (heldB 7 h l = decide (0 < l.length)) := by show _ = _; rw [heldB_all h l (by decide), h0]; rfl
      go_enter Tryz.func32, Tryz.ntmps32
      go_wp2_with (first
        | (go_at_call 47; refine (type_any 7 _).mono ?_; rintro e w1 ⟨rfl, rfl⟩)
        | (go_at_call 48; refine (all_any g 7 h a n c y _).mono ?_; rintro e w1 ⟨rfl, hb1⟩; obtain ⟨c0, c1, c2, c3, c4⟩ := box5 hb1))
      go_ret
      exact ⟨ret_bool (by rw [HF.out, decide_eq_decide]; omega), box_trans hb1⟩
    · have h0' : (h == 0) = false := by simpa using h0
      have HF : Hid (heldB 7 h l = false) := by show _ = _; rw [heldB_all h l (by decide), h0']; rfl
      clear h0
      go_enter Tryz.func32, Tryz.ntmps32
      go_wp2_with (first
        | (go_at_call 47; refine (type_any 7 _).mono ?_; rintro e w1 ⟨rfl, rfl⟩)
        | (go_at_call 48; refine (all_any g 7 h a n c y _).mono ?_; rintro e w1 ⟨rfl, hb1⟩; obtain ⟨c0, c1, c2, c3, c4⟩ := box5 hb1))
      go_ret
      exact ⟨ret_bool HF.out.symm, box_trans hb1⟩
  case inr.inr.inr.inr.inr.inr.inl =>
    subst k
    have ty : typeB 8 = true := rfl
    have al : allB 8 = true := rfl
    have k0 : ((8 : Int) == 0) = false := rfl
    have hl := hr.1
    by_cases h0 : (h == 0) = true
    · have HF : Hid (heldB 8 h l = decide (0 < l.length)) := by show _ = _; rw [heldB_all h l (by decide), h0]; rfl
      go_enter Tryz.func32, Tryz.ntmps32
      go_wp2_with (first
        | (go_at_call 47; refine (type_any 8 _).mono ?_; rintro e w1 ⟨rfl, rfl⟩)
        | (go_at_call 48; refine (all_any g 8 h a n c y _).mono ?_; rintro e w1 ⟨rfl, hb1⟩; obtain ⟨c0, c1, c2, c3, c4⟩ := box5 hb1))
      go_ret
      exact ⟨ret_bool (by rw [HF.out, decide_eq_decide]; omega), box_trans hb1⟩
    · have h0' : (h == 0) = false := by simpa using h0
      have HF : Hid (heldB 8 h l = false) := by show _ = _; rw [heldB_all h l (by decide), h0']; rfl
      clear h0
      go_enter Tryz.func32, Tryz.ntmps32
      go_wp2_with (first
        | (go_at_call 47; refine (type_any 8 _).mono ?_; rintro e w1 ⟨rfl, rfl⟩)
        | (go_at_call 48; refine (all_any g 8 h a n c y _).mono ?_; rintro e w1 ⟨rfl, hb1⟩; obtain ⟨c0, c1, c2, c3, c4⟩ := box5 hb1))
      go_ret
      exact ⟨ret_bool HF.out.symm, box_trans hb1⟩

theorem tf_02 (t h : Int) (l : List (Int × Int)) : tf t h l = if heldB t h l = true then 0 else 2 := by
  unfold heldB tf
  repeat (split <;> try simp_all)

set_option maxHeartbeats 2000000 in
theorem check_any (g t h : Int) (a : Option Addr) (n c : Nat) (y : Bool) (l : List (Int × Int)) (w : World) (hr : Row w a n l) :
    Calls Tryz.prog 18 #[.agg #[.int .i64 g, .slice a n c, .int .i64 t, .int .i64 h, .bool y]] w fun e w' => e = .returned (errV (fault g t h l)) ∧ Below w.heap.size w w' := by
  have ret_err : ∀ {f f' : Int} {v : Value}, v = errV f' → f = f' → Ending.returned v = .returned (errV f) := by intro f f' v hv hf; rw [hf, hv]
  by_cases g0 : g < 0
  · have HF : Hid (fault g t h l = 1) := by show _ = _; simp [fault, g0]
    go_enter Tryz.func18, Tryz.ntmps18
    go_wp2
    go_ret
    exact ⟨ret_err rfl HF.out, (Below.refl _ _).alloc (Nat.le_refl _) _⟩
  have g0' : decide (g < 0) = false := by simpa using g0
  by_cases g1 : 1000000000 < g
  · have HF : Hid (fault g t h l = 1) := by show _ = _; simp [fault, g1]
    clear g0
    go_enter Tryz.func18, Tryz.ntmps18
    go_wp2
    go_ret
    exact ⟨ret_err rfl HF.out, (Below.refl _ _).alloc (Nat.le_refl _) _⟩
  have HF : Hid (fault g t h l = if rf 0 l = 0 then tf t h l else rf 0 l) := by show _ = _; simp [fault, g0, g1]
  have g1' : decide (1000000000 < g) = false := by simpa using g1
  clear g0 g1
  have HE : Hid (∀ {f f' : Int} {v : Value}, v = errV f' → f = f' → Ending.returned v = .returned (errV f)) := ret_err
  clear ret_err
  obtain ⟨hl, hn, hrow⟩ := id hr
  go_enter Tryz.func18, Tryz.ntmps18
  go_wp2
  go_loopw [3, 18] (fun u i wr => ∃ k : Nat, k ≤ n ∧ u = .int .i64 (ahead l k) ∧ i = .int .i64 k ∧ Below (w.alloc (.cells #[.int .i64 g, .slice a n c, .int .i64 t, .int .i64 h, .bool y] 37)).heap.size (w.alloc (.cells #[.int .i64 g, .slice a n c, .int .i64 t, .int .i64 h, .bool y] 37)) wr ∧ rf 0 l = rf (ahead l k) (l.drop k)) (fun _ i _ => n - (intOf i).toNat)
  case atStart => exact ⟨0, Nat.zero_le _, rfl, rfl, Below.refl _ _, rfl⟩
  case round =>
    obtain ⟨k, hk, rfl, rfl, hb, hrf⟩ := hrel
    have HK : Hid (rf 0 l = rf (ahead l k) (l.drop k)) := hrf
    have hbw := box_trans hb
    clear hrf
    by_cases hlt : k < n
    · obtain ⟨b, off, rfl, hc⟩ := hrow (by omega)
      have hc0 := cell_later hbw (hc k (by omega)).1
      have hc1 := cell_later hbw (hc k (by omega)).2
      have HD : Hid _ := rf_step l k (by omega)
      have HA : Hid _ := ahead_succ l k (by omega)
      clear hc hrow hr
      rcases bounds5 l[k].1 l[k].2 with h1 | ⟨h1, h2⟩ | ⟨h1, h2, h3⟩ | ⟨h1, h2, h3, h4⟩ | ⟨h1, h2, h3, h4⟩
      case inl =>
        go_wp2
        go_ret
        exact ⟨HE.out (f' := 1) rfl (by rw [HF.out, HK.out, HD.out, if_pos (Or.inl h1)] <;> rfl), hbw.alloc hbw.size _⟩
      case inr.inl =>
        have h1' : decide (l[k].1 < 1) = false := by simpa using h1
        go_wp2
        go_ret
        exact ⟨HE.out (f' := 1) rfl (by rw [HF.out, HK.out, HD.out, if_pos (Or.inr (Or.inl h2))] <;> rfl), hbw.alloc hbw.size _⟩
      case inr.inr.inl =>
        have h1' : decide (l[k].1 < 1) = false := by simpa using h1
        have h2' : decide (4 < l[k].1) = false := by simpa using h2
        go_wp2
        go_ret
        exact ⟨HE.out (f' := 1) rfl (by rw [HF.out, HK.out, HD.out, if_pos (Or.inr (Or.inr (Or.inl h3)))] <;> rfl), hbw.alloc hbw.size _⟩
      case inr.inr.inr.inl =>
        have h1' : decide (l[k].1 < 1) = false := by simpa using h1
        have h2' : decide (4 < l[k].1) = false := by simpa using h2
        have h3' : decide (l[k].2 < 1) = false := by simpa using h3
        go_wp2
        go_ret
        exact ⟨HE.out (f' := 1) rfl (by rw [HF.out, HK.out, HD.out, if_pos (Or.inr (Or.inr (Or.inr h4)))] <;> rfl), hbw.alloc hbw.size _⟩
      have hno : ¬ (l[k].1 < 1 ∨ 4 < l[k].1 ∨ l[k].2 < 1 ∨ 999 < l[k].2) := by omega
      have HN : Hid (rf 0 l = if l[k].1 ≤ ahead l k then 2 else rf (ahead l (k + 1)) (l.drop (k + 1))) := by show _ = _; rw [HK.out, HD.out, if_neg hno]
      have h1' : decide (l[k].1 < 1) = false := by simpa using h1
      have h2' : decide (4 < l[k].1) = false := by simpa using h2
      have h3' : decide (l[k].2 < 1) = false := by simpa using h3
      have h4' : decide (999 < l[k].2) = false := by simpa using h4
      clear hno
      by_cases hle : l[k].1 ≤ ahead l k
      · go_wp2
        go_ret
        exact ⟨HE.out (f' := 2) rfl (by rw [HF.out, HN.out, if_pos hle] <;> rfl), hbw.alloc hbw.size _⟩
      · have hle' : decide (l[k].1 ≤ ahead l k) = false := by simpa using hle
        go_wp2
        go_roundw
        case rel => exact ⟨k + 1, by omega, by rw [HA.out], by go_num, hb.alloc hb.size _, by rw [HN.out, if_neg hle]⟩
        case measure => simp [intOf]; omega
    · have HT : Hid (fault g t h l = tf t h l) := by show _ = _; rw [HF.out, HK.out, List.drop_of_length_le (by omega)]; rfl
      have hlt' : decide ((k : Int) < (n : Int)) = false := by simp; omega
      obtain ⟨c0, c1, c2, c3, c4⟩ := box5 hb
      clear HF HK hrow
      by_cases hh : heldB t h l = true
      · go_wp2_with (go_at_call 32; refine (held_any g t h a n c y l _ (by exact hr.later hbw)).mono ?_; rintro e w1 ⟨rfl, hb1⟩)
        go_ret
        exact ⟨HE.out (f' := 0) rfl (by rw [HT.out, tf_02, if_pos hh]), hbw.trans (hb1.mono hbw.size)⟩
      · have hh' : heldB t h l = false := by simpa using hh
        clear hh
        go_wp2_with (go_at_call 32; refine (held_any g t h a n c y l _ (by exact hr.later hbw)).mono ?_; rintro e w1 ⟨rfl, hb1⟩)
        go_ret
        exact ⟨HE.out (f' := 2) rfl (by rw [HT.out, tf_02, if_neg (by simp [hh'])]), hbw.trans (hb1.mono hbw.size)⟩
end Go.Proofs.YtfkmaiiainbcbaaGreatDoor
