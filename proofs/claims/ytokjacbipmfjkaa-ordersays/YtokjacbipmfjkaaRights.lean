/- What hold.All, hold.Holds, rights.May and the document's own Holds and May answer, for every state and everybody. -/
import Derived.Test.YtokjacbipmfjkaaKey
namespace Go.Proofs.Ytokjacbipmfjkaa
open Go.ChangeShapes Go.WideShapes Go.ChangeAt Go.RowKit

/-- Do all who are known hold it? -/
def allB (t : Int) : Bool := t == 7 || t == 8
/-- Does somebody hold it? -/
def holdsB (t h : Int) (l : List (Int × Int)) (who : Int) : Bool := if allB t then keyOf l who != 0 else t != 0 && h == who
/-- May somebody read, or write? -/
def mayB (t h : Int) (l : List (Int × Int)) (who : Int) (write : Bool) : Bool :=
  if t = 0 then true else if t = 1 then !write || holdsB t h l who else if t = 3 then holdsB t h l who
  else if t = 5 ∨ t = 7 then !write || keyOf l who != 0 else if t = 6 ∨ t = 8 then keyOf l who != 0 else false

theorem box_trans {w w1 : World} {o : Obj} (hb : Below (w.alloc o).heap.size (w.alloc o) w1) : Below w.heap.size w w1 :=
  ((Below.refl _ _).alloc (Nat.le_refl _) _).trans (hb.mono (by simp))

/-- The five cells of a boxed state, behind a call. -/
theorem box5 {w w1 : World} {v0 v1 v2 v3 v4 : Value} {T : TypeId} (hb : Below (w.alloc (.cells #[v0, v1, v2, v3, v4] T)).heap.size (w.alloc (.cells #[v0, v1, v2, v3, v4] T)) w1) :
    w1.cell? ⟨w.heap.size, 0, none⟩ = some v0 ∧ w1.cell? ⟨w.heap.size, 1, none⟩ = some v1 ∧ w1.cell? ⟨w.heap.size, 2, none⟩ = some v2 ∧ w1.cell? ⟨w.heap.size, 3, none⟩ = some v3 ∧ w1.cell? ⟨w.heap.size, 4, none⟩ = some v4 := by
  refine ⟨?_, ?_, ?_, ?_, ?_⟩ <;> (refine cell_later hb ?_; simp [go_sem])

theorem light_any (g t h : Int) (a : Option Addr) (n c : Nat) (y : Bool) (w : World) (hn : n ≤ 9223372036854775807) :
    Calls Try.prog 9 #[.agg #[.int .i64 g, .slice a n c, .int .i64 t, .int .i64 h, .bool y]] w fun e w' => e = .returned (.bool (decide (n ≤ 6))) ∧ Below w.heap.size w w' := by
  go_enter Try.func9, Try.ntmps9
  go_wp2
  go_ret
  exact ⟨ret_bool (by rw [decide_eq_decide]; omega), (Below.refl _ _).alloc (Nat.le_refl _) _⟩

theorem all_any (g t h : Int) (a : Option Addr) (n c : Nat) (y : Bool) (w : World) :
    Calls Try.prog 25 #[.agg #[.int .i64 g, .slice a n c, .int .i64 t, .int .i64 h, .bool y]] w fun e w' => e = .returned (.bool (allB t)) ∧ Below w.heap.size w w' := by
  by_cases h7 : (t == 7) = true
  · have hf : allB t = true := by simp [allB, h7]
    have HF : Hid (allB t = true) := hf
    clear hf
    go_enter Try.func25, Try.ntmps25
    go_wp2
    go_ret
    exact ⟨ret_bool HF.out.symm, (Below.refl _ _).alloc (Nat.le_refl _) _⟩
  · have h7' : (t == 7) = false := by simpa using h7
    have HF : Hid (allB t = (t == 8)) := by show _ = _; simp [allB, h7']
    go_enter Try.func25, Try.ntmps25
    go_wp2
    go_ret
    exact ⟨ret_bool HF.out.symm, (Below.refl _ _).alloc (Nat.le_refl _) _⟩

set_option maxHeartbeats 400000 in
theorem holds_any (g t h : Int) (a : Option Addr) (n c : Nat) (y : Bool) (l : List (Int × Int)) (who : Int) (w : World) (hr : Row w a n l) :
    Calls Try.prog 26 #[.agg #[.int .i64 g, .slice a n c, .int .i64 t, .int .i64 h, .bool y], .int .i64 who] w fun e w' => e = .returned (.bool (holdsB t h l who)) ∧ Below w.heap.size w w' := by
  by_cases h7 : allB t = true
  · have HF : Hid (holdsB t h l who = (keyOf l who != 0)) := by show _ = _; simp [holdsB, h7]
    go_enter Try.func26, Try.ntmps26
    go_wp2_with (first
      | (go_at_call 25; refine (all_any g t h a n c y _).mono ?_; rintro e w1 ⟨rfl, hb1⟩; obtain ⟨c0, c1, c2, c3, c4⟩ := box5 hb1)
      | (go_at_call 24; refine (key_any g t h a n c y l who _ (by exact hr.later (box_trans hb1))).mono ?_; rintro e w2 ⟨rfl, hb2⟩))
    go_ret
    exact ⟨ret_bool HF.out.symm, (box_trans hb1).trans (hb2.mono (box_trans hb1).size)⟩
  · have h7' : allB t = false := by simpa using h7
    clear h7
    by_cases h0 : t = 0
    · subst h0
      have HF : Hid (holdsB 0 h l who = false) := by show _ = _; simp [holdsB, h7']
      go_enter Try.func26, Try.ntmps26
      go_wp2_with (go_at_call 25; refine (all_any g 0 h a n c y _).mono ?_; rintro e w1 ⟨rfl, hb1⟩; obtain ⟨c0, c1, c2, c3, c4⟩ := box5 hb1)
      go_ret
      exact ⟨ret_bool HF.out.symm, box_trans hb1⟩
    · have HF : Hid (holdsB t h l who = (h == who)) := by show _ = _; simp [holdsB, h7', h0]
      have h0' : (t != 0) = true := by simpa using h0
      go_enter Try.func26, Try.ntmps26
      go_wp2_with (go_at_call 25; refine (all_any g t h a n c y _).mono ?_; rintro e w1 ⟨rfl, hb1⟩; obtain ⟨c0, c1, c2, c3, c4⟩ := box5 hb1)
      go_ret
      exact ⟨ret_bool HF.out.symm, box_trans hb1⟩

/-- The document's own Holds. -/
def rholdsB (t h : Int) (l : List (Int × Int)) (who : Int) : Bool := if t = 7 ∨ t = 8 then decide (0 < keyOf l who) else decide (0 < t) && h == who
/-- The document's own May. -/
def rmayB (t h : Int) (l : List (Int × Int)) (who : Int) (write : Bool) : Bool :=
  if t = 0 then true else if t = 1 then rholdsB t h l who || !write else if t = 3 then rholdsB t h l who
  else if t = 5 ∨ t = 7 then decide (0 < keyOf l who) || !write else decide (0 < keyOf l who)

set_option maxHeartbeats 400000 in
theorem rholds_any (g t h : Int) (a : Option Addr) (n c : Nat) (y : Bool) (l : List (Int × Int)) (who : Int) (w : World) (hr : Row w a n l) :
    Calls Try.prog 37 #[.agg #[.int .i64 g, .slice a n c, .int .i64 t, .int .i64 h, .bool y], .int .i64 who] w fun e w' => e = .returned (.bool (rholdsB t h l who)) ∧ Below w.heap.size w w' := by
  by_cases h7 : t = 7
  · subst h7
    have HF : Hid (rholdsB 7 h l who = decide (0 < keyOf l who)) := by show _ = _; simp [rholdsB]
    go_enter Try.func37, Try.ntmps37
    go_wp2_with (go_at_call 28; refine (keyOf_any g 7 h a n c y l who _ (by exact hr.later ((Below.refl _ _).alloc (Nat.le_refl _) _))).mono ?_; rintro e w1 ⟨rfl, hb1⟩)
    go_ret
    exact ⟨ret_bool HF.out.symm, box_trans hb1⟩
  by_cases h8 : t = 8
  · subst h8
    have HF : Hid (rholdsB 8 h l who = decide (0 < keyOf l who)) := by show _ = _; simp [rholdsB]
    go_enter Try.func37, Try.ntmps37
    go_wp2_with (go_at_call 28; refine (keyOf_any g 8 h a n c y l who _ (by exact hr.later ((Below.refl _ _).alloc (Nat.le_refl _) _))).mono ?_; rintro e w1 ⟨rfl, hb1⟩)
    go_ret
    exact ⟨ret_bool HF.out.symm, box_trans hb1⟩
  have b7 : (t == 7) = false := by simpa using h7
  have b8 : (t == 8) = false := by simpa using h8
  by_cases h0 : 0 < t
  · have HF : Hid (rholdsB t h l who = (h == who)) := by show _ = _; simp [rholdsB, h7, h8, h0]
    clear h7 h8
    go_enter Try.func37, Try.ntmps37
    go_wp2
    go_ret
    exact ⟨ret_bool HF.out.symm, (Below.refl _ _).alloc (Nat.le_refl _) _⟩
  · have h0' : decide (0 < t) = false := by simpa using h0
    have HF : Hid (rholdsB t h l who = false) := by show _ = _; simp [rholdsB, h7, h8, h0']
    clear h7 h8
    go_enter Try.func37, Try.ntmps37
    go_wp2
    go_ret
    exact ⟨ret_bool HF.out.symm, (Below.refl _ _).alloc (Nat.le_refl _) _⟩

/-- Eight kinds of types. -/
theorem kinds8 (t : Int) : t = 0 ∨ t = 1 ∨ t = 3 ∨ t = 5 ∨ t = 6 ∨ t = 7 ∨ t = 8 ∨ ((t == 0) = false ∧ (t == 1) = false ∧ (t == 3) = false ∧ (t == 5) = false ∧ (t == 6) = false ∧ (t == 7) = false ∧ (t == 8) = false) := by
  simp only [beq_eq_false_iff_ne]; omega

set_option maxHeartbeats 1000000 in
theorem may_any (g t h : Int) (a : Option Addr) (n c : Nat) (y : Bool) (l : List (Int × Int)) (who : Int) (wr : Bool) (w : World) (hr : Row w a n l) :
    Calls Try.prog 19 #[.agg #[.int .i64 g, .slice a n c, .int .i64 t, .int .i64 h, .bool y], .int .i64 who, .bool wr] w fun e w' => e = .returned (.bool (mayB t h l who wr)) ∧ Below w.heap.size w w' := by
  rcases kinds8 t with rfl | rfl | rfl | rfl | rfl | rfl | rfl | ⟨k0, k1, k3, k5, k6, k7, k8⟩
  · go_enter Try.func19, Try.ntmps19
    go_wp2
    go_ret
    exact ⟨rfl, (Below.refl _ _).alloc (Nat.le_refl _) _⟩
  · cases wr
    · go_enter Try.func19, Try.ntmps19
      go_wp2
      go_ret
      exact ⟨rfl, (Below.refl _ _).alloc (Nat.le_refl _) _⟩
    · go_enter Try.func19, Try.ntmps19
      go_wp2_with (go_at_call 26; refine (holds_any g 1 h a n c y l who _ (by exact hr.later ((Below.refl _ _).alloc (Nat.le_refl _) _))).mono ?_; rintro e w1 ⟨rfl, hb1⟩)
      go_ret
      exact ⟨ret_bool (by simp [mayB]), box_trans hb1⟩
  · go_enter Try.func19, Try.ntmps19
    go_wp2_with (go_at_call 26; refine (holds_any g 3 h a n c y l who _ (by exact hr.later ((Below.refl _ _).alloc (Nat.le_refl _) _))).mono ?_; rintro e w1 ⟨rfl, hb1⟩)
    go_ret
    exact ⟨ret_bool (by simp [mayB]), box_trans hb1⟩
  · cases wr
    · go_enter Try.func19, Try.ntmps19
      go_wp2
      go_ret
      exact ⟨rfl, (Below.refl _ _).alloc (Nat.le_refl _) _⟩
    · go_enter Try.func19, Try.ntmps19
      go_wp2_with (go_at_call 24; refine (key_any g 5 h a n c y l who _ (by exact hr.later ((Below.refl _ _).alloc (Nat.le_refl _) _))).mono ?_; rintro e w1 ⟨rfl, hb1⟩)
      go_ret
      exact ⟨ret_bool (by simp [mayB]), box_trans hb1⟩
  · go_enter Try.func19, Try.ntmps19
    go_wp2_with (go_at_call 24; refine (key_any g 6 h a n c y l who _ (by exact hr.later ((Below.refl _ _).alloc (Nat.le_refl _) _))).mono ?_; rintro e w1 ⟨rfl, hb1⟩)
    go_ret
    exact ⟨ret_bool (by simp [mayB]), box_trans hb1⟩
  · cases wr
    · go_enter Try.func19, Try.ntmps19
      go_wp2
      go_ret
      exact ⟨rfl, (Below.refl _ _).alloc (Nat.le_refl _) _⟩
    · go_enter Try.func19, Try.ntmps19
      go_wp2_with (go_at_call 24; refine (key_any g 7 h a n c y l who _ (by exact hr.later ((Below.refl _ _).alloc (Nat.le_refl _) _))).mono ?_; rintro e w1 ⟨rfl, hb1⟩)
      go_ret
      exact ⟨ret_bool (by simp [mayB]), box_trans hb1⟩
  · go_enter Try.func19, Try.ntmps19
    go_wp2_with (go_at_call 24; refine (key_any g 8 h a n c y l who _ (by exact hr.later ((Below.refl _ _).alloc (Nat.le_refl _) _))).mono ?_; rintro e w1 ⟨rfl, hb1⟩)
    go_ret
    exact ⟨ret_bool (by simp [mayB]), box_trans hb1⟩
  · have HF : Hid (mayB t h l who wr = false) := by
      show _ = _
      simp only [beq_eq_false_iff_ne] at k0 k1 k3 k5 k6 k7 k8
      simp [mayB, k0, k1, k3, k5, k6, k7, k8]
    go_enter Try.func19, Try.ntmps19
    go_wp2
    go_ret
    exact ⟨ret_bool HF.out.symm, (Below.refl _ _).alloc (Nat.le_refl _) _⟩
end Go.Proofs.Ytokjacbipmfjkaa
