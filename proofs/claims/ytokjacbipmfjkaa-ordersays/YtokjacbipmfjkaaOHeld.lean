/- What order.takes and order.heldBy answer. No statement of the seat is proved here. -/
import Derived.Test.YtokjacbipmfjkaaOPred
namespace Go.Proofs.Ytokjacbipmfjkaa
open Go.ChangeShapes Go.WideShapes Go.ChangeAt Go.RowKit Go.Deep

/-- A state, and a command, as values. -/
abbrev stV (g : Int) (a : Option Addr) (n c : Nat) (t h : Int) (y : Bool) : Value := .agg #[.int .i64 g, .slice a n c, .int .i64 t, .int .i64 h, .bool y]
abbrev cmV (op who key new kind at' : Int) (st : Bool) (da wa : ByteArray) : Value := .agg #[.int .i64 op, .int .i64 who, .int .i64 key, .int .i64 new, .int .i64 kind, .int .i64 at', .bool st, .string da, .string wa]
/-- A state's and a command's block. -/
def StB (X : World) (N : Nat) (g : Int) (a : Option Addr) (n c : Nat) (t h : Int) (y : Bool) : Prop := X.heap[N]? = some (.cells #[.int .i64 g, .slice a n c, .int .i64 t, .int .i64 h, .bool y] 24 (0, 0))
def CmB (X : World) (N : Nat) (op who key new kind at' : Int) (st : Bool) (da wa : ByteArray) : Prop := X.heap[N]? = some (.cells #[.int .i64 op, .int .i64 who, .int .i64 key, .int .i64 new, .int .i64 kind, .int .i64 at', .bool st, .string da, .string wa] 26 (0, 0))
theorem StB.cells {X : World} {N : Nat} {g : Int} {a : Option Addr} {n c : Nat} {t h : Int} {y : Bool} (hb : StB X N g a n c t h y) :
    (X.cell? ⟨N, 0, Option.none⟩ = some (.int .i64 g) ∧ X.cell? ⟨N, 1, Option.none⟩ = some (.slice a n c) ∧ X.cell? ⟨N, 2, Option.none⟩ = some (.int .i64 t) ∧ X.cell? ⟨N, 3, Option.none⟩ = some (.int .i64 h) ∧ X.cell? ⟨N, 4, Option.none⟩ = some (.bool y)) ∧
    (X.frozen? ⟨N, 0, Option.none⟩ = false ∧ X.frozen? ⟨N, 1, Option.none⟩ = false ∧ X.frozen? ⟨N, 2, Option.none⟩ = false ∧ X.frozen? ⟨N, 3, Option.none⟩ = false ∧ X.frozen? ⟨N, 4, Option.none⟩ = false) := by
  unfold StB at hb
  simp [World.cell?, World.frozen?, hb]
theorem CmB.cells {X : World} {N : Nat} {op who key new kind at' : Int} {st : Bool} {da wa : ByteArray} (hb : CmB X N op who key new kind at' st da wa) :
    X.cell? ⟨N, 0, Option.none⟩ = some (.int .i64 op) ∧ X.cell? ⟨N, 1, Option.none⟩ = some (.int .i64 who) ∧ X.cell? ⟨N, 2, Option.none⟩ = some (.int .i64 key) ∧ X.cell? ⟨N, 3, Option.none⟩ = some (.int .i64 new) ∧ X.cell? ⟨N, 4, Option.none⟩ = some (.int .i64 kind) ∧ X.cell? ⟨N, 5, Option.none⟩ = some (.int .i64 at') ∧ X.cell? ⟨N, 6, Option.none⟩ = some (.bool st) ∧ X.cell? ⟨N, 7, Option.none⟩ = some (.string da) ∧ X.cell? ⟨N, 8, Option.none⟩ = some (.string wa) := by
  unfold CmB at hb
  simp [World.cell?, hb]
theorem StB.later {X X' : World} {N B : Nat} {g : Int} {a : Option Addr} {n c : Nat} {t h : Int} {y : Bool} (hb : StB X N g a n c t h y) (b : Below B X X') (hB : N < B) : StB X' N g a n c t h y := by
  unfold StB; rw [b.block N hB]; exact hb
theorem CmB.later {X X' : World} {N B : Nat} {op who key new kind at' : Int} {st : Bool} {da wa : ByteArray} (hb : CmB X N op who key new kind at' st da wa) (b : Below B X X') (hB : N < B) : CmB X' N op who key new kind at' st da wa := by
  unfold CmB; rw [b.block N hB]; exact hb
/-- The two blocks that a function of a state and a command lays first. -/
theorem laidTwo (w : World) (g : Int) (a : Option Addr) (n c : Nat) (t h : Int) (y : Bool) (op who key new kind at' : Int) (st : Bool) (da wa : ByteArray) :
    ∃ X, X = (w.alloc (.cells #[.int .i64 g, .slice a n c, .int .i64 t, .int .i64 h, .bool y] 24)).alloc (.cells #[.int .i64 op, .int .i64 who, .int .i64 key, .int .i64 new, .int .i64 kind, .int .i64 at', .bool st, .string da, .string wa] 26) ∧
      Below w.heap.size w X ∧ X.heap.size = w.heap.size + 2 ∧ StB X w.heap.size g a n c t h y ∧ CmB X (w.heap.size + 1) op who key new kind at' st da wa := by
  refine ⟨_, rfl, ((Below.refl _ _).alloc (Nat.le_refl _) _).alloc (by simp) _, by simp, ?_, ?_⟩
  · unfold StB; rw [Below.heap_alloc _ _ _ (by simp)]; exact heap_alloc_new w _
  · unfold CmB; simpa using heap_alloc_new (w.alloc (.cells #[.int .i64 g, .slice a n c, .int .i64 t, .int .i64 h, .bool y] 24)) (.cells #[.int .i64 op, .int .i64 who, .int .i64 key, .int .i64 new, .int .i64 kind, .int .i64 at', .bool st, .string da, .string wa] 26)

/-- Does who asks take what is held? -/
def takesB (t h : Int) (l : List (Int × Int)) (new : Int) : Bool := if allB t then new == 0 else t != 0 && keyOf l h == new

set_option maxHeartbeats 4000000 in
theorem takes_any (g t h : Int) (a : Option Addr) (n c : Nat) (y : Bool) (l : List (Int × Int)) (op who key new kind at' : Int) (st : Bool) (da wa : ByteArray) (w : World) (hr : Row w a n l) :
    Calls Try.prog 53 #[stV g a n c t h y, cmV op who key new kind at' st da wa] w fun e w' => e = .returned (.bool (takesB t h l new)) ∧ Below w.heap.size w w' := by
  obtain ⟨X, hX, bX, sX, S0, C0⟩ := laidTwo w g a n c t h y op who key new kind at' st da wa
  go_enter Try.func53, Try.ntmps53
  go_wp2_with fail
  rw [← hX]
  clear hX
  refine (all_any g t h a n c y X).mono ?_
  rintro e w1 ⟨rfl, hb1⟩
  have bw1 := bX.trans (hb1.mono bX.size)
  have S1 := S0.later hb1 (by omega)
  have C1 := C0.later hb1 (by omega)
  obtain ⟨⟨c0, c1, c2, c3, c4⟩, _⟩ := S1.cells
  obtain ⟨_, d1, d2, d3, _, _, _, _, _⟩ := C1.cells
  cases hA : allB t with
  | true =>
    have HT : Hid (takesB t h l new = (new == 0)) := by show _ = _; unfold takesB; rw [hA]; rfl
    clear S0 C0 S1 C1
    go_wp2
    go_ret
    exact ⟨ret_bool HT.out.symm, bw1⟩
  | false =>
    have q0 : ∀ p : LW w1, p.val.cell? ⟨w.heap.size, 0, Option.none⟩ = some (.int .i64 g) := fun p => cell_later p.ok c0
    have q1 : ∀ p : LW w1, p.val.cell? ⟨w.heap.size, 1, Option.none⟩ = some (.slice a n c) := fun p => cell_later p.ok c1
    have q2 : ∀ p : LW w1, p.val.cell? ⟨w.heap.size, 2, Option.none⟩ = some (.int .i64 t) := fun p => cell_later p.ok c2
    have q3 : ∀ p : LW w1, p.val.cell? ⟨w.heap.size, 3, Option.none⟩ = some (.int .i64 h) := fun p => cell_later p.ok c3
    have q4 : ∀ p : LW w1, p.val.cell? ⟨w.heap.size, 4, Option.none⟩ = some (.bool y) := fun p => cell_later p.ok c4
    have r3 : ∀ p : LW w1, p.val.cell? ⟨w.heap.size + 1, 3, Option.none⟩ = some (.int .i64 new) := fun p => cell_later p.ok d3
    clear c0 c1 c2 c3 c4 d1 d2 d3 S0 C0 S1 C1
    have hinh : Nonempty (LW w1) := ⟨⟨w1, Below.refl _ _⟩⟩
    have HK : Hid (∀ p : LW w1, Row p.val a n l) := fun p => hr.later (bw1.trans (p.ok.mono bw1.size))
    go_wp2
    by_cases hk : t = 0
    · have hk' : (t != 0) = false := by simpa using hk
      have HT : Hid (takesB t h l new = false) := by show _ = _; unfold takesB; rw [hA]; simp [hk]
      clear hk hA
      refine wp_region_lw (by kernel_rfl) (by kernel_rfl) ?_
      repeat (go_big_quiet_step (fail))
      refine wpQuiet_nil ?_
      rintro _ ⟨⟨wq, hbq⟩, rfl⟩
      go_wp2
      go_ret
      exact ⟨ret_bool HT.out.symm, bw1.trans (hbq.mono bw1.size)⟩
    · have hk' : (t != 0) = true := by simpa using hk
      have HT : Hid (takesB t h l new = (keyOf l h == new)) := by show _ = _; unfold takesB; rw [hA]; simp [hk]
      clear hk hA
      refine wp_region_lw (by kernel_rfl) (by kernel_rfl) ?_
      repeat (go_big_quiet_step ((go_at_call 24; exact Calls.quiet_lw (key_any g t h a n c y l h _ (HK.out _)))))
      refine wpQuiet_nil ?_
      rintro _ ⟨⟨wq, hbq⟩, rfl⟩
      go_wp2
      go_ret
      exact ⟨ret_bool HT.out.symm, bw1.trans (hbq.mono bw1.size)⟩
end Go.Proofs.Ytokjacbipmfjkaa
