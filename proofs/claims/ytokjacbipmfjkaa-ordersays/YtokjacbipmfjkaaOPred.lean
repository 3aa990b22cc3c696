/- What order.proven, order.takes and order.heldBy answer. No statement of the seat is proved here. -/
import Derived.Test.YtokjacbipmfjkaaOTell
import Derived.Deep.RegionHeld3
namespace Go.Proofs.Ytokjacbipmfjkaa
open Go.ChangeShapes Go.WideShapes Go.ChangeAt Go.RowKit Go.Deep

/-- Is who asks known, and by the key that they say? -/
def provenB (l : List (Int × Int)) (who key : Int) : Bool := key != 0 && keyOf l who == key

/-- A later world, as a class, for calls that make memory. -/
structure LW (w : World) where
  val : World
  ok : Below w.heap.size w val
theorem Calls.quiet_lw {P : Program} {f : FuncId} {args : Array Value} {wr : World} {p : LW wr} {v : Value} (h : Calls P f args p.val fun e w' => e = .returned v ∧ Below p.val.heap.size p.val w') : Calls P f args p.val fun e w'' => e = .returned v ∧ ∃ q : LW wr, w'' = q.val :=
  h.mono fun _ w' ⟨he, hb⟩ => ⟨he, ⟨w', p.ok.trans (hb.mono p.ok.size)⟩, rfl⟩
theorem wp_region_lw {P : Program} {id : Nat} {Q : Exit → Act → World → Prop} {a : Act} {w : World} {l : List Oper} (hm : P.follows .mixedOrders = true) (hB : Region.lexB .any l.toArray = true)
    (h : wpQuiet P l.toArray (fun w' => ∃ p : LW w, w' = p.val) (fun a' => ∀ w', (∃ p : LW w, w' = p.val) → Q .normal a' w') l a) : (Code.region id l.toArray true).wp P Q a w :=
  wp_region_quiet (C := fun w' => ∃ p : LW w, w' = p.val) hm hB ⟨⟨w.drew, (Below.refl _ _).drew⟩, rfl⟩ (by simpa using h)

set_option maxHeartbeats 4000000 in
theorem proven_any (g t h : Int) (a : Option Addr) (n c : Nat) (y : Bool) (l : List (Int × Int)) (op who key new kind at' : Int) (st : Bool) (da wa : ByteArray) (w : World) (hr : Row w a n l) :
    Calls Try.prog 51 #[.agg #[.int .i64 g, .slice a n c, .int .i64 t, .int .i64 h, .bool y], .agg #[.int .i64 op, .int .i64 who, .int .i64 key, .int .i64 new, .int .i64 kind, .int .i64 at', .bool st, .string da, .string wa]] w fun e w' => e = .returned (.bool (provenB l who key)) ∧ Below w.heap.size w w' := by
  obtain ⟨X, hX⟩ : ∃ X, X = (w.alloc (.cells #[.int .i64 g, .slice a n c, .int .i64 t, .int .i64 h, .bool y] 24)).alloc (.cells #[.int .i64 op, .int .i64 who, .int .i64 key, .int .i64 new, .int .i64 kind, .int .i64 at', .bool st, .string da, .string wa] 26) := ⟨_, rfl⟩
  have bX : Below w.heap.size w X := by rw [hX]; exact ((Below.refl _ _).alloc (Nat.le_refl _) _).alloc (by simp) _
  have s0 : X.heap[w.heap.size]? = some (.cells #[.int .i64 g, .slice a n c, .int .i64 t, .int .i64 h, .bool y] 24 (0, 0)) := by rw [hX, Below.heap_alloc _ _ _ (by simp)]; exact heap_alloc_new w _
  have s1 : X.heap[w.heap.size + 1]? = some (.cells #[.int .i64 op, .int .i64 who, .int .i64 key, .int .i64 new, .int .i64 kind, .int .i64 at', .bool st, .string da, .string wa] 26 (0, 0)) := by
    rw [hX]; simpa using heap_alloc_new (w.alloc (.cells #[.int .i64 g, .slice a n c, .int .i64 t, .int .i64 h, .bool y] 24)) (.cells #[.int .i64 op, .int .i64 who, .int .i64 key, .int .i64 new, .int .i64 kind, .int .i64 at', .bool st, .string da, .string wa] 26)
  have c0 : X.cell? ⟨w.heap.size, 0, Option.none⟩ = some (.int .i64 g) := by simp [World.cell?, s0]
  have c1 : X.cell? ⟨w.heap.size, 1, Option.none⟩ = some (.slice a n c) := by simp [World.cell?, s0]
  have c2 : X.cell? ⟨w.heap.size, 2, Option.none⟩ = some (.int .i64 t) := by simp [World.cell?, s0]
  have c3 : X.cell? ⟨w.heap.size, 3, Option.none⟩ = some (.int .i64 h) := by simp [World.cell?, s0]
  have c4 : X.cell? ⟨w.heap.size, 4, Option.none⟩ = some (.bool y) := by simp [World.cell?, s0]
  have d1 : X.cell? ⟨w.heap.size + 1, 1, Option.none⟩ = some (.int .i64 who) := by simp [World.cell?, s1]
  have d2 : X.cell? ⟨w.heap.size + 1, 2, Option.none⟩ = some (.int .i64 key) := by simp [World.cell?, s1]
  go_enter Try.func51, Try.ntmps51
  go_wp2
  rw [← hX]
  clear hX s0 s1
  have q0 : ∀ p : LW X, p.val.cell? ⟨w.heap.size, 0, Option.none⟩ = some (.int .i64 g) := fun p => cell_later p.ok c0
  have q1 : ∀ p : LW X, p.val.cell? ⟨w.heap.size, 1, Option.none⟩ = some (.slice a n c) := fun p => cell_later p.ok c1
  have q2 : ∀ p : LW X, p.val.cell? ⟨w.heap.size, 2, Option.none⟩ = some (.int .i64 t) := fun p => cell_later p.ok c2
  have q3 : ∀ p : LW X, p.val.cell? ⟨w.heap.size, 3, Option.none⟩ = some (.int .i64 h) := fun p => cell_later p.ok c3
  have q4 : ∀ p : LW X, p.val.cell? ⟨w.heap.size, 4, Option.none⟩ = some (.bool y) := fun p => cell_later p.ok c4
  have r1 : ∀ p : LW X, p.val.cell? ⟨w.heap.size + 1, 1, Option.none⟩ = some (.int .i64 who) := fun p => cell_later p.ok d1
  have r2 : ∀ p : LW X, p.val.cell? ⟨w.heap.size + 1, 2, Option.none⟩ = some (.int .i64 key) := fun p => cell_later p.ok d2
  clear c0 c1 c2 c3 c4 d1 d2
  have hinh : Nonempty (LW X) := ⟨⟨X, Below.refl _ _⟩⟩
  have HK : Hid (∀ p : LW X, Row p.val a n l) := fun p => hr.later (bX.trans (p.ok.mono bX.size))
  by_cases hk : key = 0
  · have hk' : (key != 0) = false := by simpa using hk
    have HP : Hid (provenB l who key = false) := by show _ = _; simp [provenB, hk]
    clear hk
    refine wp_region_lw (by kernel_rfl) (by kernel_rfl) ?_
    repeat (go_big_quiet_step (fail))
    refine wpQuiet_nil ?_
    rintro _ ⟨⟨wq, hbq⟩, rfl⟩
    go_wp2
    go_ret
    exact ⟨ret_bool HP.out.symm, bX.trans (hbq.mono bX.size)⟩
  · have hk' : (key != 0) = true := by simpa using hk
    have HP : Hid (provenB l who key = (keyOf l who == key)) := by show _ = _; simp [provenB, hk]
    clear hk
    refine wp_region_lw (by kernel_rfl) (by kernel_rfl) ?_
    repeat (go_big_quiet_step ((go_at_call 24; exact Calls.quiet_lw (key_any g t h a n c y l who _ (HK.out _)))))
    refine wpQuiet_nil ?_
    rintro _ ⟨⟨wq, hbq⟩, rfl⟩
    go_wp2
    go_ret
    exact ⟨ret_bool HP.out.symm, bX.trans (hbq.mono bX.size)⟩
end Go.Proofs.Ytokjacbipmfjkaa
