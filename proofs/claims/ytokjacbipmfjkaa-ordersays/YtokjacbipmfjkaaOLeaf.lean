/- What the small functions of package order, and the document's own beside them, answer: counted, freed, refuse, heldBy, taken. No statement of the seat is proved here. -/
import Derived.Test.YtokjacbipmfjkaaSame
import Derived.Test.YtokjacbipmfjkaaKMath
namespace Go.Proofs.Ytokjacbipmfjkaa
open Go.ChangeShapes Go.WideShapes Go.ChangeAt Go.RowKit

/-- It has changed once more. -/
def cnt (g : Int) : Int := if 1000000000 < g + 1 then 0 else g + 1
/-- Who holds what is held so. -/
def heldH (kind who : Int) : Int := if kind = 7 ∨ kind = 8 then 0 else who

theorem freed_any (g t h : Int) (a : Option Addr) (n c : Nat) (y : Bool) (w : World) :
    Calls Try.prog 48 #[.agg #[.int .i64 g, .slice a n c, .int .i64 t, .int .i64 h, .bool y]] w fun e w' => e = .returned (.agg #[.int .i64 g, .slice a n c, .int .i64 0, .int .i64 0, .bool y]) ∧ Below w.heap.size w w' := by
  go_enter Try.func48, Try.ntmps48
  go_wp2
  refine bodyPost_ret (v := .agg #[.int .i64 g, .slice a n c, .int .i64 0, .int .i64 0, .bool y]) (by simp [results, Try.results48, go_sem]) rfl ⟨rfl, ((Below.refl _ _).alloc (Nat.le_refl _) _).alloc (by simp) _⟩

theorem rfreed_any (g t h : Int) (a : Option Addr) (n c : Nat) (y : Bool) (w : World) :
    Calls Try.prog 39 #[.agg #[.int .i64 g, .slice a n c, .int .i64 t, .int .i64 h, .bool y]] w fun e w' => e = .returned (.agg #[.int .i64 g, .slice a n c, .int .i64 0, .int .i64 0, .bool y]) ∧ Below w.heap.size w w' := by
  go_enter Try.func39, Try.ntmps39
  go_wp2
  refine bodyPost_ret (v := .agg #[.int .i64 g, .slice a n c, .int .i64 0, .int .i64 0, .bool y]) (by simp [results, Try.results39, go_sem]) rfl ⟨rfl, ((Below.refl _ _).alloc (Nat.le_refl _) _).alloc (by simp) _⟩

theorem counted_any (g t h : Int) (a : Option Addr) (n c : Nat) (y : Bool) (w : World) (hg : 0 ≤ g ∧ g ≤ 1000000000) :
    Calls Try.prog 47 #[.agg #[.int .i64 g, .slice a n c, .int .i64 t, .int .i64 h, .bool y]] w fun e w' => e = .returned (.agg #[.int .i64 (cnt g), .slice a n c, .int .i64 t, .int .i64 h, .bool y]) ∧ Below w.heap.size w w' := by
  have h1 : (-9223372036854775808 : Int) ≤ g + 1 := by omega
  have h2 : g + 1 ≤ 9223372036854775807 := by omega
  obtain ⟨hg0, hg1⟩ := hg
  by_cases hb : 1000000000 < g + 1
  · have HC : Hid (cnt g = 0) := by show _ = _; simp only [cnt, if_pos hb]
    have hb' : decide (1000000000 < g + 1) = true := by simpa using hb
    rw [HC.out]
    go_enter Try.func47, Try.ntmps47
    go_wp2
    refine bodyPost_ret (v := .agg #[.int .i64 0, .slice a n c, .int .i64 t, .int .i64 h, .bool y]) (by simp [results, Try.results47, go_sem]) rfl ⟨rfl, ((Below.refl _ _).alloc (Nat.le_refl _) _).alloc (by simp) _⟩
  · have HC : Hid (cnt g = g + 1) := by show _ = _; simp only [cnt, if_neg hb]
    have hb' : decide (1000000000 < g + 1) = false := by simpa using hb
    rw [HC.out]
    go_enter Try.func47, Try.ntmps47
    go_wp2
    refine bodyPost_ret (v := .agg #[.int .i64 (g + 1), .slice a n c, .int .i64 t, .int .i64 h, .bool y]) (by simp [results, Try.results47, go_sem]) rfl ⟨rfl, ((Below.refl _ _).alloc (Nat.le_refl _) _).alloc (by simp) _⟩

theorem refuse_any (f : Int) (w : World) :
    Calls Try.prog 36 #[.int .i64 f] w fun e w' => e = .returned (.tuple #[.agg #[.int .i64 0, .slice Option.none 0 0, .int .i64 0, .int .i64 0, .bool false], .slice Option.none 0 0, .iface 57 (.int .i64 f)]) ∧ Below w.heap.size w w' := by
  go_enter Try.func36, Try.ntmps36
  go_wp2
  refine bodyPost_ret (v := .tuple #[.agg #[.int .i64 0, .slice Option.none 0 0, .int .i64 0, .int .i64 0, .bool false], .slice Option.none 0 0, .iface 57 (.int .i64 f)]) (by simp [results, Try.results36, go_sem]) rfl ⟨rfl, (Below.refl _ _).alloc (Nat.le_refl _) _⟩

theorem taken_any (g t h : Int) (a : Option Addr) (n c : Nat) (y : Bool) (kind who : Int) (w : World) :
    Calls Try.prog 42 #[.agg #[.int .i64 g, .slice a n c, .int .i64 t, .int .i64 h, .bool y], .int .i64 kind, .int .i64 who] w fun e w' => e = .returned (.agg #[.int .i64 g, .slice a n c, .int .i64 kind, .int .i64 (if 7 ≤ kind then 0 else who), .bool y]) ∧ Below w.heap.size w w' := by
  by_cases hk : 7 ≤ kind
  · have hk' : decide (7 ≤ kind) = true := by simpa using hk
    rw [if_pos hk]
    go_enter Try.func42, Try.ntmps42
    go_wp2
    refine bodyPost_ret (v := .agg #[.int .i64 g, .slice a n c, .int .i64 kind, .int .i64 0, .bool y]) (by simp [results, Try.results42, go_sem]) rfl ⟨rfl, ((Below.refl _ _).alloc (Nat.le_refl _) _).alloc (by simp) _⟩
  · have hk' : decide (7 ≤ kind) = false := by simpa using hk
    rw [if_neg hk]
    go_enter Try.func42, Try.ntmps42
    go_wp2
    refine bodyPost_ret (v := .agg #[.int .i64 g, .slice a n c, .int .i64 kind, .int .i64 who, .bool y]) (by simp [results, Try.results42, go_sem]) rfl ⟨rfl, ((Below.refl _ _).alloc (Nat.le_refl _) _).alloc (by simp) _⟩
end Go.Proofs.Ytokjacbipmfjkaa
