/- Cells of blocks, and replicas, as plain data; what replica.Newer and replica.HasBlock answer. No statement of the seat is proved here. -/
import Derived.Test.YteebhmhjbgehjaaRows
import Derived.WalkKit
import Derived.WalkSpells
import Derived.WalkLawsBesides
import Derived.ProofKit
import Derived.OpenShut
import Derived.ChangeOld
import Derived.Deep.Fields
import Derived.Deep.QuietTactic
import Derived.BigQuiet
import Derived.Deep.MidRow
namespace Go.Proofs.Yteebhmhjbgehjaa
open Go.ChangeShapes Go.WideShapes Go.ChangeAt Go.RowKit

theorem ret_bool {a b : Bool} (h : a = b) : Ending.returned (.bool a) = .returned (.bool b) := by rw [h]

/-- A block's cell. -/
structure Cel where
  e : Int
  n : Int
  d : ByteArray
/-- Its values. -/
def Cel.vs (c : Cel) : List Value := [.int .i64 c.e, .int .i64 c.n, .string c.d]
def newerB (a b : Cel) : Bool := if a.e != b.e then decide (b.e < a.e) else decide (b.n < a.n)

theorem newer_any (e1 n1 e2 n2 : Int) (d1 d2 : ByteArray) (w : World) :
    Calls Try.prog 10 #[.agg #[.int .i64 e1, .int .i64 n1, .string d1], .agg #[.int .i64 e2, .int .i64 n2, .string d2]] w fun e w' => e = .returned (.bool (newerB ⟨e1, n1, d1⟩ ⟨e2, n2, d2⟩)) ∧ Below w.heap.size w w' := by
  by_cases h : (e1 == e2) = true
  · have HF : Hid (newerB ⟨e1, n1, d1⟩ ⟨e2, n2, d2⟩ = decide (n2 < n1)) := by show _ = _; simp at h; simp [newerB, h]
    go_enter Try.func10, Try.ntmps10
    go_wp2
    go_ret
    exact ⟨ret_bool HF.out.symm, ((Below.refl _ _).alloc (Nat.le_refl _) _).alloc (by simp) _⟩
  · have h' : (e1 == e2) = false := by simpa using h
    have HF : Hid (newerB ⟨e1, n1, d1⟩ ⟨e2, n2, d2⟩ = decide (e2 < e1)) := by show _ = _; simp at h; simp [newerB, h]
    clear h
    go_enter Try.func10, Try.ntmps10
    go_wp2
    go_ret
    exact ⟨ret_bool HF.out.symm, ((Below.refl _ _).alloc (Nat.le_refl _) _).alloc (by simp) _⟩

def hasB (at' : Int) : Bool := decide (0 ≤ at') && decide (at' ≤ 7)
theorem hasBlock_any (x : Int) (w : World) :
    Calls Try.prog 29 #[.int .i64 x] w fun e w' => e = .returned (.bool (hasB x)) ∧ w = w' := by
  by_cases h : 0 ≤ x
  · have h' : decide (0 ≤ x) = true := by simpa using h
    have HF : Hid (hasB x = decide (x ≤ 7)) := by show _ = _; simp [hasB, h]
    clear h
    go_enter Try.func29, Try.ntmps29
    go_wp2
    go_ret
    exact ⟨ret_bool HF.out.symm, rfl⟩
  · have h' : decide (0 ≤ x) = false := by simpa using h
    have HF : Hid (hasB x = false) := by show _ = _; simp [hasB, h]
    clear h
    go_enter Try.func29, Try.ntmps29
    go_wp2
    go_ret
    exact ⟨ret_bool HF.out.symm, rfl⟩
end Go.Proofs.Yteebhmhjbgehjaa
