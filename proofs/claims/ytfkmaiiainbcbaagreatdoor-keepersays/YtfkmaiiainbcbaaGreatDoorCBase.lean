/- What code.kinds lays: the map of commands' words and parts. No statement of the seat is proved here. -/
import Derived.Test.YtfkmaiiainbcbaaGreatDoorRows
import Derived.WalkKit
import Derived.WalkSpells
import Derived.WalkLawsBesides
import Derived.ProofKit
import Derived.OpenShut
import Derived.ChangeOld
import Derived.Maps.OwnSet
import Derived.Deep.QuietTactic
import Derived.BigQuiet
namespace Go.Proofs.YtfkmaiiainbcbaaGreatDoor.K
open Go.ChangeShapes Go.WideShapes Go.ChangeAt Go.RowKit Go.Maps

/-- An element reads as itself. -/
def tokE (v : Value) : Option (DataW Value × List MemPlace) := some (.held v, [])

def kv1 : Value := .agg #[.string ⟨#[114, 101, 103, 105, 115, 116, 101, 114]⟩, .bool true, .bool true, .bool false, .bool false, .bool true, .bool false, .bool false]
def kv2 : Value := .agg #[.string ⟨#[105, 103, 110, 111, 114, 101]⟩, .bool true, .bool true, .bool false, .bool false, .bool true, .bool false, .bool false]
def kv3 : Value := .agg #[.string ⟨#[114, 101, 115, 101, 114, 118, 101]⟩, .bool true, .bool false, .bool true, .bool false, .bool false, .bool false, .bool false]
def kv4 : Value := .agg #[.string ⟨#[114, 101, 108, 101, 97, 115, 101]⟩, .bool true, .bool false, .bool true, .bool false, .bool false, .bool false, .bool false]
def kv5 : Value := .agg #[.string ⟨#[99, 108, 101, 97, 114]⟩, .bool true, .bool false, .bool false, .bool false, .bool false, .bool false, .bool false]
def kv6 : Value := .agg #[.string ⟨#[112, 114, 101, 101, 109, 112, 116]⟩, .bool true, .bool true, .bool true, .bool false, .bool false, .bool false, .bool false]
def kv7 : Value := .agg #[.string ⟨#[114, 101, 97, 100]⟩, .bool false, .bool false, .bool false, .bool true, .bool false, .bool false, .bool false]
def kv8 : Value := .agg #[.string ⟨#[119, 114, 105, 116, 101]⟩, .bool false, .bool false, .bool false, .bool true, .bool false, .bool true, .bool false]
def kv9 : Value := .agg #[.string ⟨#[99, 111, 109, 112, 97, 114, 101]⟩, .bool false, .bool false, .bool false, .bool true, .bool false, .bool true, .bool true]
def kv0 : Value := .agg #[.string ⟨#[]⟩, .bool false, .bool false, .bool false, .bool false, .bool false, .bool false, .bool false]
def kd0 : DataW Value := .map []
def kd1 : DataW Value := kd0.put (.int .i64 1) (.held kv1)
def kd2 : DataW Value := kd1.put (.int .i64 2) (.held kv2)
def kd3 : DataW Value := kd2.put (.int .i64 3) (.held kv3)
def kd4 : DataW Value := kd3.put (.int .i64 4) (.held kv4)
def kd5 : DataW Value := kd4.put (.int .i64 5) (.held kv5)
def kd6 : DataW Value := kd5.put (.int .i64 6) (.held kv6)
def kd7 : DataW Value := kd6.put (.int .i64 7) (.held kv7)
def kd8 : DataW Value := kd7.put (.int .i64 8) (.held kv8)
def kd9 : DataW Value := kd8.put (.int .i64 9) (.held kv9)
/-- The command's kind. -/
def kindV (a : Int) : Value := if a = 1 then kv1 else if a = 2 then kv2 else if a = 3 then kv3 else if a = 4 then kv4 else if a = 5 then kv5 else if a = 6 then kv6 else if a = 7 then kv7 else if a = 8 then kv8 else if a = 9 then kv9 else kv0
theorem lawI : Keyed Tryz.prog 3 := int_keyed Tryz.underlying3
theorem kd_isMap : IsMap kd9 := ((((((((((isMap_empty.put _ _).put _ _).put _ _).put _ _).put _ _).put _ _).put _ _).put _ _).put _ _))

theorem kd9_eq : kd9 = .map [(.int .i64 1, .held kv1), (.int .i64 2, .held kv2), (.int .i64 3, .held kv3), (.int .i64 4, .held kv4), (.int .i64 5, .held kv5), (.int .i64 6, .held kv6), (.int .i64 7, .held kv7), (.int .i64 8, .held kv8), (.int .i64 9, .held kv9)] := by kernel_rfl

theorem kd_has_not (a : Int) (h : ¬ (1 ≤ a ∧ a ≤ 9)) : Maps.has (.map [(.int .i64 1, .held kv1), (.int .i64 2, .held kv2), (.int .i64 3, .held kv3), (.int .i64 4, .held kv4), (.int .i64 5, .held kv5), (.int .i64 6, .held kv6), (.int .i64 7, .held kv7), (.int .i64 8, .held kv8), (.int .i64 9, .held kv9)]) (.int .i64 a) = false := by
  rw [Maps.has_eq]
  simp only [List.any_cons, List.any_nil]
  repeat rw [Maps.sameKey_ne (by intro e; injection e; omega)]
  rfl
theorem kd_at (a : Int) : kd9.atKey (.int .i64 a) (.held kv0) = .held (kindV a) := by
  rw [kd9_eq]
  by_cases h : 1 ≤ a ∧ a ≤ 9
  · have : a = 1 ∨ a = 2 ∨ a = 3 ∨ a = 4 ∨ a = 5 ∨ a = 6 ∨ a = 7 ∨ a = 8 ∨ a = 9 := by omega
    rcases this with rfl | rfl | rfl | rfl | rfl | rfl | rfl | rfl | rfl <;> rfl
  · rw [Maps.atKey_of_not_has (kd_has_not a h)]
    unfold kindV
    repeat rw [if_neg (by omega)]
theorem kd_has (a : Int) : Maps.has kd9 (.int .i64 a) = decide (1 ≤ a ∧ a ≤ 9) := by
  rw [kd9_eq]
  by_cases h : 1 ≤ a ∧ a ≤ 9
  · rw [decide_eq_true h]
    have : a = 1 ∨ a = 2 ∨ a = 3 ∨ a = 4 ∨ a = 5 ∨ a = 6 ∨ a = 7 ∨ a = 8 ∨ a = 9 := by omega
    rcases this with rfl | rfl | rfl | rfl | rfl | rfl | rfl | rfl | rfl <;> rfl
  · rw [decide_eq_false h, kd_has_not a h]

end Go.Proofs.YtfkmaiiainbcbaaGreatDoor.K
