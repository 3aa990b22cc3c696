/- What code.kinds lays: the map of commands' words and parts. No statement of the seat is proved here. -/
import Derived.Test.YthkckogbjdbnnaaDoorRows
import Derived.WalkKit
import Derived.WalkSpells
import Derived.WalkLawsBesides
import Derived.ProofKit
import Derived.OpenShut
import Derived.ChangeOld
import Derived.Maps.OwnSet
import Derived.Deep.QuietTactic
import Derived.BigQuiet
namespace Go.Proofs.YthkckogbjdbnnaaDoor.K
open Go.ChangeShapes Go.WideShapes Go.ChangeAt Go.RowKit Go.Maps

/-- An element reads as itself. -/
def tokE (v : Value) : Option (DataW Value × List MemPlace) := some (.held v, [])

def kv1 : Value := .agg #[.string ⟨#[114, 101, 103, 105, 115, 116, 101, 114]⟩, .bool true, .bool true, .bool false, .bool false, .bool true, .bool false, .bool false]
def kv2 : Value := .agg #[.string ⟨#[105, 103, 110, 111, 114, 101]⟩, .bool true, .bool true, .bool false, .bool false, .bool true, .bool false, .bool false]
def kv3 : Value := .agg #[.string ⟨#[114, 101, 115, 101, 114, 118, 101]⟩, .bool true, .bool false, .bool true, .bool false, .bool false, .bool false, .bool false]
def kv4 : Value := .agg #[.string ⟨#[114, 101, 108, 101, 97, 115, 101]⟩, .bool true, .bool false, .bool true, .bool false, .bool false, .bool false, .bool false]
def kv5 : Value := .agg #[.string ⟨#[99, 108, 101, 97, 114]⟩, .bool true, .bool false, .bool false, .bool false, .bool false, .bool false, .bool false]
def kv6 : Value := .agg #[.string ⟨#[112, 114, 101, 101, 109, 112, 116]⟩, .bool true, .bool true, .bool true, .bool false, .bool false, .bool false, .bool false]
def kv7 : Value := .agg #[.string ⟨#[114, 101, 97, 100]⟩, .bool false, .bool false, .bool false, .bool true, .bool false, .bool false, .bool false]
def kv8 : Value := .agg #[.string ⟨#[119, 114, 105, 116, 101]⟩, .bool false, .bool false, .bool false, .bool true, .bool false, .bool true, .bool false]
def kv9 : Value := .agg #[.string ⟨#[99, 111, 109, 112, 97, 114, 101]⟩, .bool false, .bool false, .bool false, .bool true, .bool false, .bool true, .bool true]
def kv0 : Value := .agg #[.string ⟨#[]⟩, .bool false, .bool false, .bool false, .bool false, .bool false, .bool false, .bool false]
def kd0 : DataW Value := .map []
def kd1 : DataW Value := kd0.put (.int .i64 1) (.held kv1)
def kd2 : DataW Value := kd1.put (.int .i64 2) (.held kv2)
def kd3 : DataW Value := kd2.put (.int .i64 3) (.held kv3)
def kd4 : DataW Value := kd3.put (.int .i64 4) (.held kv4)
def kd5 : DataW Value := kd4.put (.int .i64 5) (.held kv5)
def kd6 : DataW Value := kd5.put (.int .i64 6) (.held kv6)
def kd7 : DataW Value := kd6.put (.int .i64 7) (.held kv7)
def kd8 : DataW Value := kd7.put (.int .i64 8) (.held kv8)
def kd9 : DataW Value := kd8.put (.int .i64 9) (.held kv9)
/-- The command's kind. -/
def kindV (a : Int) : Value := if a = 1 then kv1 else if a = 2 then kv2 else if a = 3 then kv3 else if a = 4 then kv4 else if a = 5 then kv5 else if a = 6 then kv6 else if a = 7 then kv7 else if a = 8 then kv8 else if a = 9 then kv9 else kv0
theorem lawI : Keyed Tryd.prog 3 := int_keyed Tryd.underlying3
theorem kzero (w : World) : (zeroValue 59).run Tryd.prog w = .ok kv0 w := by kernel_rfl
theorem kd_isMap : IsMap kd9 := ((((((((((isMap_empty.put _ _).put _ _).put _ _).put _ _).put _ _).put _ _).put _ _).put _ _).put _ _))

theorem kd9_eq : kd9 = .map [(.int .i64 1, .held kv1), (.int .i64 2, .held kv2), (.int .i64 3, .held kv3), (.int .i64 4, .held kv4), (.int .i64 5, .held kv5), (.int .i64 6, .held kv6), (.int .i64 7, .held kv7), (.int .i64 8, .held kv8), (.int .i64 9, .held kv9)] := by kernel_rfl

theorem kd_has_not (a : Int) (h : ¬ (1 ≤ a ∧ a ≤ 9)) : Maps.has (.map [(.int .i64 1, .held kv1), (.int .i64 2, .held kv2), (.int .i64 3, .held kv3), (.int .i64 4, .held kv4), (.int .i64 5, .held kv5), (.int .i64 6, .held kv6), (.int .i64 7, .held kv7), (.int .i64 8, .held kv8), (.int .i64 9, .held kv9)]) (.int .i64 a) = false := by
  rw [Maps.has_eq]
  simp only [List.any_cons, List.any_nil]
  repeat rw [Maps.sameKey_ne (by intro e; injection e; omega)]
  rfl
theorem kd_at (a : Int) : kd9.atKey (.int .i64 a) (.held kv0) = .held (kindV a) := by
  rw [kd9_eq]
  by_cases h : 1 ≤ a ∧ a ≤ 9
  · have : a = 1 ∨ a = 2 ∨ a = 3 ∨ a = 4 ∨ a = 5 ∨ a = 6 ∨ a = 7 ∨ a = 8 ∨ a = 9 := by omega
    rcases this with rfl | rfl | rfl | rfl | rfl | rfl | rfl | rfl | rfl <;> rfl
  · rw [Maps.atKey_of_not_has (kd_has_not a h)]
    unfold kindV
    repeat rw [if_neg (by omega)]
theorem kd_has (a : Int) : Maps.has kd9 (.int .i64 a) = decide (1 ≤ a ∧ a ≤ 9) := by
  rw [kd9_eq]
  by_cases h : 1 ≤ a ∧ a ≤ 9
  · rw [decide_eq_true h]
    have : a = 1 ∨ a = 2 ∨ a = 3 ∨ a = 4 ∨ a = 5 ∨ a = 6 ∨ a = 7 ∨ a = 8 ∨ a = 9 := by omega
    rcases this with rfl | rfl | rfl | rfl | rfl | rfl | rfl | rfl | rfl <;> rfl
  · rw [decide_eq_false h, kd_has_not a h]

set_option maxHeartbeats 1000000 in
set_option maxRecDepth 100000 in
theorem kinds_any (w : World) : Calls Tryd.prog 31 #[] w fun e w' => e = .returned (.map (some w.heap.size)) ∧ w'.ownsMap Tryd.prog 3 tokE w.heap.size 9 kd9 ∧ Below w.heap.size w w' := by
  have hmm := @run_makeMap Tryd.prog
  have o0 := World.ownsMap_made w Tryd.prog 3 tokE
  obtain ⟨w1, h1, o1, g1⟩ := o0.update (t := 60) lawI Tryd.underlying60 (by decide) (key := .int .i64 1) (val := kv1) (keyOf_int_mk Tryd.underlying3 (by decide)) (ps := []) rfl
  obtain ⟨w2, h2, o2, g2⟩ := o1.update (t := 60) lawI Tryd.underlying60 (by decide) (key := .int .i64 2) (val := kv2) (keyOf_int_mk Tryd.underlying3 (by decide)) (ps := []) rfl
  obtain ⟨w3, h3, o3, g3⟩ := o2.update (t := 60) lawI Tryd.underlying60 (by decide) (key := .int .i64 3) (val := kv3) (keyOf_int_mk Tryd.underlying3 (by decide)) (ps := []) rfl
  obtain ⟨w4, h4, o4, g4⟩ := o3.update (t := 60) lawI Tryd.underlying60 (by decide) (key := .int .i64 4) (val := kv4) (keyOf_int_mk Tryd.underlying3 (by decide)) (ps := []) rfl
  obtain ⟨w5, h5, o5, g5⟩ := o4.update (t := 60) lawI Tryd.underlying60 (by decide) (key := .int .i64 5) (val := kv5) (keyOf_int_mk Tryd.underlying3 (by decide)) (ps := []) rfl
  obtain ⟨w6, h6, o6, g6⟩ := o5.update (t := 60) lawI Tryd.underlying60 (by decide) (key := .int .i64 6) (val := kv6) (keyOf_int_mk Tryd.underlying3 (by decide)) (ps := []) rfl
  obtain ⟨w7, h7, o7, g7⟩ := o6.update (t := 60) lawI Tryd.underlying60 (by decide) (key := .int .i64 7) (val := kv7) (keyOf_int_mk Tryd.underlying3 (by decide)) (ps := []) rfl
  obtain ⟨w8, h8, o8, g8⟩ := o7.update (t := 60) lawI Tryd.underlying60 (by decide) (key := .int .i64 8) (val := kv8) (keyOf_int_mk Tryd.underlying3 (by decide)) (ps := []) rfl
  obtain ⟨w9, h9, o9, g9⟩ := o8.update (t := 60) lawI Tryd.underlying60 (by decide) (key := .int .i64 9) (val := kv9) (keyOf_int_mk Tryd.underlying3 (by decide)) (ps := []) rfl
  have b0 : Below w.heap.size w (w.alloc (.map #[] 0)) := (Below.refl _ _).alloc (Nat.le_refl _) _
  have b1 := b0.grown g1 b0.size (fun j hj => by cases hj; exact Nat.le_refl _)
  have b2 := b1.grown g2 b1.size (fun j hj => by cases hj; exact Nat.le_refl _)
  have b3 := b2.grown g3 b2.size (fun j hj => by cases hj; exact Nat.le_refl _)
  have b4 := b3.grown g4 b3.size (fun j hj => by cases hj; exact Nat.le_refl _)
  have b5 := b4.grown g5 b4.size (fun j hj => by cases hj; exact Nat.le_refl _)
  have b6 := b5.grown g6 b5.size (fun j hj => by cases hj; exact Nat.le_refl _)
  have b7 := b6.grown g7 b6.size (fun j hj => by cases hj; exact Nat.le_refl _)
  have b8 := b7.grown g8 b7.size (fun j hj => by cases hj; exact Nat.le_refl _)
  have b9 := b8.grown g9 b8.size (fun j hj => by cases hj; exact Nat.le_refl _)
  simp only [kv1, kv2, kv3, kv4, kv5, kv6, kv7, kv8, kv9] at h1 h2 h3 h4 h5 h6 h7 h8 h9
  go_enter Tryd.func31, Tryd.ntmps31
  go_wp2
  go_ret
  exact ⟨rfl, o9, b9⟩
end Go.Proofs.YthkckogbjdbnnaaDoor.K
