/- What order.heldBy answers. No statement of the seat is proved here. -/
import Derived.Test.YtokjacbipmfjkaaOHeld
namespace Go.Proofs.Ytokjacbipmfjkaa
open Go.ChangeShapes Go.WideShapes Go.ChangeAt Go.RowKit Go.Deep

/-- A whole state stored over a block. -/
def Z5 (X : World) (M : Nat) (v0 v1 v2 v3 v4 : Value) : World :=
  ((((X.setCell ⟨M, 0, Option.none⟩ v0).setCell ⟨M, 1, Option.none⟩ v1).setCell ⟨M, 2, Option.none⟩ v2).setCell ⟨M, 3, Option.none⟩ v3).setCell ⟨M, 4, Option.none⟩ v4
theorem Z5.cells {X : World} {M : Nat} {u0 u1 u2 u3 u4 v0 v1 v2 v3 v4 : Value} {T : TypeId} (h : X.heap[M]? = some (.cells #[u0, u1, u2, u3, u4] T (0, 0))) : ∃ Z, Z = Z5 X M v0 v1 v2 v3 v4 ∧
    Z.cell? ⟨M, 0, Option.none⟩ = some v0 ∧ Z.cell? ⟨M, 1, Option.none⟩ = some v1 ∧ Z.cell? ⟨M, 2, Option.none⟩ = some v2 ∧ Z.cell? ⟨M, 3, Option.none⟩ = some v3 ∧ Z.cell? ⟨M, 4, Option.none⟩ = some v4 := by
  have h0 := heap_setCell_same _ M 0 _ T v0 h
  have h1 := heap_setCell_same _ M 1 _ T v1 h0
  have h2 := heap_setCell_same _ M 2 _ T v2 h1
  have h3 := heap_setCell_same _ M 3 _ T v3 h2
  have h4 := heap_setCell_same _ M 4 _ T v4 h3
  refine ⟨_, rfl, ?_, ?_, ?_, ?_, ?_⟩ <;> (unfold Z5; simp only [World.cell?, h4]; simp)
theorem Z5.below {w X : World} {M B : Nat} {v0 v1 v2 v3 v4 : Value} (h : Below B w X) (hM : B ≤ M) : Below B w (Z5 X M v0 v1 v2 v3 v4) :=
  ((((h.setCell (by exact hM) _).setCell (by exact hM) _).setCell (by exact hM) _).setCell (by exact hM) _).setCell (by exact hM) _

/-- The three blocks that a function of a state and a command, which hands back a state, lays first. -/
theorem laidThree (w : World) (g : Int) (a : Option Addr) (n c : Nat) (t h : Int) (y : Bool) (op who key new kind at' : Int) (st : Bool) (da wa : ByteArray) :
    ∃ X, X = ((w.alloc (.cells #[.int .i64 g, .slice a n c, .int .i64 t, .int .i64 h, .bool y] 24)).alloc (.cells #[.int .i64 op, .int .i64 who, .int .i64 key, .int .i64 new, .int .i64 kind, .int .i64 at', .bool st, .string da, .string wa] 26)).alloc (.cells #[.int .i64 0, .slice Option.none 0 0, .int .i64 0, .int .i64 0, .bool false] 24) ∧
      Below w.heap.size w X ∧ X.heap.size = w.heap.size + 3 ∧ StB X w.heap.size g a n c t h y ∧ CmB X (w.heap.size + 1) op who key new kind at' st da wa ∧ StB X (w.heap.size + 1 + 1) 0 Option.none 0 0 0 0 false := by
  obtain ⟨Y, hY, bY, sY, S0, C0⟩ := laidTwo w g a n c t h y op who key new kind at' st da wa
  have bal : Below Y.heap.size Y (Y.alloc (.cells #[.int .i64 0, .slice Option.none 0 0, .int .i64 0, .int .i64 0, .bool false] 24)) := (Below.refl _ _).alloc (Nat.le_refl _) _
  refine ⟨Y.alloc (.cells #[.int .i64 0, .slice Option.none 0 0, .int .i64 0, .int .i64 0, .bool false] 24), by rw [hY], bY.trans (bal.mono bY.size), by simp [sY], S0.later bal (by omega), C0.later bal (by omega), ?_⟩
  unfold StB
  rw [show w.heap.size + 1 + 1 = Y.heap.size by omega]
  exact heap_alloc_new Y _
theorem heldH_all {kind who : Int} (h : allB kind = true) : heldH kind who = 0 := by
  unfold heldH; rw [if_pos (by simpa [allB] using h)]
theorem heldH_no {kind who : Int} (h : allB kind = false) : heldH kind who = who := by
  unfold heldH; rw [if_neg (by simpa [allB] using h)]

set_option maxHeartbeats 4000000 in
theorem heldBy_any (g t h : Int) (a : Option Addr) (n c : Nat) (y : Bool) (op who key new kind at' : Int) (st : Bool) (da wa : ByteArray) (w : World) :
    Calls Try.prog 52 #[stV g a n c t h y, cmV op who key new kind at' st da wa] w fun e w' => e = .returned (stV g a n c kind (heldH kind who) y) ∧ Below w.heap.size w w' := by
  go_enter Try.func52, Try.ntmps52
  go_wp2
  go_region
  all_goals
    obtain ⟨X, hX, bX, sX, S0, C0, R0⟩ := laidThree w g a n c kind who y op who key new kind at' st da wa
    go_wp2_with fail
    rw [← hX]
    clear hX
    refine (all_any g kind who a n c y X.drew).mono ?_
    rintro e w1 ⟨rfl, hb1⟩
    have hb : Below X.heap.size X w1 := (Below.refl X.heap.size X).drew.trans hb1
    have bw1 := bX.trans (hb.mono bX.size)
    have S1 := S0.later hb (by omega)
    have R1 := R0.later hb (by omega)
    clear S0 C0 R0
    obtain ⟨⟨c0, c1, c2, c3, c4⟩, ⟨f0, f1, f2, f3, f4⟩⟩ := S1.cells
    obtain ⟨⟨e0, e1, e2, e3, e4⟩, ⟨q0, q1, q2, q3, q4⟩⟩ := R1.cells
    cases hA : allB kind with
    | true =>
      have HH : Hid (heldH kind who = 0) := heldH_all hA
      obtain ⟨V, hV⟩ : ∃ V, V = w1.setCell ⟨w.heap.size, 3, Option.none⟩ (.int .i64 0) := ⟨_, rfl⟩
      have bV : Below w.heap.size w V := by rw [hV]; exact bw1.setCell (by exact Nat.le_refl _) _
      have RV : StB V (w.heap.size + 1 + 1) 0 Option.none 0 0 0 0 false := by
        rw [hV]; unfold StB; rw [Below.heap_setCell _ _ _ _ (by show w.heap.size + 1 + 1 ≠ w.heap.size; omega)]; exact R1
      go_wp2
      rw [← hV]
      obtain ⟨Z, hZ, z0, z1, z2, z3, z4⟩ := Z5.cells (X := V) (v0 := .int .i64 g) (v1 := .slice a n c) (v2 := .int .i64 kind) (v3 := .int .i64 0) (v4 := .bool y) RV
      have bZ : Below w.heap.size w Z := by rw [hZ]; exact Z5.below bV (by omega)
      unfold Z5 at hZ
      rw [← hZ]
      clear hZ hV
      exact bodyPost_ret (v := .agg #[.int .i64 g, .slice a n c, .int .i64 kind, .int .i64 0, .bool y]) (by simp [results, Try.results52, go_sem, z0, z1, z2, z3, z4]) rfl ⟨by rw [HH.out], bZ⟩
    | false =>
      have HH : Hid (heldH kind who = who) := heldH_no hA
      go_wp2
      obtain ⟨Z, hZ, z0, z1, z2, z3, z4⟩ := Z5.cells (X := w1) (v0 := .int .i64 g) (v1 := .slice a n c) (v2 := .int .i64 kind) (v3 := .int .i64 who) (v4 := .bool y) R1
      have bZ : Below w.heap.size w Z := by rw [hZ]; exact Z5.below bw1 (by omega)
      unfold Z5 at hZ
      rw [← hZ]
      clear hZ
      exact bodyPost_ret (v := .agg #[.int .i64 g, .slice a n c, .int .i64 kind, .int .i64 who, .bool y]) (by simp [results, Try.results52, go_sem, z0, z1, z2, z3, z4]) rfl ⟨by rw [HH.out], bZ⟩
end Go.Proofs.Ytokjacbipmfjkaa
