/- New variables for a group and a cell. No statement of the seat is proved here. -/
import Derived.Test.YteebhmhjbgehjaaGEqR
import Derived.Test.YteebhmhjbgehjaaGInv
namespace Go.Proofs.Yteebhmhjbgehjaa
open Go.ChangeShapes Go.WideShapes Go.ChangeAt Go.RowKit Go.Deep

theorem newGC {rs : List Rep} {up : List Bool} (h : GOK rs up) (c : Cel) (V : World) : ∃ V2 V3, (Instr.storeAt 38 (.pointer (some ⟨V.heap.size, 0, Option.none⟩)) (.agg (grV rs up).toArray)).run Try.prog ((V.alloc (.cells z78.toArray 38)).alloc (.cells #[.int .i64 0, .int .i64 0, .string ⟨#[]⟩] 23)) = .ok () V2 ∧
    (Instr.storeAt 23 (.pointer (some ⟨V.heap.size + 1, 0, Option.none⟩)) (.agg #[.int .i64 c.e, .int .i64 c.n, .string c.d])).run Try.prog V2 = .ok () V3 ∧ At V3 (V.heap.size + 1) c.vs 23 ∧ Below V.heap.size V V3 ∧ At V3 V.heap.size (grV rs up) 38 := by
  obtain ⟨X, hX, a0, a1, bX, sX⟩ := two V (.cells z78.toArray 38) (.cells #[.int .i64 0, .int .i64 0, .string ⟨#[]⟩] 23)
  have A0 : At X V.heap.size z78 38 := a0
  have A1 : At X (V.heap.size + 1) zc.vs 23 := a1
  rw [← hX]
  have hs := store_gr A0 rfl h.vlen (grV_one rs up)
  have B1 := At.set_ne (show V.heap.size + 1 ≠ V.heap.size by omega) (grV rs up) 0 _ A1
  have D1 := At.set c.vs 0 _ _ B1
  rw [setL_whole _ _ (by rfl)] at D1
  have B0 := At.set (grV rs up) 0 _ _ A0
  rw [setL_whole _ _ (by rw [h.vlen]; rfl)] at B0
  exact ⟨_, _, hs, store_cel (o := 0) c B1 (by decide), D1, below_setCells (show V.heap.size ≤ V.heap.size + 1 by omega) c.vs 0 _ (below_setCells (Nat.le_refl _) (grV rs up) 0 _ bX), At.set_ne (show V.heap.size ≠ V.heap.size + 1 by omega) c.vs 0 _ B0⟩
theorem putGC {rs rs' : List Rep} {up up' : List Bool} (h : GOK rs up) (h' : GOK rs' up') (c : Cel) {V : World} {b : Nat} {T : TypeId} (A : At V b (grV rs up) T) : ∃ V2 V3, (Instr.storeAt 38 (.pointer (some ⟨b, 0, Option.none⟩)) (.agg (grV rs' up').toArray)).run Try.prog (V.alloc (.cells #[.int .i64 0, .int .i64 0, .string ⟨#[]⟩] 23)) = .ok () V2 ∧
    (Instr.storeAt 23 (.pointer (some ⟨V.heap.size, 0, Option.none⟩)) (.agg #[.int .i64 c.e, .int .i64 c.n, .string c.d])).run Try.prog V2 = .ok () V3 ∧ At V3 b (grV rs' up') T ∧ At V3 V.heap.size c.vs 23 ∧ (∀ (B : Nat) (w0 : World), B ≤ b → Below B w0 V → Below B w0 V3) := by
  obtain ⟨X, hX, a0, bX, sX⟩ := one V (.cells #[.int .i64 0, .int .i64 0, .string ⟨#[]⟩] 23)
  have A1 : At X V.heap.size zc.vs 23 := a0
  have hlt := A.lt
  rw [← hX]
  have A0 := A.later bX A.lt
  obtain ⟨Z2, hs, B0, hne, hbl⟩ := putG h h' A0
  have B1 := hne _ _ _ (by omega) A1
  have D1 := At.set c.vs 0 _ _ B1
  rw [setL_whole _ _ (by rfl)] at D1
  exact ⟨_, _, hs, store_cel (o := 0) c B1 (by decide), At.set_ne (show b ≠ V.heap.size by omega) c.vs 0 _ B0, D1, fun B w0 hB hb => below_setCells (show B ≤ V.heap.size by omega) c.vs 0 _ (hbl B w0 hB (hb.trans (bX.mono (show B ≤ V.heap.size by omega))))⟩
theorem putC {c d : Cel} {Z : World} {b : Nat} {T : TypeId} (A : At Z b c.vs T) : ∃ Z2, (Instr.storeAt 23 (.pointer (some ⟨b, 0, Option.none⟩)) (.agg #[.int .i64 d.e, .int .i64 d.n, .string d.d])).run Try.prog Z = .ok () Z2 ∧ At Z2 b d.vs T ∧ (∀ (b' : Nat) (l : List Value) (T' : TypeId), b' ≠ b → At Z b' l T' → At Z2 b' l T') ∧ (∀ (B : Nat) (w0 : World), B ≤ b → Below B w0 Z → Below B w0 Z2) := by
  have A2 := At.set d.vs 0 _ _ A
  rw [setL_whole _ _ (by rfl)] at A2
  exact ⟨_, store_cel (o := 0) d A (by simp [Cel.vs]), A2, fun b' l T' hne hA => At.set_ne hne _ 0 _ hA, fun B w0 hB hb => below_setCells hB _ 0 _ hb⟩
theorem eqg23 : Try.prog.eqGuardType Try.prog.depth 23 = false := by kernel_rfl
end Go.Proofs.Yteebhmhjbgehjaa
