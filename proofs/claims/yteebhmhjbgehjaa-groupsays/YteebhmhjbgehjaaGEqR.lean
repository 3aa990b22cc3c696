/- How two replicas are compared. No statement of the seat is proved here. -/
import Derived.Test.YteebhmhjbgehjaaGMath
namespace Go.Proofs.Yteebhmhjbgehjaa
open Go.ChangeShapes Go.WideShapes Go.ChangeAt Go.RowKit Go.Deep

theorem part_arrR (w : World) (f : Int) (l : List Cel) (hl : RepOK l) : (part 24 (repV f l).toArray 1).run Try.prog w = .ok (.agg (cells8 l).toArray) w := by
  have e : ((repV f l).toArray.extract 1 (1 + 24)) = (cells8 l).toArray := by
    rw [List.extract_toArray, List.extract_eq_take_drop]
    show ((cells8 l).take 24).toArray = _
    rw [List.take_of_length_le (by rw [cells8_len, hl.len]; decide)]
  obtain ⟨i, hi, hs⟩ : ∃ i, Try.prog.info? 24 = some i ∧ i.size = 24 := by
    have : (Try.prog.info? 24).map (·.size) = some 24 := by kernel_rfl
    cases h : Try.prog.info? 24 with
    | none => rw [h] at this; cases this
    | some i => rw [h] at this; exact ⟨i, rfl, by simpa using this⟩
  have hagg : (isAgg 24).run Try.prog w = .ok true w := by
    unfold isAgg; rw [Sem.run_bind, run_underlying Try.underlying24 w]; rfl
  have hsz : (sizeOf 24).run Try.prog w = .ok 24 w := by simp [sizeOf, typeInfo, hi, hs]
  simp only [part, Sem.run_bind, hagg, Result.andThen_ok, if_true, hsz, Sem.run_pure, e]
theorem part_floorR (w : World) (f : Int) (l : List Cel) : (part 3 (repV f l).toArray 0).run Try.prog w = .ok (.int .i64 f) w := by
  have hagg : (isAgg 3).run Try.prog w = .ok false w := by
    unfold isAgg; rw [Sem.run_bind, run_underlying Try.underlying3 w]; rfl
  simp [part, Sem.run_bind, hagg, repV]
theorem run_eq_repR (f f' : Int) (l l' : List Cel) (w : World) (h : RepOK l) (h' : RepOK l') : (Op.equalIn 10000 26 (.agg (repV f l).toArray) (.agg (repV f' l').toArray)).run Try.prog w = .ok (eqRep f l f' l') w := by
  rw [show (10000 : Nat) = 9999 + 1 from rfl, run_equalIn_agg w _ _ _ _ (by kernel_rfl) (by kernel_rfl)]
  obtain ⟨F0, F1, hF, t0, o0, t1, o1, n0, n1⟩ : ∃ F0 F1 : Field, (Try.prog.fieldsOf 26).toList = [F0, F1] ∧ F0.type = 3 ∧ F0.offset = 0 ∧ F1.type = 24 ∧ F1.offset = 1 ∧ F0.name ≠ "_" ∧ F1.name ≠ "_" :=
    ⟨_, _, by rw [Program.fieldsOf, Try.underlying26], rfl, rfl, rfl, rfl, by decide, by decide⟩
  rw [hF]
  simp only [Op.eqFields, n0, n1, t0, o0, t1, o1, ne_eq, not_false_eq_true, if_true, Sem.run_bind, part_floorR, Result.andThen_ok]
  rw [show (9999 : Nat) = 9998 + 1 from rfl, run_equalIn_int w _ _ _ _ _ _ Try.underlying3]
  simp only [Result.andThen_ok]
  cases hff : (f == f') with
  | false => simp [eqRep, hff]
  | true =>
    simp only [Bool.not_true, Bool.false_eq_true, if_false, Sem.run_bind]
    rw [part_arrR w f l h]
    simp only [Result.andThen_ok]
    rw [part_arrR w f' l' h']
    simp only [Result.andThen_ok]
    rw [show (9998 + 1 : Nat) = 9996 + 3 from rfl, run_eq_arr _ l l' w h h']
    cases he : eqL l l' <;> simp [eqRep, hff, he]
end Go.Proofs.Yteebhmhjbgehjaa
