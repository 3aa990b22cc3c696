/- What asGroup and groups answer. No statement of the seat is proved here. -/
import Derived.Test.YteebhmhjbgehjaaGRefF
import Derived.Test.YteebhmhjbgehjaaGEqR
namespace Go.Proofs.Yteebhmhjbgehjaa
open Go.ChangeShapes Go.WideShapes Go.ChangeAt Go.RowKit Go.Deep

set_option maxRecDepth 100000 in
set_option maxHeartbeats 4000000 in
theorem groups_any (w : World) : Calls Try.prog 11 #[] w fun r w' => r = .returned (.bool true) ∧ Below w.heap.size w w' := by
  have hz := zero78
  go_enter Try.func11, Try.ntmps11
  go_wp2_with fail
  refine (gnew_any w).mono ?_
  rintro r W1 ⟨rfl, b1⟩
  obtain ⟨rs, hrs⟩ : ∃ rs, newR 3 = rs := ⟨_, rfl⟩
  obtain ⟨up, hup⟩ : ∃ up, newU 3 = up := ⟨_, rfl⟩
  have hG : GOK rs up := by rw [← hrs, ← hup]; exact new_ok 3
  obtain ⟨g2, hg2⟩ : ∃ g2, fenG rs up 2 = g2 := ⟨_, rfl⟩
  have hB : decide (2 ≤ (memL (fenG rs up 2) up 2 3).length) = true := by rw [← hrs, ← hup]; rfl
  have hM : (memL (fenG rs up 2) up 2 3).length = 3 := by rw [← hrs, ← hup]; rfl
  have hG2 : GOK g2 up := by rw [← hg2]; exact fenG_ok hG 2
  rw [hrs, hup]
  rw [hg2] at hB hM
  have HF : Hid (fenG rs up 2 = g2) := hg2
  clear hrs hup hg2
  obtain ⟨Y, hst, A0, bY⟩ := newG hG W1
  have HS : Hid ((Instr.storeAt 38 (.pointer (some ⟨W1.heap.size, 0, Option.none⟩)) (.agg (grV rs up).toArray)).run Try.prog (W1.alloc (.cells z78.toArray 38)) = .ok () Y) := hst
  have HL : Hid ((Instr.loadAt 38 (.pointer (some ⟨W1.heap.size, 0, Option.none⟩))).run Try.prog Y = .ok (.agg (grV rs up).toArray) Y) := load_gr A0 hG.vlen
  clear hst
  go_wp2_with (first | (with_reducible refine wl_store HS.out rfl rfl ?_) | (with_reducible refine wl_load HL.out rfl rfl ?_))
  refine (gfence_any rs up 2 Y hG (by decide) (by decide)).mono ?_
  rintro r Z ⟨rfl, b2⟩
  rw [HF.out, hB]
  replace A0 := A0.later b2 A0.lt
  have bZ : Below w.heap.size w Z := (b1.trans (bY.mono b1.size)).trans (b2.mono (Nat.le_trans b1.size bY.size))
  have hst := store_gr A0 hG.vlen hG2.vlen (grV_one g2 up)
  have A1 := At.set (grV g2 up) 0 _ _ A0
  rw [setL_whole _ _ (by rw [hG.vlen, hG2.vlen])] at A1
  have b3 := below_setCells (show w.heap.size ≤ W1.heap.size from b1.size) (grV g2 up) 0 _ bZ
  generalize Z.setCells W1.heap.size 0 (grV g2 up) = Z2 at *
  have HS2 : Hid ((Instr.storeAt 38 (.pointer (some ⟨W1.heap.size, 0, Option.none⟩)) (.agg (grV g2 up).toArray)).run Try.prog Z = .ok () Z2) := hst
  have HL2 : Hid ((Instr.loadAt 38 (.pointer (some ⟨W1.heap.size, 0, Option.none⟩))).run Try.prog Z2 = .ok (.agg (grV g2 up).toArray) Z2) := load_gr A1 hG2.vlen
  clear hst HS HL
  go_wp2_with (first | (with_reducible refine wl_store HS2.out rfl rfl ?_) | (with_reducible refine wl_load HL2.out rfl rfl ?_))
  refine (members_any g2 up 2 Z2 hG2).mono ?_
  rintro r Z3 ⟨a, n, c, rfl, ho, hb3⟩
  obtain ⟨_, _, _, he', hn⟩ := ho.form
  simp only [Value.slice.injEq] at he'
  obtain ⟨rfl, rfl, rfl⟩ := he'
  obtain rfl : n = 3 := by rw [← hn.1]; exact hM
  clear ho hn
  go_wp2
  go_ret
  exact ⟨rfl, b3.trans (hb3.mono b3.size)⟩

theorem eqg24 : Try.prog.eqGuardType Try.prog.depth 24 = false := by kernel_rfl
theorem arr_range {W : World} {b : Nat} {T : TypeId} {rs : List Rep} {up : List Bool} (hA : At W b (grV rs up) T) (h : GOK rs up) (m : Nat) (hm : m < rs.length) : W.rangeAt b (m * 25 + 1) (cells8 rs[m].l) := by
  have hok := h.ok _ (List.getElem_mem hm)
  refine hA.range _ _ (fun j hj => ?_)
  rw [hok.clen] at hj
  rw [show m * 25 + 1 + j = m * 25 + (j + 1) by omega, h.rep m hm (j + 1) (by omega)]
  rfl

set_option maxRecDepth 100000 in
set_option maxHeartbeats 4000000 in
theorem asGroup_any (rs : List Rep) (up : List Bool) (b : Nat) (T : TypeId) (w : World) (h : GOK rs up) (A1 : At w b (grV rs up) T) :
    Calls Try.prog 23 #[.agg (grV rs up).toArray, .pointer (some ⟨b, 0, Option.none⟩)] w fun r w' => r = .returned (.bool true) ∧ Below w.heap.size w w' := by
  obtain ⟨X, hX, a0, bX, sX⟩ := one w (.cells (grV rs up).toArray 38)
  have A0 : At X w.heap.size (grV rs up) 38 := a0
  replace A1 := A1.later bX A1.lt
  clear a0
  go_enter Try.func23, Try.ntmps23
  go_wp2_with fail
  rw [← hX]
  clear hX
  go_loopw [5] (fun i wr => ∃ j : Nat, j ≤ 3 ∧ i = .int .i64 j ∧ At wr w.heap.size (grV rs up) 38 ∧ At wr b (grV rs up) T ∧ Below w.heap.size w wr) (fun i _ => 3 - (intOf i).toNat)
  case atStart => exact ⟨0, by omega, rfl, A0, A1, bX⟩
  case round =>
    clear A0 A1 bX
    obtain ⟨j, hj, rfl, A0, A1, bw⟩ := hrel
    by_cases hlt : j < 3
    · have hji : (j : Int) < 3 := by omega
      have hjr : j < rs.length := by rw [h.len]; exact hlt
      have hju : j < up.length := by rw [h.upl]; exact hlt
      have hok := h.ok _ (List.getElem_mem hjr)
      have hinh : Nonempty (LW wr) := ⟨⟨wr, Below.refl _ _⟩⟩
      have q0 : ∀ p : LW wr, p.val.cell? ⟨w.heap.size, 75 + j, Option.none⟩ = some (.bool up[j]) := fun p => cell_later p.ok ((A0.cell _).trans (h.upc j hju))
      have q1 : ∀ p : LW wr, p.val.cell? ⟨b, 75 + j, Option.none⟩ = some (.bool up[j]) := fun p => cell_later p.ok ((A1.cell _).trans (h.upc j hju))
      have q2 : ∀ p : LW wr, p.val.cell? ⟨w.heap.size, j * 25, Option.none⟩ = some (.int .i64 rs[j].f) := fun p => cell_later p.ok ((A0.cell _).trans (h.floor j hjr))
      have q3 : ∀ p : LW wr, p.val.cell? ⟨b, j * 25, Option.none⟩ = some (.int .i64 rs[j].f) := fun p => cell_later p.ok ((A1.cell _).trans (h.floor j hjr))
      have HX : Hid (∀ w', (∃ p : LW wr, w' = p.val) → (Instr.loadAt 24 (.pointer (some ⟨w.heap.size, j * 25 + 1, Option.none⟩))).run Try.prog w' = .ok (.agg (cells8 rs[j].l).toArray) w') := by
        rintro w' ⟨p, rfl⟩; exact load_arr (arr_range (A0.later p.ok A0.lt) h j hjr) hok
      have HR : Hid (∀ w', (∃ p : LW wr, w' = p.val) → (Instr.loadAt 24 (.pointer (some ⟨b, j * 25 + 1, Option.none⟩))).run Try.prog w' = .ok (.agg (cells8 rs[j].l).toArray) w') := by
        rintro w' ⟨p, rfl⟩; exact load_arr (arr_range (A1.later p.ok A1.lt) h j hjr) hok
      have HQ : Hid (∀ w', (Op.equalIn 10000 24 (.agg (cells8 rs[j].l).toArray) (.agg (cells8 rs[j].l).toArray)).run Try.prog w' = .ok true w') := by
        intro w'
        rw [show (10000 : Nat) = 9997 + 3 from rfl, run_eq_arr 9997 _ _ w' hok hok, eqL_refl]
      go_upto_region 4 with fail
      refine wp_region_lw (by kernel_rfl) (by kernel_rfl) ?_
      iterate 31 (go_big_quiet_step (fail))
      go_big_quiet_want
      with_reducible refine q_load HX.out rfl ?_
      go_big_quiet_on
      simp only [Act.put, List.setIfInBounds_toArray, List.set_cons_succ, List.set_cons_zero]
      iterate 6 (go_big_quiet_step (fail))
      go_big_quiet_want
      with_reducible refine q_load HR.out rfl ?_
      go_big_quiet_on
      simp only [Act.put, List.setIfInBounds_toArray, List.set_cons_succ, List.set_cons_zero]
      go_big_quiet_want
      with_reducible refine q_neq HQ.out eqg24 rfl rfl ?_
      go_big_quiet_on
      simp only [Act.put, List.setIfInBounds_toArray, List.set_cons_succ, List.set_cons_zero, Bool.not_true]
      repeat (go_big_quiet_step (fail))
      refine wpQuiet_nil ?_
      rintro Y1 ⟨⟨_, hY⟩, rfl⟩
      clear q0 q1 q2 q3 HX HR HQ hinh
      replace A0 := A0.later hY A0.lt
      replace A1 := A1.later hY A1.lt
      replace bw := bw.trans (hY.mono bw.size)
      go_wp2_with fail
      exact ⟨⟨j + 1, by omega, by go_num, A0, A1, bw⟩, by simp [intOf]; omega⟩
    · obtain rfl : j = 3 := by omega
      go_wp2
      go_ret
      exact ⟨rfl, bw⟩
end Go.Proofs.Yteebhmhjbgehjaa
