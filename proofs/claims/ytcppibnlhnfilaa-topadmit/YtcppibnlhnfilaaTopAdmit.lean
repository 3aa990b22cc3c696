/- Proved: for every replica, block and two cells the law TopAdmit returns true and leaves its arguments as they were; no condition beyond the row's own. -/
import Derived.Test.YtcppibnlhnfilaaGMath
namespace Go.Proofs.Ytcppibnlhnfilaa
open Go.ChangeShapes Go.WideShapes Go.ChangeAt Go.RowKit Go.Deep

theorem part_arr (w : World) (f : Int) (l : List Cel) (hl : RepOK l) : (part 24 (repV f l).toArray 1).run Try.prog w = .ok (.agg (cells8 l).toArray) w := by
  have e : ((repV f l).toArray.extract 1 (1 + 24)) = (cells8 l).toArray := by
    rw [List.extract_toArray, List.extract_eq_take_drop]
    show ((cells8 l).take 24).toArray = _
    rw [List.take_of_length_le (by rw [cells8_len, hl.len]; decide)]
  obtain ⟨i, hi, hs⟩ : ∃ i, Try.prog.info? 24 = some i ∧ i.size = 24 := by
    have : (Try.prog.info? 24).map (·.size) = some 24 := by kernel_rfl
    cases h : Try.prog.info? 24 with
    | none => rw [h] at this; cases this
    | some i => rw [h] at this; exact ⟨i, rfl, by simpa using this⟩
  have hagg : (isAgg 24).run Try.prog w = .ok true w := by
    unfold isAgg; rw [Sem.run_bind, run_underlying Try.underlying24 w]; rfl
  have hsz : (sizeOf 24).run Try.prog w = .ok 24 w := by simp [sizeOf, typeInfo, hi, hs]
  simp only [part, Sem.run_bind, hagg, Result.andThen_ok, if_true, hsz, Sem.run_pure, e]
theorem part_floor (w : World) (f : Int) (l : List Cel) : (part 3 (repV f l).toArray 0).run Try.prog w = .ok (.int .i64 f) w := by
  have hagg : (isAgg 3).run Try.prog w = .ok false w := by
    unfold isAgg; rw [Sem.run_bind, run_underlying Try.underlying3 w]; rfl
  simp [part, Sem.run_bind, hagg, repV]
theorem run_eq_rep (f f' : Int) (l l' : List Cel) (w : World) (h : RepOK l) (h' : RepOK l') : (Op.equalIn 10000 26 (.agg (repV f l).toArray) (.agg (repV f' l').toArray)).run Try.prog w = .ok (eqRep f l f' l') w := by
  rw [show (10000 : Nat) = 9999 + 1 from rfl, run_equalIn_agg w _ _ _ _ (by kernel_rfl) (by kernel_rfl)]
  obtain ⟨F0, F1, hF, t0, o0, t1, o1, n0, n1⟩ : ∃ F0 F1 : Field, (Try.prog.fieldsOf 26).toList = [F0, F1] ∧ F0.type = 3 ∧ F0.offset = 0 ∧ F1.type = 24 ∧ F1.offset = 1 ∧ F0.name ≠ "_" ∧ F1.name ≠ "_" :=
    ⟨_, _, by rw [Program.fieldsOf, Try.underlying26], rfl, rfl, rfl, rfl, by decide, by decide⟩
  rw [hF]
  simp only [Op.eqFields, n0, n1, t0, o0, t1, o1, ne_eq, not_false_eq_true, if_true, Sem.run_bind, part_floor, Result.andThen_ok]
  rw [show (9999 : Nat) = 9998 + 1 from rfl, run_equalIn_int w _ _ _ _ _ _ Try.underlying3]
  simp only [Result.andThen_ok]
  cases hff : (f == f') with
  | false => simp [eqRep, hff]
  | true =>
    simp only [Bool.not_true, Bool.false_eq_true, if_false, Sem.run_bind]
    rw [part_arr w f l h]
    simp only [Result.andThen_ok]
    rw [part_arr w f' l' h']
    simp only [Result.andThen_ok]
    rw [show (9998 + 1 : Nat) = 9996 + 3 from rfl, run_eq_arr _ l l' w h h']
    cases he : eqL l l' <;> simp [eqRep, hff, he]

set_option maxHeartbeats 8000000 in
set_option maxRecDepth 100000 in
theorem topAdmit_walk (f : Int) (l : List Cel) (x : Int) (c o : Cel) (w : World) (hl : RepOK l) :
    Calls Try.prog 3 #[.agg (repV f l).toArray, .int .i64 x, .agg #[.int .i64 c.e, .int .i64 c.n, .string c.d], .agg #[.int .i64 o.e, .int .i64 o.n, .string o.d]] w fun r w' => r = .returned (.bool true) ∧ Below w.heap.size w w' := by
  obtain ⟨X, hX, a0, a1, a2, bX, sX⟩ := three w (.cells (repV f l).toArray 26) (.cells #[.int .i64 c.e, .int .i64 c.n, .string c.d] 23) (.cells #[.int .i64 o.e, .int .i64 o.n, .string o.d] 23)
  have A0 : At X w.heap.size (repV f l) 26 := a0
  have A1 : At X (w.heap.size + 1) c.vs 23 := a1
  have A2 : At X (w.heap.size + 1 + 1) o.vs 23 := a2
  clear a0 a1 a2
  go_enter Try.func3, Try.ntmps3
  go_wp2_with fail
  rw [← hX]
  clear hX
  refine (new_any _).mono ?_
  rintro r w1 ⟨rfl, hb1⟩
  replace A0 := A0.later hb1 A0.lt
  replace A1 := A1.later hb1 A1.lt
  replace A2 := A2.later hb1 A2.lt
  replace bX := bX.trans (hb1.mono bX.size)
  clear hb1
  go_wp2_with fail
  refine (admit_any 1 zero8 1 ⟨1, 2, ⟨#[120]⟩⟩ _ zero8_ok (by decide)).mono ?_
  rintro r w2 ⟨rfl, hb2⟩
  replace A0 := A0.later hb2 A0.lt
  replace A1 := A1.later hb2 A1.lt
  replace A2 := A2.later hb2 A2.lt
  replace bX := bX.trans (hb2.mono bX.size)
  have h29 := A2.lt
  clear hb2
  obtain ⟨x1, HE1⟩ : ∃ x1, Hid (admL 1 zero8 1 ⟨1, 2, ⟨#[120]⟩⟩ = x1) := ⟨_, rfl⟩
  have hx1 : RepOK x1 := HE1.out ▸ admL_ok zero8_ok
  obtain ⟨Z, hst, A9, b9', s9⟩ := one_new w2 (repV 1 x1) (hx1.vlen 1) (vone x1 1)
  have HS0 : Hid ((Instr.storeAt 26 (.pointer (some ⟨w2.heap.size, 0, Option.none⟩)) (.agg (repV 1 x1).toArray)).run Try.prog (w2.alloc (.cells z25.toArray 26)) = .ok () Z) := hst
  replace A0 := A0.later b9' A0.lt
  replace A1 := A1.later b9' A1.lt
  replace A2 := A2.later b9' A2.lt
  replace bZ := bX.trans (b9'.mono bX.size)
  have e6 : Z.cell? ⟨w2.heap.size, 6, Option.none⟩ = some (.string ⟨#[120]⟩) := by rw [A9.cell, ← HE1.out]; rfl
  rw [HE1.out]
  clear hst b9' s9 bX
  have hx9 := hx1.vlen 1
  by_cases hx0 : x < 0
  · have hx0' : decide (x < 0) = true := by simpa using hx0
    clear hx0
    go_wp2_with (first | (with_reducible refine wl_store HS0.out rfl rfl ?_))
    go_ret
    exact ⟨rfl, bZ⟩
  have hx0' : decide (x < 0) = false := by simpa using hx0
  by_cases hx7 : 7 < x
  · have hx7' : decide (7 < x) = true := by simpa using hx7
    clear hx7
    go_wp2_with (first | (with_reducible refine wl_store HS0.out rfl rfl ?_))
    go_ret
    exact ⟨rfl, bZ⟩
  have hx7' : decide (7 < x) = false := by simpa using hx7
  obtain ⟨k, rfl⟩ : ∃ k : Nat, x = k := ⟨x.toNat, by omega⟩
  have hk8 : k < 8 := by omega
  clear hx0 hx7
  by_cases hok' : c.e = f
  · have hok : (c.e == f) = true := by simpa using hok'
    clear hok'
    have HR : Hid ((Instr.loadAt 26 (.pointer (some ⟨w.heap.size, 0, Option.none⟩))).run Try.prog Z = .ok (.agg (repV f l).toArray) Z) := load_rep A0 (hl.vlen f)
    have HC : Hid ((Instr.loadAt 23 (.pointer (some ⟨w.heap.size + 1, 0, Option.none⟩))).run Try.prog Z = .ok (.agg #[.int .i64 c.e, .int .i64 c.n, .string c.d]) Z) := load_cel A1.whole
    go_wp2_with (first | (with_reducible refine wl_store HS0.out rfl rfl ?_) | (with_reducible refine wl_load HR.out rfl rfl ?_) | (with_reducible refine wl_load HC.out rfl rfl ?_))
    refine (admit_any f l k c _ hl hk8).mono ?_
    rintro r Z1 ⟨rfl, hb1⟩
    clear HR HC HS0
    replace A0 := A0.later hb1 A0.lt
    replace A1 := A1.later hb1 A1.lt
    replace A2 := A2.later hb1 A2.lt
    replace A9 := A9.later hb1 A9.lt
    replace bZ := bZ.trans (hb1.mono bZ.size)
    clear hb1
    obtain ⟨r1, HE⟩ : ∃ r1, Hid (admL f l k c = r1) := ⟨_, rfl⟩
    have hr1 : RepOK r1 := HE.out ▸ admL_ok hl
    have hst := store_rep A9 hx9 (hr1.vlen f) (vone r1 f)
    have A9' := At.set (repV f r1) 0 _ _ A9
    rw [setL_whole _ _ (by rw [hx9, hr1.vlen f])] at A9'
    replace A0 := At.set_ne (show w.heap.size ≠ w2.heap.size by omega) (repV f r1) 0 _ A0
    replace A1 := At.set_ne (show w.heap.size + 1 ≠ w2.heap.size by omega) (repV f r1) 0 _ A1
    replace A2 := At.set_ne (show w.heap.size + 1 + 1 ≠ w2.heap.size by omega) (repV f r1) 0 _ A2
    replace bZ := below_setCells (show w.heap.size ≤ w2.heap.size by omega) (repV f r1) 0 _ bZ
    generalize Z1.setCells w2.heap.size 0 (repV f r1) = Z2 at *
    have HS : Hid ((Instr.storeAt 26 (.pointer (some ⟨w2.heap.size, 0, Option.none⟩)) (.agg (repV f r1).toArray)).run Try.prog Z1 = .ok () Z2) := hst
    clear hst A9
    rw [HE.out, hok]
    go_wp2_with (first | (with_reducible refine wl_store HS.out rfl rfl ?_))
    clear HS
    have hinh : Nonempty (LW Z2) := ⟨⟨Z2, Below.refl _ _⟩⟩
    have k8 : (k : Int) < 8 := by omega
    have hkl : k < l.length := by rw [hl.len]; exact hk8
    have hkr : k < r1.length := by rw [hr1.len]; exact hk8
    have HN : Hid (newerB ⟨l[k].e, l[k].n, l[k].d⟩ ⟨r1[k].e, r1[k].n, r1[k].d⟩ = false) := by
      have := HE.out
      subst this
      rw [admL_get hkl]; exact adm1_old f l[k] c
    obtain ⟨g0, g1, g2⟩ := repV_get f l k hkl
    obtain ⟨u0, u1, u2⟩ := repV_get f r1 k hkr
    have q0 : ∀ p : LW Z2, p.val.cell? ⟨w.heap.size, 1 + k * 3, Option.none⟩ = some (.int .i64 l[k].e) := fun p => cell_later p.ok ((A0.cell _).trans g0)
    have q1 : ∀ p : LW Z2, p.val.cell? ⟨w.heap.size, 1 + k * 3 + 1, Option.none⟩ = some (.int .i64 l[k].n) := fun p => cell_later p.ok ((A0.cell _).trans g1)
    have q2 : ∀ p : LW Z2, p.val.cell? ⟨w.heap.size, 1 + k * 3 + 2, Option.none⟩ = some (.string l[k].d) := fun p => cell_later p.ok ((A0.cell _).trans g2)
    have s0 : ∀ p : LW Z2, p.val.cell? ⟨w2.heap.size, 1 + k * 3, Option.none⟩ = some (.int .i64 r1[k].e) := fun p => cell_later p.ok ((A9'.cell _).trans u0)
    have s1 : ∀ p : LW Z2, p.val.cell? ⟨w2.heap.size, 1 + k * 3 + 1, Option.none⟩ = some (.int .i64 r1[k].n) := fun p => cell_later p.ok ((A9'.cell _).trans u1)
    have s2 : ∀ p : LW Z2, p.val.cell? ⟨w2.heap.size, 1 + k * 3 + 2, Option.none⟩ = some (.string r1[k].d) := fun p => cell_later p.ok ((A9'.cell _).trans u2)
    have v0 : ∀ p : LW Z2, p.val.cell? ⟨w.heap.size, 0, Option.none⟩ = some (.int .i64 f) := fun p => cell_later p.ok (A0.cell 0)
    have v1 : ∀ p : LW Z2, p.val.cell? ⟨w.heap.size + 1, 0, Option.none⟩ = some (.int .i64 c.e) := fun p => cell_later p.ok (A1.cell 0)
    have HX : Hid (∀ w', (∃ p : LW Z2, w' = p.val) → (Instr.loadAt 26 (.pointer (some ⟨w2.heap.size, 0, Option.none⟩))).run Try.prog w' = .ok (.agg (repV f r1).toArray) w') := by
      rintro w' ⟨p, rfl⟩; exact load_rep (A9'.later p.ok A9'.lt) (hr1.vlen f)
    have HR : Hid (∀ w', (∃ p : LW Z2, w' = p.val) → (Instr.loadAt 26 (.pointer (some ⟨w.heap.size, 0, Option.none⟩))).run Try.prog w' = .ok (.agg (repV f l).toArray) w') := by
      rintro w' ⟨p, rfl⟩; exact load_rep (A0.later p.ok A0.lt) (hl.vlen f)
    clear g0 g1 g2 u0 u1 u2
    have hne : (c.e != f) = false := by simp only [bne, hok]; rfl
    refine wp_region_lw (by kernel_rfl) (by kernel_rfl) ?_
    repeat (go_big_quiet_step ((go_at_call 10; exact Calls.quiet_lw (newer_any l[k].e l[k].n r1[k].e r1[k].n l[k].d r1[k].d _))))
    refine wpQuiet_nil ?_
    rintro Z3 ⟨⟨_, hb3⟩, rfl⟩
    rw [HN.out]
    clear q0 q1 q2 s0 s1 s2 v0 v1 HX HR HN hinh
    replace A0 := A0.later hb3 A0.lt
    replace A1 := A1.later hb3 A1.lt
    replace A2 := A2.later hb3 A2.lt
    replace A9' := A9'.later hb3 A9'.lt
    replace bZ := bZ.trans (hb3.mono bZ.size)
    clear hb3
    have HR : Hid ((Instr.loadAt 26 (.pointer (some ⟨w2.heap.size, 0, Option.none⟩))).run Try.prog Z3 = .ok (.agg (repV f r1).toArray) Z3) := load_rep A9' (hr1.vlen f)
    have HC : Hid ((Instr.loadAt 23 (.pointer (some ⟨w.heap.size + 1, 0, Option.none⟩))).run Try.prog Z3 = .ok (.agg #[.int .i64 c.e, .int .i64 c.n, .string c.d]) Z3) := load_cel A1.whole
    go_wp2_with (first | (with_reducible refine wl_load HR.out rfl rfl ?_) | (with_reducible refine wl_load HC.out rfl rfl ?_))
    refine (admit_any f r1 k c _ hr1 hk8).mono ?_
    rintro r Z4 ⟨rfl, hb4⟩
    clear HR HC
    have HI : Hid (admL f r1 k c = r1) := by show _ = _; rw [← HE.out, admL_two hkl, adm1_idem, ← admL_is hkl]
    replace A0 := A0.later hb4 A0.lt
    replace A1 := A1.later hb4 A1.lt
    replace A2 := A2.later hb4 A2.lt
    replace A9' := A9'.later hb4 A9'.lt
    replace bZ := bZ.trans (hb4.mono bZ.size)
    clear hb4
    obtain ⟨Z5, hst, A11, b5, s5⟩ := one_new Z4 (repV f r1) (hr1.vlen f) (vone r1 f)
    have HS : Hid ((Instr.storeAt 26 (.pointer (some ⟨Z4.heap.size, 0, Option.none⟩)) (.agg (repV f r1).toArray)).run Try.prog (Z4.alloc (.cells z25.toArray 26)) = .ok () Z5) := hst
    have hb4 := A9'.lt
    replace A0 := A0.later b5 A0.lt
    replace A1 := A1.later b5 A1.lt
    replace A2 := A2.later b5 A2.lt
    replace A9' := A9'.later b5 A9'.lt
    replace bZ := bZ.trans (b5.mono bZ.size)
    clear hst b5 s5
    have HL1 : Hid ((Instr.loadAt 26 (.pointer (some ⟨Z4.heap.size, 0, Option.none⟩))).run Try.prog Z5 = .ok (.agg (repV f r1).toArray) Z5) := load_rep A11 (hr1.vlen f)
    have HL2 : Hid ((Instr.loadAt 26 (.pointer (some ⟨w2.heap.size, 0, Option.none⟩))).run Try.prog Z5 = .ok (.agg (repV f r1).toArray) Z5) := load_rep A9' (hr1.vlen f)
    have HQ : Hid ((Op.equalIn 10000 26 (.agg (repV f r1).toArray) (.agg (repV f r1).toArray)).run Try.prog Z5 = .ok true Z5) := by
      show _ = _
      rw [run_eq_rep f f r1 r1 Z5 hr1 hr1, eqRep_refl]
    have d0 : Z5.cell? ⟨w.heap.size + 1, 0, Option.none⟩ = some (.int .i64 c.e) := A1.cell 0
    have d1 : Z5.cell? ⟨w.heap.size + 1, 1, Option.none⟩ = some (.int .i64 c.n) := A1.cell 1
    have o0 : Z5.cell? ⟨w.heap.size + 1 + 1, 0, Option.none⟩ = some (.int .i64 o.e) := A2.cell 0
    have o1 : Z5.cell? ⟨w.heap.size + 1 + 1, 1, Option.none⟩ = some (.int .i64 o.n) := A2.cell 1
    rw [HI.out, hok]
    by_cases hsame : c.e = o.e ∧ c.n = o.n
    · have n1 : (c.e == o.e) = true := by simpa using hsame.1
      have n2 : (c.n == o.n) = true := by simpa using hsame.2
      clear hsame
      go_wp2_with (first | (with_reducible refine wl_store HS.out rfl rfl ?_) | (with_reducible refine wl_load HL1.out rfl rfl ?_) | (with_reducible refine wl_load HL2.out rfl rfl ?_) | (with_reducible refine wl_neq HQ.out eqg26 rfl rfl rfl ?_))
      go_ret
      exact ⟨rfl, bZ⟩
    have HM : Hid (admL f r1 k o = admL f (admL f l k o) k c) := by
      show _ = _
      rw [← HE.out, admL_two hkl, admL_two hkl, adm1_comm f l[k] c o hsame]
    have HO : Hid ((Instr.loadAt 23 (.pointer (some ⟨w.heap.size + 1 + 1, 0, Option.none⟩))).run Try.prog Z5 = .ok (.agg #[.int .i64 o.e, .int .i64 o.n, .string o.d]) Z5) := load_cel A2.whole
    have hcases : (c.e == o.e) = false ∨ ((c.e == o.e) = true ∧ (c.n == o.n) = false) := by
      by_cases h1 : c.e = o.e
      · right; refine ⟨by simpa using h1, ?_⟩
        by_cases h2 : c.n = o.n
        · exact absurd ⟨h1, h2⟩ hsame
        · simpa using h2
      · left; simpa using h1
    clear hsame
    rcases hcases with n1 | ⟨n1, n2⟩
    all_goals (
      go_wp2_with (first | (with_reducible refine wl_store HS.out rfl rfl ?_) | (with_reducible refine wl_load HL1.out rfl rfl ?_) | (with_reducible refine wl_load HL2.out rfl rfl ?_) | (with_reducible refine wl_load HO.out rfl rfl ?_) | (with_reducible refine wl_neq HQ.out eqg26 rfl rfl rfl ?_))
      clear HS HL1 HL2 HO HQ d0 d1 o0 o1
      refine (admit_any f r1 k o _ hr1 hk8).mono ?_
      rintro r Z6 ⟨rfl, hb6⟩
      replace A0 := A0.later hb6 A0.lt
      replace A1 := A1.later hb6 A1.lt
      replace A2 := A2.later hb6 A2.lt
      replace bZ := bZ.trans (hb6.mono bZ.size)
      clear hb6
      have hr2 : RepOK (admL f r1 k o) := admL_ok hr1
      obtain ⟨Z7, hst, A13, b7, s7⟩ := one_new Z6 (repV f (admL f r1 k o)) (hr2.vlen f) (vone _ f)
      have HS : Hid ((Instr.storeAt 26 (.pointer (some ⟨Z6.heap.size, 0, Option.none⟩)) (.agg (repV f (admL f r1 k o)).toArray)).run Try.prog (Z6.alloc (.cells z25.toArray 26)) = .ok () Z7) := hst
      replace A0 := A0.later b7 A0.lt
      replace A1 := A1.later b7 A1.lt
      replace A2 := A2.later b7 A2.lt
      replace bZ := bZ.trans (b7.mono bZ.size)
      clear hst b7 s7
      have HL : Hid ((Instr.loadAt 26 (.pointer (some ⟨w.heap.size, 0, Option.none⟩))).run Try.prog Z7 = .ok (.agg (repV f l).toArray) Z7) := load_rep A0 (hl.vlen f)
      have HO : Hid ((Instr.loadAt 23 (.pointer (some ⟨w.heap.size + 1 + 1, 0, Option.none⟩))).run Try.prog Z7 = .ok (.agg #[.int .i64 o.e, .int .i64 o.n, .string o.d]) Z7) := load_cel A2.whole
      go_wp2_with (first | (with_reducible refine wl_store HS.out rfl rfl ?_) | (with_reducible refine wl_load HL.out rfl rfl ?_) | (with_reducible refine wl_load HO.out rfl rfl ?_))
      clear HS HL HO
      refine (admit_any f l k o _ hl hk8).mono ?_
      rintro r Z8 ⟨rfl, hb8⟩
      replace A1 := A1.later hb8 A1.lt
      replace A13 := A13.later hb8 A13.lt
      replace bZ := bZ.trans (hb8.mono bZ.size)
      clear hb8
      have hr3 : RepOK (admL f l k o) := admL_ok hl
      have h138 := A13.lt
      have h18 := A1.lt
      obtain ⟨Z9, hst, A15, b9', s9⟩ := one_new Z8 (repV f (admL f l k o)) (hr3.vlen f) (vone _ f)
      have HS : Hid ((Instr.storeAt 26 (.pointer (some ⟨Z8.heap.size, 0, Option.none⟩)) (.agg (repV f (admL f l k o)).toArray)).run Try.prog (Z8.alloc (.cells z25.toArray 26)) = .ok () Z9) := hst
      have b8s := bZ.size
      replace A1 := A1.later b9' A1.lt
      replace A13 := A13.later b9' A13.lt
      replace bZ := bZ.trans (b9'.mono bZ.size)
      clear hst b9' s9
      have HL : Hid ((Instr.loadAt 26 (.pointer (some ⟨Z8.heap.size, 0, Option.none⟩))).run Try.prog Z9 = .ok (.agg (repV f (admL f l k o)).toArray) Z9) := load_rep A15 (hr3.vlen f)
      have HC : Hid ((Instr.loadAt 23 (.pointer (some ⟨w.heap.size + 1, 0, Option.none⟩))).run Try.prog Z9 = .ok (.agg #[.int .i64 c.e, .int .i64 c.n, .string c.d]) Z9) := load_cel A1.whole
      go_wp2_with (first | (with_reducible refine wl_store HS.out rfl rfl ?_) | (with_reducible refine wl_load HL.out rfl rfl ?_) | (with_reducible refine wl_load HC.out rfl rfl ?_))
      clear HS HL HC
      refine (admit_any f (admL f l k o) k c _ hr3 hk8).mono ?_
      rintro r Z10 ⟨rfl, hb10⟩
      replace A13 := A13.later hb10 A13.lt
      replace A15 := A15.later hb10 A15.lt
      replace bZ := bZ.trans (hb10.mono bZ.size)
      clear hb10
      rw [← HM.out]
      have hst := store_rep A15 (hr3.vlen f) (hr2.vlen f) (vone _ f)
      have A15' := At.set (repV f (admL f r1 k o)) 0 _ _ A15
      rw [setL_whole _ _ (by rw [hr3.vlen f, hr2.vlen f])] at A15'
      replace A13 := At.set_ne (show Z6.heap.size ≠ Z8.heap.size by omega) (repV f (admL f r1 k o)) 0 _ A13
      replace bZ := below_setCells (show w.heap.size ≤ Z8.heap.size by omega) (repV f (admL f r1 k o)) 0 _ bZ
      generalize Z10.setCells Z8.heap.size 0 (repV f (admL f r1 k o)) = Z11 at *
      have HS : Hid ((Instr.storeAt 26 (.pointer (some ⟨Z8.heap.size, 0, Option.none⟩)) (.agg (repV f (admL f r1 k o)).toArray)).run Try.prog Z10 = .ok () Z11) := hst
      have HL1 : Hid ((Instr.loadAt 26 (.pointer (some ⟨Z6.heap.size, 0, Option.none⟩))).run Try.prog Z11 = .ok (.agg (repV f (admL f r1 k o)).toArray) Z11) := load_rep A13 (hr2.vlen f)
      have HL2 : Hid ((Instr.loadAt 26 (.pointer (some ⟨Z8.heap.size, 0, Option.none⟩))).run Try.prog Z11 = .ok (.agg (repV f (admL f r1 k o)).toArray) Z11) := load_rep A15' (hr2.vlen f)
      have HQ : Hid ((Op.equalIn 10000 26 (.agg (repV f (admL f r1 k o)).toArray) (.agg (repV f (admL f r1 k o)).toArray)).run Try.prog Z11 = .ok true Z11) := by
        show _ = _
        rw [run_eq_rep f f _ _ Z11 hr2 hr2, eqRep_refl]
      clear hst A15
      go_wp2_with (first | (with_reducible refine wl_store HS.out rfl rfl ?_) | (with_reducible refine wl_load HL1.out rfl rfl ?_) | (with_reducible refine wl_load HL2.out rfl rfl ?_) | (with_reducible refine wl_eql HQ.out eqg26 rfl rfl rfl ?_))
      go_ret
      exact ⟨rfl, bZ⟩)
  · have hok : (c.e == f) = false := by simpa using hok'
    clear hok'
    have HR : Hid ((Instr.loadAt 26 (.pointer (some ⟨w.heap.size, 0, Option.none⟩))).run Try.prog Z = .ok (.agg (repV f l).toArray) Z) := load_rep A0 (hl.vlen f)
    have HC : Hid ((Instr.loadAt 23 (.pointer (some ⟨w.heap.size + 1, 0, Option.none⟩))).run Try.prog Z = .ok (.agg #[.int .i64 c.e, .int .i64 c.n, .string c.d]) Z) := load_cel A1.whole
    go_wp2_with (first | (with_reducible refine wl_store HS0.out rfl rfl ?_) | (with_reducible refine wl_load HR.out rfl rfl ?_) | (with_reducible refine wl_load HC.out rfl rfl ?_))
    refine (admit_any f l k c _ hl hk8).mono ?_
    rintro r Z1 ⟨rfl, hb1⟩
    clear HR HC HS0
    replace A0 := A0.later hb1 A0.lt
    replace A1 := A1.later hb1 A1.lt
    replace A2 := A2.later hb1 A2.lt
    replace A9 := A9.later hb1 A9.lt
    replace bZ := bZ.trans (hb1.mono bZ.size)
    clear hb1
    obtain ⟨r1, HE⟩ : ∃ r1, Hid (admL f l k c = r1) := ⟨_, rfl⟩
    have hr1 : RepOK r1 := HE.out ▸ admL_ok hl
    have hst := store_rep A9 hx9 (hr1.vlen f) (vone r1 f)
    have A9' := At.set (repV f r1) 0 _ _ A9
    rw [setL_whole _ _ (by rw [hx9, hr1.vlen f])] at A9'
    replace A0 := At.set_ne (show w.heap.size ≠ w2.heap.size by omega) (repV f r1) 0 _ A0
    replace A1 := At.set_ne (show w.heap.size + 1 ≠ w2.heap.size by omega) (repV f r1) 0 _ A1
    replace A2 := At.set_ne (show w.heap.size + 1 + 1 ≠ w2.heap.size by omega) (repV f r1) 0 _ A2
    replace bZ := below_setCells (show w.heap.size ≤ w2.heap.size by omega) (repV f r1) 0 _ bZ
    generalize Z1.setCells w2.heap.size 0 (repV f r1) = Z2 at *
    have HS : Hid ((Instr.storeAt 26 (.pointer (some ⟨w2.heap.size, 0, Option.none⟩)) (.agg (repV f r1).toArray)).run Try.prog Z1 = .ok () Z2) := hst
    clear hst A9
    rw [HE.out, hok]
    go_wp2_with (first | (with_reducible refine wl_store HS.out rfl rfl ?_))
    clear HS
    have hinh : Nonempty (LW Z2) := ⟨⟨Z2, Below.refl _ _⟩⟩
    have k8 : (k : Int) < 8 := by omega
    have hkl : k < l.length := by rw [hl.len]; exact hk8
    have hkr : k < r1.length := by rw [hr1.len]; exact hk8
    have HN : Hid (newerB ⟨l[k].e, l[k].n, l[k].d⟩ ⟨r1[k].e, r1[k].n, r1[k].d⟩ = false) := by
      have := HE.out
      subst this
      rw [admL_get hkl]; exact adm1_old f l[k] c
    obtain ⟨g0, g1, g2⟩ := repV_get f l k hkl
    obtain ⟨u0, u1, u2⟩ := repV_get f r1 k hkr
    have q0 : ∀ p : LW Z2, p.val.cell? ⟨w.heap.size, 1 + k * 3, Option.none⟩ = some (.int .i64 l[k].e) := fun p => cell_later p.ok ((A0.cell _).trans g0)
    have q1 : ∀ p : LW Z2, p.val.cell? ⟨w.heap.size, 1 + k * 3 + 1, Option.none⟩ = some (.int .i64 l[k].n) := fun p => cell_later p.ok ((A0.cell _).trans g1)
    have q2 : ∀ p : LW Z2, p.val.cell? ⟨w.heap.size, 1 + k * 3 + 2, Option.none⟩ = some (.string l[k].d) := fun p => cell_later p.ok ((A0.cell _).trans g2)
    have s0 : ∀ p : LW Z2, p.val.cell? ⟨w2.heap.size, 1 + k * 3, Option.none⟩ = some (.int .i64 r1[k].e) := fun p => cell_later p.ok ((A9'.cell _).trans u0)
    have s1 : ∀ p : LW Z2, p.val.cell? ⟨w2.heap.size, 1 + k * 3 + 1, Option.none⟩ = some (.int .i64 r1[k].n) := fun p => cell_later p.ok ((A9'.cell _).trans u1)
    have s2 : ∀ p : LW Z2, p.val.cell? ⟨w2.heap.size, 1 + k * 3 + 2, Option.none⟩ = some (.string r1[k].d) := fun p => cell_later p.ok ((A9'.cell _).trans u2)
    have v0 : ∀ p : LW Z2, p.val.cell? ⟨w.heap.size, 0, Option.none⟩ = some (.int .i64 f) := fun p => cell_later p.ok (A0.cell 0)
    have v1 : ∀ p : LW Z2, p.val.cell? ⟨w.heap.size + 1, 0, Option.none⟩ = some (.int .i64 c.e) := fun p => cell_later p.ok (A1.cell 0)
    have HX : Hid (∀ w', (∃ p : LW Z2, w' = p.val) → (Instr.loadAt 26 (.pointer (some ⟨w2.heap.size, 0, Option.none⟩))).run Try.prog w' = .ok (.agg (repV f r1).toArray) w') := by
      rintro w' ⟨p, rfl⟩; exact load_rep (A9'.later p.ok A9'.lt) (hr1.vlen f)
    have HR : Hid (∀ w', (∃ p : LW Z2, w' = p.val) → (Instr.loadAt 26 (.pointer (some ⟨w.heap.size, 0, Option.none⟩))).run Try.prog w' = .ok (.agg (repV f l).toArray) w') := by
      rintro w' ⟨p, rfl⟩; exact load_rep (A0.later p.ok A0.lt) (hl.vlen f)
    clear g0 g1 g2 u0 u1 u2
    have HQ : Hid (∀ w', (Op.equalIn 10000 26 (.agg (repV f r1).toArray) (.agg (repV f l).toArray)).run Try.prog w' = .ok true w') := by
      intro w'
      have e : r1 = l := by rw [← HE.out]; unfold admL; rw [if_neg (by simpa using hok)]
      rw [run_eq_rep f f r1 l w' hr1 hl, e, eqRep_refl]
    refine wp_region_lw (by kernel_rfl) (by kernel_rfl) ?_
    iterate 3 (go_big_quiet_step (fail))
    go_big_quiet_want
    with_reducible refine q_load HX.out rfl ?_
    go_big_quiet_on
    simp only [Act.put, List.setIfInBounds_toArray, List.set_cons_succ, List.set_cons_zero]
    go_big_quiet_want
    with_reducible refine q_load HR.out rfl ?_
    go_big_quiet_on
    simp only [Act.put, List.setIfInBounds_toArray, List.set_cons_succ, List.set_cons_zero]
    go_big_quiet_want
    with_reducible refine q_neq HQ.out eqg26 rfl rfl ?_
    go_big_quiet_on
    simp only [Act.put, List.setIfInBounds_toArray, List.set_cons_succ, List.set_cons_zero, Bool.not_true]
    repeat (go_big_quiet_step ((go_at_call 10; exact Calls.quiet_lw (newer_any l[k].e l[k].n r1[k].e r1[k].n l[k].d r1[k].d _))))
    refine wpQuiet_nil ?_
    rintro Z3 ⟨⟨_, hb3⟩, rfl⟩
    rw [HN.out]
    clear q0 q1 q2 s0 s1 s2 v0 v1 HX HR HN hinh HQ
    replace A0 := A0.later hb3 A0.lt
    replace A1 := A1.later hb3 A1.lt
    replace A2 := A2.later hb3 A2.lt
    replace A9' := A9'.later hb3 A9'.lt
    replace bZ := bZ.trans (hb3.mono bZ.size)
    clear hb3
    have HR : Hid ((Instr.loadAt 26 (.pointer (some ⟨w2.heap.size, 0, Option.none⟩))).run Try.prog Z3 = .ok (.agg (repV f r1).toArray) Z3) := load_rep A9' (hr1.vlen f)
    have HC : Hid ((Instr.loadAt 23 (.pointer (some ⟨w.heap.size + 1, 0, Option.none⟩))).run Try.prog Z3 = .ok (.agg #[.int .i64 c.e, .int .i64 c.n, .string c.d]) Z3) := load_cel A1.whole
    go_wp2_with (first | (with_reducible refine wl_load HR.out rfl rfl ?_) | (with_reducible refine wl_load HC.out rfl rfl ?_))
    refine (admit_any f r1 k c _ hr1 hk8).mono ?_
    rintro r Z4 ⟨rfl, hb4⟩
    clear HR HC
    have HI : Hid (admL f r1 k c = r1) := by show _ = _; rw [← HE.out, admL_two hkl, adm1_idem, ← admL_is hkl]
    replace A0 := A0.later hb4 A0.lt
    replace A1 := A1.later hb4 A1.lt
    replace A2 := A2.later hb4 A2.lt
    replace A9' := A9'.later hb4 A9'.lt
    replace bZ := bZ.trans (hb4.mono bZ.size)
    clear hb4
    obtain ⟨Z5, hst, A11, b5, s5⟩ := one_new Z4 (repV f r1) (hr1.vlen f) (vone r1 f)
    have HS : Hid ((Instr.storeAt 26 (.pointer (some ⟨Z4.heap.size, 0, Option.none⟩)) (.agg (repV f r1).toArray)).run Try.prog (Z4.alloc (.cells z25.toArray 26)) = .ok () Z5) := hst
    have hb4 := A9'.lt
    replace A0 := A0.later b5 A0.lt
    replace A1 := A1.later b5 A1.lt
    replace A2 := A2.later b5 A2.lt
    replace A9' := A9'.later b5 A9'.lt
    replace bZ := bZ.trans (b5.mono bZ.size)
    clear hst b5 s5
    have HL1 : Hid ((Instr.loadAt 26 (.pointer (some ⟨Z4.heap.size, 0, Option.none⟩))).run Try.prog Z5 = .ok (.agg (repV f r1).toArray) Z5) := load_rep A11 (hr1.vlen f)
    have HL2 : Hid ((Instr.loadAt 26 (.pointer (some ⟨w2.heap.size, 0, Option.none⟩))).run Try.prog Z5 = .ok (.agg (repV f r1).toArray) Z5) := load_rep A9' (hr1.vlen f)
    have HQ : Hid ((Op.equalIn 10000 26 (.agg (repV f r1).toArray) (.agg (repV f r1).toArray)).run Try.prog Z5 = .ok true Z5) := by
      show _ = _
      rw [run_eq_rep f f r1 r1 Z5 hr1 hr1, eqRep_refl]
    have d0 : Z5.cell? ⟨w.heap.size + 1, 0, Option.none⟩ = some (.int .i64 c.e) := A1.cell 0
    have d1 : Z5.cell? ⟨w.heap.size + 1, 1, Option.none⟩ = some (.int .i64 c.n) := A1.cell 1
    have o0 : Z5.cell? ⟨w.heap.size + 1 + 1, 0, Option.none⟩ = some (.int .i64 o.e) := A2.cell 0
    have o1 : Z5.cell? ⟨w.heap.size + 1 + 1, 1, Option.none⟩ = some (.int .i64 o.n) := A2.cell 1
    rw [HI.out, hok]
    by_cases hsame : c.e = o.e ∧ c.n = o.n
    · have n1 : (c.e == o.e) = true := by simpa using hsame.1
      have n2 : (c.n == o.n) = true := by simpa using hsame.2
      clear hsame
      go_wp2_with (first | (with_reducible refine wl_store HS.out rfl rfl ?_) | (with_reducible refine wl_load HL1.out rfl rfl ?_) | (with_reducible refine wl_load HL2.out rfl rfl ?_) | (with_reducible refine wl_neq HQ.out eqg26 rfl rfl rfl ?_))
      go_ret
      exact ⟨rfl, bZ⟩
    have HM : Hid (admL f r1 k o = admL f (admL f l k o) k c) := by
      show _ = _
      rw [← HE.out, admL_two hkl, admL_two hkl, adm1_comm f l[k] c o hsame]
    have HO : Hid ((Instr.loadAt 23 (.pointer (some ⟨w.heap.size + 1 + 1, 0, Option.none⟩))).run Try.prog Z5 = .ok (.agg #[.int .i64 o.e, .int .i64 o.n, .string o.d]) Z5) := load_cel A2.whole
    have hcases : (c.e == o.e) = false ∨ ((c.e == o.e) = true ∧ (c.n == o.n) = false) := by
      by_cases h1 : c.e = o.e
      · right; refine ⟨by simpa using h1, ?_⟩
        by_cases h2 : c.n = o.n
        · exact absurd ⟨h1, h2⟩ hsame
        · simpa using h2
      · left; simpa using h1
    clear hsame
    rcases hcases with n1 | ⟨n1, n2⟩
    all_goals (
      go_wp2_with (first | (with_reducible refine wl_store HS.out rfl rfl ?_) | (with_reducible refine wl_load HL1.out rfl rfl ?_) | (with_reducible refine wl_load HL2.out rfl rfl ?_) | (with_reducible refine wl_load HO.out rfl rfl ?_) | (with_reducible refine wl_neq HQ.out eqg26 rfl rfl rfl ?_))
      clear HS HL1 HL2 HO HQ d0 d1 o0 o1
      refine (admit_any f r1 k o _ hr1 hk8).mono ?_
      rintro r Z6 ⟨rfl, hb6⟩
      replace A0 := A0.later hb6 A0.lt
      replace A1 := A1.later hb6 A1.lt
      replace A2 := A2.later hb6 A2.lt
      replace bZ := bZ.trans (hb6.mono bZ.size)
      clear hb6
      have hr2 : RepOK (admL f r1 k o) := admL_ok hr1
      obtain ⟨Z7, hst, A13, b7, s7⟩ := one_new Z6 (repV f (admL f r1 k o)) (hr2.vlen f) (vone _ f)
      have HS : Hid ((Instr.storeAt 26 (.pointer (some ⟨Z6.heap.size, 0, Option.none⟩)) (.agg (repV f (admL f r1 k o)).toArray)).run Try.prog (Z6.alloc (.cells z25.toArray 26)) = .ok () Z7) := hst
      replace A0 := A0.later b7 A0.lt
      replace A1 := A1.later b7 A1.lt
      replace A2 := A2.later b7 A2.lt
      replace bZ := bZ.trans (b7.mono bZ.size)
      clear hst b7 s7
      have HL : Hid ((Instr.loadAt 26 (.pointer (some ⟨w.heap.size, 0, Option.none⟩))).run Try.prog Z7 = .ok (.agg (repV f l).toArray) Z7) := load_rep A0 (hl.vlen f)
      have HO : Hid ((Instr.loadAt 23 (.pointer (some ⟨w.heap.size + 1 + 1, 0, Option.none⟩))).run Try.prog Z7 = .ok (.agg #[.int .i64 o.e, .int .i64 o.n, .string o.d]) Z7) := load_cel A2.whole
      go_wp2_with (first | (with_reducible refine wl_store HS.out rfl rfl ?_) | (with_reducible refine wl_load HL.out rfl rfl ?_) | (with_reducible refine wl_load HO.out rfl rfl ?_))
      clear HS HL HO
      refine (admit_any f l k o _ hl hk8).mono ?_
      rintro r Z8 ⟨rfl, hb8⟩
      replace A1 := A1.later hb8 A1.lt
      replace A13 := A13.later hb8 A13.lt
      replace bZ := bZ.trans (hb8.mono bZ.size)
      clear hb8
      have hr3 : RepOK (admL f l k o) := admL_ok hl
      have h138 := A13.lt
      have h18 := A1.lt
      obtain ⟨Z9, hst, A15, b9', s9⟩ := one_new Z8 (repV f (admL f l k o)) (hr3.vlen f) (vone _ f)
      have HS : Hid ((Instr.storeAt 26 (.pointer (some ⟨Z8.heap.size, 0, Option.none⟩)) (.agg (repV f (admL f l k o)).toArray)).run Try.prog (Z8.alloc (.cells z25.toArray 26)) = .ok () Z9) := hst
      have b8s := bZ.size
      replace A1 := A1.later b9' A1.lt
      replace A13 := A13.later b9' A13.lt
      replace bZ := bZ.trans (b9'.mono bZ.size)
      clear hst b9' s9
      have HL : Hid ((Instr.loadAt 26 (.pointer (some ⟨Z8.heap.size, 0, Option.none⟩))).run Try.prog Z9 = .ok (.agg (repV f (admL f l k o)).toArray) Z9) := load_rep A15 (hr3.vlen f)
      have HC : Hid ((Instr.loadAt 23 (.pointer (some ⟨w.heap.size + 1, 0, Option.none⟩))).run Try.prog Z9 = .ok (.agg #[.int .i64 c.e, .int .i64 c.n, .string c.d]) Z9) := load_cel A1.whole
      go_wp2_with (first | (with_reducible refine wl_store HS.out rfl rfl ?_) | (with_reducible refine wl_load HL.out rfl rfl ?_) | (with_reducible refine wl_load HC.out rfl rfl ?_))
      clear HS HL HC
      refine (admit_any f (admL f l k o) k c _ hr3 hk8).mono ?_
      rintro r Z10 ⟨rfl, hb10⟩
      replace A13 := A13.later hb10 A13.lt
      replace A15 := A15.later hb10 A15.lt
      replace bZ := bZ.trans (hb10.mono bZ.size)
      clear hb10
      rw [← HM.out]
      have hst := store_rep A15 (hr3.vlen f) (hr2.vlen f) (vone _ f)
      have A15' := At.set (repV f (admL f r1 k o)) 0 _ _ A15
      rw [setL_whole _ _ (by rw [hr3.vlen f, hr2.vlen f])] at A15'
      replace A13 := At.set_ne (show Z6.heap.size ≠ Z8.heap.size by omega) (repV f (admL f r1 k o)) 0 _ A13
      replace bZ := below_setCells (show w.heap.size ≤ Z8.heap.size by omega) (repV f (admL f r1 k o)) 0 _ bZ
      generalize Z10.setCells Z8.heap.size 0 (repV f (admL f r1 k o)) = Z11 at *
      have HS : Hid ((Instr.storeAt 26 (.pointer (some ⟨Z8.heap.size, 0, Option.none⟩)) (.agg (repV f (admL f r1 k o)).toArray)).run Try.prog Z10 = .ok () Z11) := hst
      have HL1 : Hid ((Instr.loadAt 26 (.pointer (some ⟨Z6.heap.size, 0, Option.none⟩))).run Try.prog Z11 = .ok (.agg (repV f (admL f r1 k o)).toArray) Z11) := load_rep A13 (hr2.vlen f)
      have HL2 : Hid ((Instr.loadAt 26 (.pointer (some ⟨Z8.heap.size, 0, Option.none⟩))).run Try.prog Z11 = .ok (.agg (repV f (admL f r1 k o)).toArray) Z11) := load_rep A15' (hr2.vlen f)
      have HQ : Hid ((Op.equalIn 10000 26 (.agg (repV f (admL f r1 k o)).toArray) (.agg (repV f (admL f r1 k o)).toArray)).run Try.prog Z11 = .ok true Z11) := by
        show _ = _
        rw [run_eq_rep f f _ _ Z11 hr2 hr2, eqRep_refl]
      clear hst A15
      go_wp2_with (first | (with_reducible refine wl_store HS.out rfl rfl ?_) | (with_reducible refine wl_load HL1.out rfl rfl ?_) | (with_reducible refine wl_load HL2.out rfl rfl ?_) | (with_reducible refine wl_eql HQ.out eqg26 rfl rfl rfl ?_))
      go_ret
      exact ⟨rfl, bZ⟩)


set_option maxRecDepth 100000 in
theorem topAdmit_lifted (os : Os) (started : os.Started) (H : Type) (enc : TypeId × Value → H) :
    ReturnsInHanded {} Try.checked os 3 .any (Rows.topAdmitSpec.pre6 enc Try.prog Try.f3 Rows.topAdmitRow.domain false) (Rows.topAdmitSpec.post enc Try.prog Try.f3 false true false false) := by
  refine returnsInHanded_of_change (C := Try.checked) own started (by kernel_rfl) Try.func3
    (ChangeSpec.witness6 (enc := enc) (C := Try.checked) false ⟨#[], #[.agg z25.toArray, .int .i64 0, .agg #[.int .i64 0, .int .i64 0, .string ⟨#[]⟩], .agg #[.int .i64 0, .int .i64 0, .string ⟨#[]⟩]], []⟩ 8 (by kernel_rfl) (by kernel_rfl) (by kernel_rfl) (by kernel_rfl)) ?_
  intro W base args ds gs before hval0 hW hcnd _
  have hval : ∀ (j : Nat) t v, Try.f3.params[j]? = some t → args[j]? = some v → Value.okWide Try.prog W .any base t v := hval0
  have hW' := hW
  obtain ⟨p, q, hA0, hV, rfl, hfz, hnd⟩ := hW
  have hA : DataW.TrodAll enc Try.prog W 0 (fun _ => true) true Try.f3.params.toList args.toList ds p := hA0
  rw [Try.params3] at hA hval
  obtain ⟨v0, v1, v2, v3, d0, d1, d2, d3, p0, p1, p2, p3, rfl, rfl, rfl, h0, h1, h2, h3⟩ := trodAll_four hA
  obtain ⟨rfl, rfl⟩ := trodVars_none hV
  have k0 := h0
  have k2 := h2
  have k3 := h3
  have lt0 : ∀ x ∈ p0, x.block < W.heap.size := by obtain ⟨m, hm⟩ := k0; exact DataW.trod_lt m _ _ _ hm
  have lt2 : ∀ x ∈ p2, x.block < W.heap.size := by obtain ⟨m, hm⟩ := k2; exact DataW.trod_lt m _ _ _ hm
  have lt3 : ∀ x ∈ p3, x.block < W.heap.size := by obtain ⟨m, hm⟩ := k3; exact DataW.trod_lt m _ _ _ hm
  obtain ⟨f, l, rfl, hl⟩ := open_rep (hval 0 26 v0 rfl rfl) h0
  obtain ⟨x1, rfl, rfl, rfl, wf1⟩ := open_int Try.underlying3 (hval 1 3 v1 rfl rfl) h1
  obtain ⟨c, rfl⟩ := open_cel (hval 2 23 v2 rfl rfl) h2
  obtain ⟨o, rfl⟩ := open_cel (hval 3 23 v3 rfl rfl) h3
  clear hA0 hval0
  refine (topAdmit_walk f l x1 c o W hl).mono fun e W' ⟨he, bel⟩ => ?_
  subst he
  exact ⟨_, rfl, _, _, _, [], _, [], hW', trodAll_mk1 (shut_bool Try.underlying4 _), (trodAll_cons_mk (Below.trod laidOut (by kernel_rfl) (of_decide_eq_true (by kernel_rfl)) k0 bel lt0) (trodAll_cons_mk (shut_int Try.underlying3 wf1) (trodAll_cons_mk (Below.trod laidOut (by kernel_rfl) (of_decide_eq_true (by kernel_rfl)) k2 bel lt2) (trodAll_cons_mk (Below.trod laidOut (by kernel_rfl) (of_decide_eq_true (by kernel_rfl)) k3 bel lt3) trodAll_mk0)))), rfl, bel.frame _, fun h => by cases h⟩

theorem topAdmit_holds : Rows.TopAdmitSaid :=
  OpenClaim.holds_of_wide 3 Try.f3 rfl rfl rfl rfl rfl rfl rfl ⟨rfl, rfl, rfl, rfl, rfl⟩ rfl rfl rfl rfl rfl (by kernel_rfl) Try.func3 (by kernel_rfl)
    (of_decide_eq_true (by kernel_rfl)) (by unfold Func.isWrapper; first | (rw [if_pos (by decide +kernel)]; kernel_rfl) | (rw [if_neg (by decide +kernel)]; exact ⟨rfl, rfl⟩))
    (fun os started H enc _ => topAdmit_lifted os started H enc)
#print axioms topAdmit_holds
end Go.Proofs.Ytcppibnlhnfilaa
