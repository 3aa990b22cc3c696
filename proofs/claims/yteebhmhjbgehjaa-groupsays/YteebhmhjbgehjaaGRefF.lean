/- What the document's Deliver and NewGroup answer. No statement of the seat is proved here. -/
import Derived.Test.YteebhmhjbgehjaaGRefE
namespace Go.Proofs.Yteebhmhjbgehjaa
open Go.ChangeShapes Go.WideShapes Go.ChangeAt Go.RowKit Go.Deep

set_option maxRecDepth 100000 in
set_option maxHeartbeats 4000000 in
theorem rgdeliver_any (rs : List Rep) (up : List Bool) (m k : Nat) (c : Cel) (tag : Int) (b : Nat) (T : TypeId) (w : World) (h : GOK rs up) (hm3 : m < 3) (hk : k < 8) (A0 : At w b (grV rs up) T) :
    Calls Try.prog 22 #[.pointer (some ⟨b, 0, Option.none⟩), .agg (msgV m k c tag).toArray] w fun r w' => r = .returned (.bool (delB rs up m c)) ∧ At w' b (grV (delG rs up m k c) up) T ∧ Only b w w' := by
  have hb := A0.lt
  have hm3' : (m : Int) < 3 := by omega
  have hk8' : (k : Int) < 8 := by omega
  have hmu : m < up.length := by rw [h.upl]; exact hm3
  have hml : m < rs.length := by rw [h.len]; exact hm3
  have hub : upB up m = up[m] := by simp [upB, hmu]; omega
  obtain ⟨X, hX, a0, bX, sX⟩ := one w (.cells (msgV m k c tag).toArray 64)
  have AM : At X w.heap.size (msgV m k c tag) 64 := a0
  have m0 : X.cell? ⟨w.heap.size, 0, Option.none⟩ = some (.int .i64 m) := AM.cell 0
  have m1 : X.cell? ⟨w.heap.size, 1, Option.none⟩ = some (.int .i64 k) := AM.cell 1
  have m2 : X.cell? ⟨w.heap.size, 2, Option.none⟩ = some (.int .i64 c.e) := AM.cell 2
  have m3 : X.cell? ⟨w.heap.size, 3, Option.none⟩ = some (.int .i64 c.n) := AM.cell 3
  have m4 : X.cell? ⟨w.heap.size, 4, Option.none⟩ = some (.string c.d) := AM.cell 4
  replace A0 := A0.later bX hb
  have hOn : Only b w X := Only.of bX (Nat.le_refl _)
  clear a0 bX m1 m2 m3 m4
  go_enter Try.func22, Try.ntmps22
  go_upto_region 1 with fail
  rw [← hX]
  clear hX
  have hinh : Nonempty (LW X) := ⟨⟨X, Below.refl _ _⟩⟩
  have q0 : ∀ p : LW X, p.val.cell? ⟨w.heap.size, 0, Option.none⟩ = some (.int .i64 m) := fun p => cell_later p.ok m0
  refine wp_region_lw (by kernel_rfl) (by kernel_rfl) ?_
  repeat (go_big_quiet_step (fail))
  refine wpQuiet_nil ?_
  rintro Y ⟨⟨_, hY⟩, rfl⟩
  clear q0 hinh m0
  replace A0 := A0.later hY A0.lt
  replace AM := AM.later hY AM.lt
  replace hOn := hOn.trans (Only.of hY (Nat.le_refl _))
  have hYs := hY.size
  clear hY
  have m0 : Y.cell? ⟨w.heap.size, 0, Option.none⟩ = some (.int .i64 m) := AM.cell 0
  have m1 : Y.cell? ⟨w.heap.size, 1, Option.none⟩ = some (.int .i64 k) := AM.cell 1
  have m2 : Y.cell? ⟨w.heap.size, 2, Option.none⟩ = some (.int .i64 c.e) := AM.cell 2
  have u1 : Y.cell? ⟨b, 75 + m, Option.none⟩ = some (.bool up[m]) := (A0.cell _).trans (h.upc m hmu)
  have f1 : Y.cell? ⟨b, m * 25, Option.none⟩ = some (.int .i64 rs[m].f) := (A0.cell _).trans (h.floor m hml)
  cases hu : up[m] with
  | false =>
    rw [hu] at u1
    have HB : Hid (delB rs up m c = false) := by show _ = _; unfold delB; rw [hub, hu]; rfl
    have HG : Hid (delG rs up m k c = rs) := by show _ = _; unfold delG; rw [if_neg (by rw [hub, hu]; simp)]
    clear hub hu
    go_upto_region 2 with fail
    have hinh : Nonempty (LW Y) := ⟨⟨Y, Below.refl _ _⟩⟩
    have q0 : ∀ p : LW Y, p.val.cell? ⟨w.heap.size, 0, Option.none⟩ = some (.int .i64 m) := fun p => cell_later p.ok m0
    have q1 : ∀ p : LW Y, p.val.cell? ⟨w.heap.size, 2, Option.none⟩ = some (.int .i64 c.e) := fun p => cell_later p.ok m2
    have q2 : ∀ p : LW Y, p.val.cell? ⟨b, 75 + m, Option.none⟩ = some (.bool false) := fun p => cell_later p.ok u1
    have q3 : ∀ p : LW Y, p.val.cell? ⟨b, m * 25, Option.none⟩ = some (.int .i64 rs[m].f) := fun p => cell_later p.ok f1
    refine wp_region_lw (by kernel_rfl) (by kernel_rfl) ?_
    repeat (go_big_quiet_step (fail))
    refine wpQuiet_nil ?_
    rintro Y2 ⟨⟨_, hY⟩, rfl⟩
    clear hinh q0 q1 q2 q3
    replace A0 := A0.later hY A0.lt
    replace AM := AM.later hY AM.lt
    replace hOn := hOn.trans (Only.of hY (Nat.le_refl _))
    have hYs2 := hY.size
    clear hY
    go_wp2_with fail
    go_ret
    exact ⟨retB HB.out.symm, by rw [HG.out]; exact A0, hOn⟩
  | true =>
    rw [hu] at u1
    have HB : Hid (delB rs up m c = (c.e == rs[m].f)) := by show _ = _; unfold delB; rw [hub, hu, pickR_in hml]; rfl
    have HG : Hid (delG rs up m k c = rs.set m ⟨rs[m].f, admL rs[m].f rs[m].l k c⟩) := by show _ = _; unfold delG; rw [if_pos (by rw [hub, hu]), pickR_in hml]; rfl
    clear hub hu
    have hok := h.ok _ (List.getElem_mem hml)
    have hkl : k < rs[m].l.length := by rw [hok.len]; exact hk
    cases hf : (rs[m].f == c.e) with
    | false =>
      have HB2 : Hid (delB rs up m c = false) := by show _ = _; rw [HB.out]; simp at hf ⊢; exact fun h => hf h.symm
      have HG2 : Hid (delG rs up m k c = rs) := by
        show _ = _; rw [HG.out]
        have : admL rs[m].f rs[m].l k c = rs[m].l := by simp at hf; unfold admL; simp [Ne.symm hf]
        rw [this]; exact List.set_getElem_self hml
      go_upto_region 2 with fail
      have hinh : Nonempty (LW Y) := ⟨⟨Y, Below.refl _ _⟩⟩
      have q0 : ∀ p : LW Y, p.val.cell? ⟨w.heap.size, 0, Option.none⟩ = some (.int .i64 m) := fun p => cell_later p.ok m0
      have q1 : ∀ p : LW Y, p.val.cell? ⟨w.heap.size, 2, Option.none⟩ = some (.int .i64 c.e) := fun p => cell_later p.ok m2
      have q2 : ∀ p : LW Y, p.val.cell? ⟨b, 75 + m, Option.none⟩ = some (.bool true) := fun p => cell_later p.ok u1
      have q3 : ∀ p : LW Y, p.val.cell? ⟨b, m * 25, Option.none⟩ = some (.int .i64 rs[m].f) := fun p => cell_later p.ok f1
      refine wp_region_lw (by kernel_rfl) (by kernel_rfl) ?_
      repeat (go_big_quiet_step (fail))
      refine wpQuiet_nil ?_
      rintro Y2 ⟨⟨_, hY⟩, rfl⟩
      clear hinh q0 q1 q2 q3
      replace A0 := A0.later hY A0.lt
      replace AM := AM.later hY AM.lt
      replace hOn := hOn.trans (Only.of hY (Nat.le_refl _))
      have hYs2 := hY.size
      clear hY
      go_wp2_with fail
      go_ret
      exact ⟨retB HB2.out.symm, by rw [HG2.out]; exact A0, hOn⟩
    | true =>
      have HFE : Hid (c.e = rs[m].f) := by simp at hf; exact hf.symm
      have HB2 : Hid (delB rs up m c = true) := by show _ = _; rw [HB.out]; simpa using HFE.out
      obtain ⟨cc, hcc⟩ : ∃ cc, rs[m].l[k] = cc := ⟨_, rfl⟩
      have HG2 : Hid (delG rs up m k c = rs.set m ⟨rs[m].f, if newerB c cc = true then rs[m].l.set k c else rs[m].l⟩) := by
        show _ = _; rw [HG.out, admL_is hkl]; unfold adm1; rw [if_pos HFE.out, hcc]
        split
        · rfl
        · rw [← hcc, List.set_getElem_self hkl]
      go_upto_region 2 with fail
      have hinh : Nonempty (LW Y) := ⟨⟨Y, Below.refl _ _⟩⟩
      have q0 : ∀ p : LW Y, p.val.cell? ⟨w.heap.size, 0, Option.none⟩ = some (.int .i64 m) := fun p => cell_later p.ok m0
      have q1 : ∀ p : LW Y, p.val.cell? ⟨w.heap.size, 2, Option.none⟩ = some (.int .i64 c.e) := fun p => cell_later p.ok m2
      have q2 : ∀ p : LW Y, p.val.cell? ⟨b, 75 + m, Option.none⟩ = some (.bool true) := fun p => cell_later p.ok u1
      have q3 : ∀ p : LW Y, p.val.cell? ⟨b, m * 25, Option.none⟩ = some (.int .i64 rs[m].f) := fun p => cell_later p.ok f1
      refine wp_region_lw (by kernel_rfl) (by kernel_rfl) ?_
      repeat (go_big_quiet_step (fail))
      refine wpQuiet_nil ?_
      rintro Y2 ⟨⟨_, hY⟩, rfl⟩
      clear hinh q0 q1 q2 q3
      replace A0 := A0.later hY A0.lt
      replace AM := AM.later hY AM.lt
      replace hOn := hOn.trans (Only.of hY (Nat.le_refl _))
      have hYs2 := hY.size
      clear hY
      have hr := cel_range A0 h m hm3 k hk
      have e9 : ck k (pickR rs m) = cc := by unfold ck; rw [pickR_in hml, ← hcc]; simp [hkl]
      rw [e9] at hr
      have g0 : Y2.cell? ⟨b, m * 25 + 1 + k * 3, Option.none⟩ = some (.int .i64 cc.e) := hr 0 _ rfl
      have g1 : Y2.cell? ⟨b, m * 25 + 1 + k * 3 + 1, Option.none⟩ = some (.int .i64 cc.n) := hr 1 _ rfl
      have g2 : Y2.cell? ⟨b, m * 25 + 1 + k * 3 + 2, Option.none⟩ = some (.string cc.d) := hr 2 _ rfl
      have n1 : Y2.cell? ⟨w.heap.size, 1, Option.none⟩ = some (.int .i64 k) := AM.cell 1
      have n2 : Y2.cell? ⟨w.heap.size, 2, Option.none⟩ = some (.int .i64 c.e) := AM.cell 2
      have n3 : Y2.cell? ⟨w.heap.size, 3, Option.none⟩ = some (.int .i64 c.n) := AM.cell 3
      have n4 : Y2.cell? ⟨w.heap.size, 4, Option.none⟩ = some (.string c.d) := AM.cell 4
      clear hr e9 m0 m1 m2 u1 f1 HB HG
      go_upto_region 4 with fail
      have hinh : Nonempty (LW Y2) := ⟨⟨Y2, Below.refl _ _⟩⟩
      have q0 : ∀ p : LW Y2, p.val.cell? ⟨b, m * 25 + 1 + k * 3, Option.none⟩ = some (.int .i64 cc.e) := fun p => cell_later p.ok g0
      have q1 : ∀ p : LW Y2, p.val.cell? ⟨b, m * 25 + 1 + k * 3 + 1, Option.none⟩ = some (.int .i64 cc.n) := fun p => cell_later p.ok g1
      have q2 : ∀ p : LW Y2, p.val.cell? ⟨b, m * 25 + 1 + k * 3 + 2, Option.none⟩ = some (.string cc.d) := fun p => cell_later p.ok g2
      have q3 : ∀ p : LW Y2, p.val.cell? ⟨w.heap.size, 1, Option.none⟩ = some (.int .i64 k) := fun p => cell_later p.ok n1
      have q4 : ∀ p : LW Y2, p.val.cell? ⟨w.heap.size, 2, Option.none⟩ = some (.int .i64 c.e) := fun p => cell_later p.ok n2
      have q5 : ∀ p : LW Y2, p.val.cell? ⟨w.heap.size, 3, Option.none⟩ = some (.int .i64 c.n) := fun p => cell_later p.ok n3
      have q6 : ∀ p : LW Y2, p.val.cell? ⟨w.heap.size, 4, Option.none⟩ = some (.string c.d) := fun p => cell_later p.ok n4
      clear g0 g1 g2 n1 n2 n3 n4
      refine wp_region_lw (by kernel_rfl) (by kernel_rfl) ?_
      repeat (go_big_quiet_step ((go_at_call 37; exact Calls.quiet_lw (rnewer_any c.e c.n cc.e cc.n c.d cc.d _))))
      refine wpQuiet_nil ?_
      rintro Y3 ⟨⟨_, hY⟩, rfl⟩
      clear hinh q0 q1 q2 q3 q4 q5 q6
      rw [show newerB ⟨c.e, c.n, c.d⟩ ⟨cc.e, cc.n, cc.d⟩ = newerB c cc from rfl]
      replace A0 := A0.later hY A0.lt
      replace AM := AM.later hY AM.lt
      replace hOn := hOn.trans (Only.of hY (Nat.le_refl _))
      clear hY
      cases hn : newerB c cc with
      | false =>
        rw [hn, if_neg (by simp), show (⟨rs[m].f, rs[m].l⟩ : Rep) = rs[m] from rfl, List.set_getElem_self hml] at HG2
        clear hn
        go_wp2_with fail
        go_ret
        exact ⟨retB HB2.out.symm, by rw [HG2.out]; exact A0, hOn⟩
      | true =>
        rw [hn, if_pos rfl] at HG2
        clear hn
        go_wp2_with fail
        refine wp_region_held (S := fun w' => At w' w.heap.size (msgV m k c tag) 64) (by kernel_rfl) ?_
        have HS : Hid (At Y3.drew w.heap.size (msgV m k c tag) 64) := AM
        obtain ⟨hst, B0⟩ := store_onecel (X := Y3.drew) A0 h m hml k hk c
        have BM := At.set_ne (show w.heap.size ≠ b by omega) c.vs (m * 25 + 1 + k * 3) Y3.drew AM
        have hOn4 := Only.sets c.vs (m * 25 + 1 + k * 3) Y3.drew hOn.drew
        generalize Y3.drew.setCells b (m * 25 + 1 + k * 3) c.vs = Z3 at *
        refine wpAnyH_take (i := 0) (v := .pointer (some ⟨b, m * 25, Option.none⟩)) rfl (by kernel_rfl) (by kernel_rfl) (by kernel_rfl) (fun _ _ _ h => h) (.inl ⟨rfl, fun w' hw' => ?_⟩) HS.out ?_
        · go_simp
        refine wpAnyH_take (i := 1) (v := .pointer (some ⟨w.heap.size, 1, Option.none⟩)) rfl (by kernel_rfl) (by kernel_rfl) (by kernel_rfl) (fun _ _ _ h => h) (.inl ⟨rfl, fun w' hw' => ?_⟩) HS.out ?_
        · go_simp
        refine wpAnyH_take (i := 2) (v := .int .i64 k) rfl (by kernel_rfl) (by kernel_rfl) (by kernel_rfl) (fun _ _ _ h => h) (.inl ⟨rfl, fun w' hw' => ?_⟩) HS.out ?_
        · have hc : w'.cell? ⟨w.heap.size, 1, Option.none⟩ = some (.int .i64 k) := At.cell hw' 1
          go_simp
        refine wpAnyH_take (i := 3) (v := .pointer (some ⟨w.heap.size, 2, Option.none⟩)) rfl (by kernel_rfl) (by kernel_rfl) (by kernel_rfl) (fun _ _ _ h => h) (.inl ⟨rfl, fun w' hw' => ?_⟩) HS.out ?_
        · go_simp
        simp [Act.put]
        refine wpAnyH_take (i := 4) (v := .agg #[.int .i64 c.e, .int .i64 c.n, .string c.d]) rfl (by kernel_rfl) (by kernel_rfl) (by kernel_rfl) (fun _ _ _ h => h) (.inl ⟨rfl, fun w' hw' => ?_⟩) HS.out ?_
        · exact exec_load (load_cel (msg_cel hw')) rfl
        refine wpAnyH_take (i := 5) (v := .pointer (some ⟨b, m * 25, Option.none⟩)) rfl (by kernel_rfl) (by kernel_rfl) (by kernel_rfl) (fun _ _ _ h => h) (.inl ⟨rfl, fun w' hw' => ?_⟩) HS.out ?_
        · go_simp
        refine wpAnyH_take (i := 6) (v := .pointer (some ⟨b, m * 25 + 1, Option.none⟩)) rfl (by kernel_rfl) (by kernel_rfl) (by kernel_rfl) (fun _ _ _ h => h) (.inl ⟨rfl, fun w' hw' => ?_⟩) HS.out ?_
        · go_simp
        refine wpAnyH_take (i := 7) (v := .pointer (some ⟨b, m * 25 + 1 + k * 3, Option.none⟩)) rfl (by kernel_rfl) (by kernel_rfl) (by kernel_rfl) (fun _ _ _ h => h) (.inl ⟨rfl, fun w' hw' => ?_⟩) HS.out ?_
        · go_simp
        simp [Act.put]
        refine wpAnyH_all (rs := [8]) (by kernel_rfl) (by simp) ?_
        intro i hi
        obtain rfl : i = 8 := by simpa using hi
        refine wpOp_store hst rfl rfl rfl rfl ⟨BM, ?_⟩
        refine wpAnyH_done (by kernel_rfl) ?_ _
        (try simp [Act.put])
        clear hst A0 AM hOn HS BM
        go_wp2_with fail
        go_ret
        exact ⟨retB HB2.out.symm, by rw [HG2.out]; exact B0, hOn4⟩

theorem zero53 (w : World) : (zeroValue 53).run Try.prog w = .ok (.agg z78.toArray) w := by kernel_rfl
set_option maxRecDepth 100000 in
set_option maxHeartbeats 4000000 in
theorem rgnew_any (w : World) : Calls Try.prog 14 #[] w fun r w' => r = .returned (.pointer (some ⟨w.heap.size, 0, Option.none⟩)) ∧ At w' w.heap.size (grV (newR 3) (newU 3)) 53 ∧ Below w.heap.size w w' := by
  have hz := zero53
  obtain ⟨X, hX, a0, bX, sX⟩ := one w (.cells (((z78.set 75 (.bool true)).set 76 (.bool true)).set 77 (.bool true)).toArray 53)
  have A0 : At X w.heap.size (grV (newR 0) [true, true, true]) 53 := a0
  clear a0
  have hG : ∀ k, GOK (newR k) [true, true, true] := fun k => ⟨(new_ok k).len, rfl, (new_ok k).ok⟩
  have hl8 : ∀ (k : Nat) (hk : k < 3) (hl : k < (newR k).length), (newR k)[k].l = zero8 := fun k hk hl => by
    match k, hk with
    | 0, _ => rfl
    | 1, _ => rfl
    | 2, _ => rfl
  have HGG : Hid (∀ k, GOK (newR k) [true, true, true]) := hG
  have HL8 : Hid (∀ (k : Nat) (hk : k < 3) (hl : k < (newR k).length), (newR k)[k].l = zero8) := hl8
  clear hG hl8
  go_enter Try.func14, Try.ntmps14
  go_wp2_with fail
  rw [← hX]
  clear hX
  go_loopw [2] (fun i wr => ∃ k : Nat, k ≤ 3 ∧ i = .int .i64 k ∧ At wr w.heap.size (grV (newR k) [true, true, true]) 53 ∧ Below w.heap.size w wr) (fun i _ => 3 - (intOf i).toNat)
  case atStart => exact ⟨0, Nat.zero_le _, rfl, A0, bX⟩
  case round =>
    clear A0 bX
    obtain ⟨k, hk, rfl, A0, bw⟩ := hrel
    by_cases hlt : k < 3
    · have hki : (k : Int) < 3 := by omega
      have hGk := HGG.out k
      have hkl : k < (newR k).length := by rw [hGk.len]; exact hlt
      have f1 : wr.cell? ⟨w.heap.size, k * 25, Option.none⟩ = some (.int .i64 (newR k)[k].f) := (A0.cell _).trans (hGk.floor k hkl)
      have z1 : wr.frozen? ⟨w.heap.size, k * 25, Option.none⟩ = false := (A0.there (k * 25) 1 (by rw [hGk.vlen]; omega) 0 (by decide)).2
      have B0 := A0.setCell_same (k * 25) (.int .i64 1)
      rw [grV_floor hGk k hkl, HL8.out k hlt hkl] at B0
      have b2 := bw.setCell (p := ⟨w.heap.size, k * 25, Option.none⟩) (Nat.le_refl _) (.int .i64 1)
      clear A0 bw
      go_wp2_with fail
      exact ⟨⟨k + 1, by omega, by go_num, B0, b2⟩, by simp [intOf]; omega⟩
    · obtain rfl : k = 3 := by omega
      go_wp2
      go_ret
      exact ⟨rfl, A0, bw⟩
end Go.Proofs.Yteebhmhjbgehjaa
