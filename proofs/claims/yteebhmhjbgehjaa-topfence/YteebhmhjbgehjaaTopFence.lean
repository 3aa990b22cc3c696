/- Proved: for all acts, any message and any number back, the law TopFence returns true and leaves its arguments as they were; no condition beyond the row's own. -/
import Derived.Test.YteebhmhjbgehjaaGLed
import Derived.Test.YteebhmhjbgehjaaGEqR
namespace Go.Proofs.Yteebhmhjbgehjaa
open Go.ChangeShapes Go.WideShapes Go.ChangeAt Go.RowKit Go.Deep

theorem i64_and7 (n : Int) : 0 ≤ bits .and .i64 n 7 ∧ bits .and .i64 n 7 ≤ 7 := by
  have h : bits .and .i64 n 7 = n % 8 := by
    have h7 : (BitVec.ofInt 64 7).toNat = 2 ^ 3 - 1 := by decide
    have key : (BitVec.ofInt 64 n &&& BitVec.ofInt 64 7).toNat = (n % ((2 ^ 64 : Nat) : Int)).toNat % 2 ^ 3 := by
      rw [BitVec.toNat_and, BitVec.toNat_ofInt, h7, Nat.and_two_pow_sub_one_eq_mod]
    show IntKind.i64.wrap ((BitVec.ofInt 64 n &&& BitVec.ofInt 64 7).toNat : Nat) = n % 8
    rw [key, IntKind.wrap_i64]
    omega
  omega
theorem sz64 : (Try.prog.info? 64).map (·.size) = some 6 := by kernel_rfl
theorem und64 : ∃ d, Try.prog.underlying 64 = some d ∧ d.isRow = true := ⟨_, Try.underlying64, rfl⟩
theorem load_msg {X : World} {b : Nat} {T : TypeId} {dst : Int} {k : Nat} {c : Cel} {tag : Int} (h : At X b (msgV dst k c tag) T) :
    (Instr.loadAt 64 (.pointer (some ⟨b, 0, Option.none⟩))).run Try.prog X = .ok (.agg (msgV dst k c tag).toArray) X := by
  obtain ⟨d, hd, hr⟩ := und64
  exact run_loadAt_mid X b 0 _ _ d h.whole hd hr sz64
section
variable {H : Type} {enc : TypeId × Value → H}
theorem Try.cellsMsg : Try.prog.cellsOf 64 = 6 := by kernel_rfl
theorem open_msg {W : World} {base : Nat} {v : Value} {d : DataW H} {ps : List MemPlace} (hv : Value.okWide Try.prog W .any base 64 v) (h : DataW.Trod enc Try.prog W 0 (fun _ => true) true 64 v d ps) :
    ∃ (dst at' : Int) (c : Cel) (tag : Int), v = .agg #[.int .i64 dst, .int .i64 at', .int .i64 c.e, .int .i64 c.n, .string c.d, .int .i64 tag] := by
  obtain ⟨cs, rfl, hsz⟩ := okWide_struct Try.underlying64 hv
  rw [Try.cellsMsg] at hsz
  obtain ⟨cs⟩ := cs
  obtain ⟨fuel, hf⟩ := h
  match cs, hsz with
  | [c0, c1, c2, c3, c4, c5], _ =>
    obtain ⟨xs, m, _, _, _, hlen, hfld⟩ := DataW.trod_struct Try.underlying64 hf
    match xs, hlen with
    | [x0, x1, x2, x3], _ =>
      have f0 := hfld 0 _ rfl
      have f1 := hfld 1 _ rfl
      have f2 := hfld 2 _ rfl
      have f3 := hfld 3 _ rfl
      simp [Value.cells, Try.cellsInt, Try.cellsCel] at f0 f1 f2 f3
      obtain ⟨dst, e0, _, _⟩ := DataW.trod_int Try.underlying3 f0
      obtain ⟨at', e1, _, _⟩ := DataW.trod_int Try.underlying3 f1
      obtain ⟨c, e2⟩ := open_cel_cs f2
      obtain ⟨tag, e5, _, _⟩ := DataW.trod_int Try.underlying3 f3
      simp only [Cel.vs, List.cons.injEq, and_true] at e0 e1 e2 e5
      obtain ⟨rfl, rfl, rfl⟩ := e2
      subst e0 e1 e5
      exact ⟨dst, at', c, tag, rfl⟩
end
theorem fence_each {gn : List Rep} {up : List Bool} (h : GOK gn up) (m k : Nat) (hm : m < 3) (c : Cel) (e : Int) (hc : c.e ≤ e) (j : Nat) (hj : j < 3) :
    pickR (delG gn up m k c) j = pickR gn j ∨ (j = m ∧ (pickR gn j).f ≤ e) := by
  have hml : m < gn.length := by rw [h.len]; exact hm
  have hjl : j < gn.length := by rw [h.len]; exact hj
  unfold delG
  split
  · by_cases hjm : j = m
    · subst hjm
      by_cases hf : c.e = (pickR gn j).f
      · exact .inr ⟨rfl, by omega⟩
      · left
        have : admL (pickR gn j).f (pickR gn j).l k c = (pickR gn j).l := by unfold admL; simp [hf]
        rw [this, pickR_in hjl]
        unfold pickR
        simp [hjl]
    · left
      unfold pickR
      simp [Ne.symm hjm]
  · exact .inl rfl

set_option maxRecDepth 100000 in
set_option maxHeartbeats 8000000 in
theorem topFence_walk (a : Option Addr) (n c : Nat) (l : List ActD) (dst at' : Int) (ce : Cel) (tag back : Int) (w : World) (h : Acts w a n l) :
    Calls Try.prog 5 #[.slice a n c, .agg #[.int .i64 dst, .int .i64 at', .int .i64 ce.e, .int .i64 ce.n, .string ce.d, .int .i64 tag], .int .i64 back] w fun r w' => r = .returned (.bool true) ∧ Below w.heap.size w w' := by
  obtain rfl := h.len
  obtain ⟨X, hX, a0, bX, sX⟩ := one w (.cells #[.int .i64 dst, .int .i64 at', .int .i64 ce.e, .int .i64 ce.n, .string ce.d, .int .i64 tag] 64)
  have AM : At X w.heap.size [.int .i64 dst, .int .i64 at', .int .i64 ce.e, .int .i64 ce.n, .string ce.d, .int .i64 tag] 64 := a0
  have hz := zero78
  have HA : Hid (Acts X a l.length l) := h.later bX
  clear a0 h
  go_enter Try.func5, Try.ntmps5
  go_wp2_with fail
  rw [← hX]
  clear hX
  refine (grouped_any X).mono ?_
  rintro r W1 ⟨rfl, b1⟩
  replace HA : Hid (Acts W1 a l.length l) := HA.out.later b1
  replace AM := AM.later b1 AM.lt
  have bw := bX.trans (b1.mono bX.size)
  clear b1 bX
  go_wp2_with fail
  refine (lightActs_any a l.length c l 60 W1 HA.out).mono ?_
  rintro r W2 ⟨rfl, b1⟩
  replace HA : Hid (Acts W2 a l.length l) := HA.out.later b1
  replace AM := AM.later b1 AM.lt
  replace bw := bw.trans (b1.mono bw.size)
  clear b1
  cases hl : lightA l 60 with
  | false =>
    go_wp2_with fail
    go_ret
    exact ⟨rfl, bw⟩
  | true =>
    have hn : l.length ≤ 60 := by simp [lightA] at hl; omega
    clear hl
    go_wp2_with fail
    refine (led_any a l.length c l W2 HA.out (by omega)).mono ?_
    rintro r W3 ⟨⟨rs, up, e, rfl, hG, hok⟩, b1⟩
    replace AM := AM.later b1 AM.lt
    replace bw := bw.trans (b1.mono bw.size)
    clear b1 HA
    obtain ⟨Y, hst, AG, bY⟩ := newG hG W3
    have HS : Hid ((Instr.storeAt 38 (.pointer (some ⟨W3.heap.size, 0, Option.none⟩)) (.agg (grV rs up).toArray)).run Try.prog (W3.alloc (.cells z78.toArray 38)) = .ok () Y) := hst
    replace AM := AM.later bY AM.lt
    replace bw := bw.trans (bY.mono bw.size)
    have m0 : Y.cell? ⟨w.heap.size, 0, Option.none⟩ = some (.int .i64 dst) := AM.cell 0
    have m1 : Y.cell? ⟨w.heap.size, 1, Option.none⟩ = some (.int .i64 at') := AM.cell 1
    clear hst bY
    cases hb : allB l with
    | false =>
      go_wp2_with (with_reducible refine wl_store HS.out rfl rfl ?_)
      go_ret
      exact ⟨rfl, bw⟩
    | true =>
      have he1 := (hok hb).2.2.2.1
      have he2 := (hok hb).2.2.2.2
      clear hok hb
      by_cases hin : (0 ≤ dst ∧ dst < 3) ∧ (0 ≤ at' ∧ at' ≤ 7)
      case neg =>
        have hbd : dst < 0 ∨ (¬ dst < 0 ∧ 3 ≤ dst) ∨ (¬ dst < 0 ∧ ¬ 3 ≤ dst ∧ at' < 0) ∨ (¬ dst < 0 ∧ ¬ 3 ≤ dst ∧ ¬ at' < 0 ∧ 7 < at') := by omega
        clear hin
        go_upto_region 7 with (with_reducible refine wl_store HS.out rfl rfl ?_)
        clear HS
        rcases hbd with h1 | ⟨h1, h2⟩ | ⟨h1, h2, h3⟩ | ⟨h1, h2, h3, h4⟩
        all_goals
          go_wp2_with fail
          go_ret
          exact ⟨rfl, bw⟩
      obtain ⟨m, hmd⟩ : ∃ m : Nat, dst = m := ⟨dst.toNat, by omega⟩
      obtain ⟨k, hka⟩ : ∃ k : Nat, at' = k := ⟨at'.toNat, by omega⟩
      subst hmd hka
      have hm3 : m < 3 := by omega
      have hk8 : k < 8 := by omega
      have g1 : ¬ ((m : Int) < 0) := by omega
      have g2 : ¬ ((3 : Int) ≤ (m : Int)) := by omega
      have g3 : ¬ ((k : Int) < 0) := by omega
      have g4 : ¬ ((7 : Int) < (k : Int)) := by omega
      clear hin
      have HL : Hid ((Instr.loadAt 38 (.pointer (some ⟨W3.heap.size, 0, Option.none⟩))).run Try.prog Y = .ok (.agg (grV rs up).toArray) Y) := load_gr AG hG.vlen
      go_wp2_with (first | (with_reducible refine wl_store HS.out rfl rfl ?_) | (with_reducible refine wl_load HL.out rfl rfl ?_))
      refine (gfence_any rs up (e + 1) Y hG (by omega) (by omega)).mono ?_
      rintro r Z ⟨rfl, b2⟩
      have hG2 := fenG_ok hG (e + 1)
      generalize fenG rs up (e + 1) = gn at *
      replace AM := AM.later b2 AM.lt
      replace bw := bw.trans (b2.mono bw.size)
      clear HL b2 m0 m1 AG HS
      obtain ⟨Z1, hst, AN, b3⟩ := newG hG2 Z
      have HS : Hid ((Instr.storeAt 38 (.pointer (some ⟨Z.heap.size, 0, Option.none⟩)) (.agg (grV gn up).toArray)).run Try.prog (Z.alloc (.cells z78.toArray 38)) = .ok () Z1) := hst
      have hnb := AM.lt
      replace AM := AM.later b3 AM.lt
      replace bw := bw.trans (b3.mono bw.size)
      clear hst b3
      cases hb : decide (2 ≤ (memL gn up (e + 1) 3).length) with
      | false =>
        go_wp2_with (with_reducible refine wl_store HS.out rfl rfl ?_)
        go_ret
        exact ⟨rfl, bw⟩
      | true =>
        have HLn : Hid ((Instr.loadAt 38 (.pointer (some ⟨Z.heap.size, 0, Option.none⟩))).run Try.prog Z1 = .ok (.agg (grV gn up).toArray) Z1) := load_gr AN hG2.vlen
        obtain ⟨q, hq⟩ : ∃ q, bits .and .i64 back 7 = q := ⟨_, rfl⟩
        have hq7 := i64_and7 back
        rw [hq] at hq7
        have hwr : wrap64 (e - q) = e - q := by unfold wrap64; omega
        have m2 : Z1.cell? ⟨w.heap.size, 2, Option.none⟩ = some (.int .i64 ce.e) := AM.cell 2
        have z2 : Z1.frozen? ⟨w.heap.size, 2, Option.none⟩ = false := (AM.there 2 1 (by simp) 0 (by decide)).2
        have AM2 := AM.setCell_same 2 (.int .i64 (e - q))
        have AN2 := AN.setCell_ne ⟨w.heap.size, 2, Option.none⟩ (by simp; omega) (.int .i64 (e - q))
        have b4 := bw.setCell (p := ⟨w.heap.size, 2, Option.none⟩) (Nat.le_refl _) (.int .i64 (e - q))
        simp only [List.set_cons_succ, List.set_cons_zero] at AM2
        clear AM AN bw
        have HLn2 : Hid ((Instr.loadAt 38 (.pointer (some ⟨Z.heap.size, 0, Option.none⟩))).run Try.prog (Z1.setCell ⟨w.heap.size, 2, Option.none⟩ (.int .i64 (e - q))) = .ok (.agg (grV gn up).toArray) (Z1.setCell ⟨w.heap.size, 2, Option.none⟩ (.int .i64 (e - q)))) := load_gr AN2 hG2.vlen
        generalize hZ2 : Z1.setCell ⟨w.heap.size, 2, Option.none⟩ (.int .i64 (e - q)) = Z2 at *
        have HLm : Hid ((Instr.loadAt 64 (.pointer (some ⟨w.heap.size, 0, Option.none⟩))).run Try.prog Z2 = .ok (.agg (msgV m k ⟨e - q, ce.n, ce.d⟩ tag).toArray) Z2) := load_msg AM2
        go_wp2_with (first | (with_reducible refine wl_store HS.out rfl rfl ?_) | (with_reducible refine wl_load HLn2.out rfl rfl ?_) | (with_reducible refine wl_load HLm.out rfl rfl ?_))
        refine (deliver_any gn up m k ⟨e - q, ce.n, ce.d⟩ tag Z2 hG2 hk8).mono ?_
        rintro r Z3 ⟨rfl, b5⟩
        have hG3 := delG_ok hG2 m k ⟨e - q, ce.n, ce.d⟩
        have hea := fence_each hG2 m k hm3 ⟨e - q, ce.n, ce.d⟩ e (by show e - q ≤ e; omega)
        generalize delG gn up m k ⟨e - q, ce.n, ce.d⟩ = ga at *
        generalize delB gn up m ⟨e - q, ce.n, ce.d⟩ = sb at *
        replace AM2 := AM2.later b5 AM2.lt
        have hnl := AN2.lt
        replace AN2 := AN2.later b5 AN2.lt
        replace b4 := b4.trans (b5.mono b4.size)
        have hz3 := b5.size
        clear HLm HLn2 HLn HS b5 hZ2 m2 z2
        obtain ⟨Z4, hst, AA, b6⟩ := newG hG3 Z3
        have HS : Hid ((Instr.storeAt 38 (.pointer (some ⟨Z3.heap.size, 0, Option.none⟩)) (.agg (grV ga up).toArray)).run Try.prog (Z3.alloc (.cells z78.toArray 38)) = .ok () Z4) := hst
        replace AM2 := AM2.later b6 AM2.lt
        replace AN2 := AN2.later b6 AN2.lt
        replace b4 := b4.trans (b6.mono b4.size)
        clear hst b6
        go_wp2_with (with_reducible refine wl_store HS.out rfl rfl ?_)
        clear HS
        obtain ⟨nb, hnbe⟩ : ∃ nb, Z.heap.size = nb := ⟨_, rfl⟩
        obtain ⟨ab, habe⟩ : ∃ ab, Z3.heap.size = ab := ⟨_, rfl⟩
        rw [hnbe] at AN2 ⊢
        rw [habe] at AA ⊢
        clear hnbe habe
        have HEA : Hid (∀ j : Nat, j < 3 → pickR ga j = pickR gn j ∨ (j = m ∧ (pickR gn j).f ≤ e)) := hea
        clear hea
        go_loopw [13] (fun i wr => ∃ j : Nat, j ≤ 3 ∧ i = .int .i64 j ∧ At wr w.heap.size (msgV m k ⟨e - q, ce.n, ce.d⟩ tag) 64 ∧ At wr nb (grV gn up) 38 ∧ At wr ab (grV ga up) 38 ∧ Below w.heap.size w wr) (fun i _ => 3 - (intOf i).toNat)
        case atStart => exact ⟨0, by omega, rfl, AM2, AN2, AA, b4⟩
        case round =>
          clear AM2 AN2 AA b4
          obtain ⟨j, hj, rfl, AM2, AN2, AA, b4⟩ := hrel
          by_cases hlt : j < 3
          · have hji : (j : Int) < 3 := by omega
            have hjn : j < gn.length := by rw [hG2.len]; exact hlt
            have hja : j < ga.length := by rw [hG3.len]; exact hlt
            have hon := hG2.ok _ (List.getElem_mem hjn)
            have hoa := hG3.ok _ (List.getElem_mem hja)
            have hea := HEA.out j hlt
            rw [pickR_in hjn, pickR_in hja] at hea
            have HQ0 : Hid (∀ w', (Op.equalIn 10000 26 (.agg (repV ga[j].f ga[j].l).toArray) (.agg (repV gn[j].f gn[j].l).toArray)).run Try.prog w' = .ok (eqRep ga[j].f ga[j].l gn[j].f gn[j].l) w') := fun w' => run_eq_repR _ _ _ _ w' hoa hon
            have hinh : Nonempty (LW wr) := ⟨⟨wr, Below.refl _ _⟩⟩
            have HX : Hid (∀ w', (∃ p : LW wr, w' = p.val) → (Instr.loadAt 26 (.pointer (some ⟨ab, j * 25, Option.none⟩))).run Try.prog w' = .ok (.agg (repV ga[j].f ga[j].l).toArray) w') := by
              rintro w' ⟨p, rfl⟩; exact load_one (AA.later p.ok AA.lt) hG3 j hja
            have HR : Hid (∀ w', (∃ p : LW wr, w' = p.val) → (Instr.loadAt 26 (.pointer (some ⟨nb, j * 25, Option.none⟩))).run Try.prog w' = .ok (.agg (repV gn[j].f gn[j].l).toArray) w') := by
              rintro w' ⟨p, rfl⟩; exact load_one (AN2.later p.ok AN2.lt) hG2 j hjn
            have q0 : ∀ p : LW wr, p.val.cell? ⟨w.heap.size, 0, Option.none⟩ = some (.int .i64 m) := fun p => cell_later p.ok (AM2.cell 0)
            have q1 : ∀ p : LW wr, p.val.cell? ⟨nb, j * 25, Option.none⟩ = some (.int .i64 gn[j].f) := fun p => cell_later p.ok ((AN2.cell _).trans (hG2.floor j hjn))
            obtain ⟨bq, hbq⟩ : ∃ bq, eqRep ga[j].f ga[j].l gn[j].f gn[j].l = bq := ⟨_, rfl⟩
            have hb2 : bq = true ∨ (bq = false ∧ j = m ∧ gn[j].f ≤ e) := by
              rcases hea with h | h
              · left; rw [← hbq, h, eqRep_refl]
              · cases bq
                · exact .inr ⟨rfl, h⟩
                · exact .inl rfl
            have HQ : Hid (∀ w', (Op.equalIn 10000 26 (.agg (repV ga[j].f ga[j].l).toArray) (.agg (repV gn[j].f gn[j].l).toArray)).run Try.prog w' = .ok bq w') := by
              intro w'; rw [HQ0.out w', hbq]
            clear HQ0 hbq hea
            go_upto_region 17 with fail
            refine wp_region_lw (by kernel_rfl) (by kernel_rfl) ?_
            iterate 3 (go_big_quiet_step (fail))
            go_big_quiet_want
            with_reducible refine q_load HX.out rfl ?_
            go_big_quiet_on
            simp only [Act.put, List.setIfInBounds_toArray, List.set_cons_succ, List.set_cons_zero]
            iterate 3 (go_big_quiet_step (fail))
            go_big_quiet_want
            with_reducible refine q_load HR.out rfl ?_
            go_big_quiet_on
            simp only [Act.put, List.setIfInBounds_toArray, List.set_cons_succ, List.set_cons_zero]
            go_big_quiet_want
            with_reducible refine q_neq HQ.out eqg26 rfl rfl ?_
            go_big_quiet_on
            rcases hb2 with hb2 | ⟨hb2, hjm, hfe⟩
            · subst hb2
              simp only [Act.put, List.setIfInBounds_toArray, List.set_cons_succ, List.set_cons_zero, Bool.not_true]
              repeat (go_big_quiet_step (fail))
              refine wpQuiet_nil ?_
              rintro Y1 ⟨⟨_, hY⟩, rfl⟩
              clear q0 q1 HX HR HQ hinh
              replace AM2 := AM2.later hY AM2.lt
              replace AN2 := AN2.later hY AN2.lt
              replace AA := AA.later hY AA.lt
              replace b4 := b4.trans (hY.mono b4.size)
              go_wp2_with fail
              exact ⟨⟨j + 1, by omega, by go_num, AM2, AN2, AA, b4⟩, by simp [intOf]; omega⟩
            · subst hb2 hjm
              have hfe' : ¬ (e < gn[j].f) := by omega
              simp only [Act.put, List.setIfInBounds_toArray, List.set_cons_succ, List.set_cons_zero, Bool.not_false]
              repeat (go_big_quiet_step (fail))
              refine wpQuiet_nil ?_
              rintro Y1 ⟨⟨_, hY⟩, rfl⟩
              clear q0 q1 HX HR HQ hinh
              replace AM2 := AM2.later hY AM2.lt
              replace AN2 := AN2.later hY AN2.lt
              replace AA := AA.later hY AA.lt
              replace b4 := b4.trans (hY.mono b4.size)
              go_wp2_with fail
              exact ⟨⟨j + 1, by omega, by go_num, AM2, AN2, AA, b4⟩, by simp [intOf]; omega⟩
          · obtain rfl : j = 3 := by omega
            go_wp2
            go_ret
            exact ⟨rfl, b4⟩

set_option maxRecDepth 100000 in
theorem topFence_lifted (os : Os) (started : os.Started) (H : Type) (enc : TypeId × Value → H) :
    ReturnsInHanded {} Try.checked os 5 .any (Rows.topFenceSpec.pre6 enc Try.prog Try.f5 Rows.topFenceRow.domain false) (Rows.topFenceSpec.post enc Try.prog Try.f5 false true false false) := by
  refine returnsInHanded_of_change (C := Try.checked) own started (by kernel_rfl) Try.func5
    (ChangeSpec.witness6 (enc := enc) (C := Try.checked) false ⟨#[], #[.slice Option.none 0 0, .agg #[.int .i64 0, .int .i64 0, .int .i64 0, .int .i64 0, .string ⟨#[]⟩, .int .i64 0], .int .i64 0], []⟩ 8 (by kernel_rfl) (by kernel_rfl) (by kernel_rfl) (by kernel_rfl)) ?_
  intro W base args ds gs before hval0 hW hcnd _
  have hval : ∀ (j : Nat) t v, Try.f5.params[j]? = some t → args[j]? = some v → Value.okWide Try.prog W .any base t v := hval0
  have hW' := hW
  obtain ⟨p, q, hA0, hV, rfl, hfz, hnd⟩ := hW
  have hA : DataW.TrodAll enc Try.prog W 0 (fun _ => true) true Try.f5.params.toList args.toList ds p := hA0
  rw [Try.params5] at hA hval
  obtain ⟨v0, v1, v2, d0, d1, d2, p0, p1, p2, rfl, rfl, rfl, h0, h1, h2⟩ := trodAll_three hA
  obtain ⟨rfl, rfl⟩ := trodVars_none hV
  have k0 := h0
  have lt0 : ∀ x ∈ p0, x.block < W.heap.size := by obtain ⟨m, hm⟩ := k0; exact DataW.trod_lt m _ _ _ hm
  obtain ⟨a0, n0, c0, l0, rfl, row0⟩ := open_acts (hval 0 32 v0 rfl rfl) h0
  have k1 := h1
  have lt1 : ∀ x ∈ p1, x.block < W.heap.size := by obtain ⟨m, hm⟩ := k1; exact DataW.trod_lt m _ _ _ hm
  obtain ⟨u1, t1, c1, g1, rfl⟩ := open_msg (hval 1 64 v1 rfl rfl) h1
  obtain ⟨x2, rfl, rfl, rfl, wf2⟩ := open_int Try.underlying3 (hval 2 3 v2 rfl rfl) h2
  clear hA0 hval0
  refine (topFence_walk a0 n0 c0 l0 u1 t1 c1 g1 x2 W row0).mono fun e W' ⟨he, bel⟩ => ?_
  subst he
  exact ⟨_, rfl, _, _, _, [], _, [], hW', trodAll_mk1 (shut_bool Try.underlying4 _), (trodAll_cons_mk (Below.trod laidOut (by kernel_rfl) (of_decide_eq_true (by kernel_rfl)) k0 bel lt0) (trodAll_cons_mk (Below.trod laidOut (by kernel_rfl) (of_decide_eq_true (by kernel_rfl)) k1 bel lt1) (trodAll_cons_mk (shut_int Try.underlying3 wf2) trodAll_mk0))), rfl, bel.frame _, fun h => by cases h⟩

theorem topFence_holds : Rows.TopFenceSaid :=
  OpenClaim.holds_of_wide 5 Try.f5 rfl rfl rfl rfl rfl rfl rfl ⟨rfl, rfl, rfl, rfl, rfl⟩ rfl rfl rfl rfl rfl (by kernel_rfl) Try.func5 (by kernel_rfl)
    (of_decide_eq_true (by kernel_rfl)) (by unfold Func.isWrapper; first | (rw [if_pos (by decide +kernel)]; kernel_rfl) | (rw [if_neg (by decide +kernel)]; exact ⟨rfl, rfl⟩))
    (fun os started H enc _ => topFence_lifted os started H enc)
#print axioms topFence_holds
end Go.Proofs.Yteebhmhjbgehjaa
