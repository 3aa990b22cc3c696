/- Proved: for all acts and blocks the law TopRead returns true and leaves its arguments as they were; no condition beyond the row's own. -/
import Derived.Test.YteebhmhjbgehjaaGNewC
namespace Go.Proofs.Yteebhmhjbgehjaa
open Go.ChangeShapes Go.WideShapes Go.ChangeAt Go.RowKit Go.Deep

set_option maxRecDepth 100000 in
set_option maxHeartbeats 8000000 in
theorem topRead_walk (a : Option Addr) (n c : Nat) (l : List ActD) (a2 : Option Addr) (n2 c2 : Nat) (l2 : List ActD) (at' : Int) (w : World) (h : Acts w a n l) (h2 : Acts w a2 n2 l2) :
    Calls Try.prog 7 #[.slice a n c, .slice a2 n2 c2, .int .i64 at'] w fun r w' => r = .returned (.bool true) ∧ Below w.heap.size w w' := by
  obtain rfl := h.len
  obtain rfl := h2.len
  have hz := zero78
  have HA : Hid (Acts w a l.length l) := h
  have HA2 : Hid (Acts w a2 l2.length l2) := h2
  clear h h2
  go_enter Try.func7, Try.ntmps7
  go_wp2_with fail
  refine (grouped_any w).mono ?_
  rintro r W1 ⟨rfl, bw⟩
  replace HA : Hid (Acts W1 a l.length l) := HA.out.later bw
  go_wp2_with fail
  refine (lightActs_any a l.length c l 40 W1 HA.out).mono ?_
  rintro r W2 ⟨rfl, b1⟩
  replace HA : Hid (Acts W2 a l.length l) := HA.out.later b1
  replace bw := bw.trans (b1.mono bw.size)
  clear b1
  cases hl : lightA l 40 with
  | false =>
    go_wp2_with fail
    go_ret
    exact ⟨rfl, bw⟩
  | true =>
    have hn : l.length ≤ 40 := by simp [lightA] at hl; omega
    clear hl
    go_wp2_with fail
    refine (lightActs_any a2 l2.length c2 l2 40 W2 (HA2.out.later bw)).mono ?_
    rintro r W3 ⟨rfl, b1⟩
    replace HA : Hid (Acts W3 a l.length l) := HA.out.later b1
    replace bw := bw.trans (b1.mono bw.size)
    clear b1
    cases hl : lightA l2 40 with
    | false =>
      go_wp2_with fail
      go_ret
      exact ⟨rfl, bw⟩
    | true =>
      have hn2 : l2.length ≤ 40 := by simp [lightA] at hl; omega
      clear hl
      by_cases hin : 0 ≤ at' ∧ at' ≤ 7
      case neg =>
        have hbd : at' < 0 ∨ (¬ at' < 0 ∧ 7 < at') := by omega
        clear hin
        rcases hbd with h1 | ⟨h1, h2⟩
        all_goals
          go_wp2_with fail
          go_ret
          exact ⟨rfl, bw⟩
      obtain ⟨k, hka⟩ : ∃ k : Nat, at' = k := ⟨at'.toNat, by omega⟩
      subst hka
      have hk8 : k < 8 := by omega
      have g3 : ¬ ((k : Int) < 0) := by omega
      have g4 : ¬ ((7 : Int) < (k : Int)) := by omega
      clear hin
      go_wp2_with fail
      refine (led_any a l.length c l W3 HA.out (by omega)).mono ?_
      rintro r W4 ⟨⟨rs, up, e, rfl, hG, hok⟩, b1⟩
      replace bw := bw.trans (b1.mono bw.size)
      clear b1 HA
      obtain ⟨Y, hst, AG, bY⟩ := newG hG W4
      have HS : Hid ((Instr.storeAt 38 (.pointer (some ⟨W4.heap.size, 0, Option.none⟩)) (.agg (grV rs up).toArray)).run Try.prog (W4.alloc (.cells z78.toArray 38)) = .ok () Y) := hst
      have hgw := bw.size
      replace bw := bw.trans (bY.mono bw.size)
      clear hst bY
      cases hb : allB l with
      | false =>
        go_wp2_with (with_reducible refine wl_store HS.out rfl rfl ?_)
        go_ret
        exact ⟨rfl, bw⟩
      | true =>
        have he1 := (hok hb).2.2.2.1
        have he2 := (hok hb).2.2.2.2
        obtain ⟨hLK, _⟩ := led_inv l hb
        have HUN : Hid ((∀ i : Nat, i < 3 → (pickR rs i).f ≤ e) ∧ ∀ x y, CS rs k x → CS rs k y → x.e = y.e → x.n = y.n → x = y) := by
          refine ⟨?_, ?_⟩
          · have := hLK.fl
            rwa [← (hok hb).1, ← (hok hb).2.2.1] at this
          · intro x y
            have := hLK.un k x y hk8
            rwa [← (hok hb).1] at this
        clear hok hb hLK
        have HL : Hid ((Instr.loadAt 38 (.pointer (some ⟨W4.heap.size, 0, Option.none⟩))).run Try.prog Y = .ok (.agg (grV rs up).toArray) Y) := load_gr AG hG.vlen
        go_wp2_with (first | (with_reducible refine wl_store HS.out rfl rfl ?_) | (with_reducible refine wl_load HL.out rfl rfl ?_))
        refine (gread_any rs up e k Y hG hk8).mono ?_
        rintro r V ⟨rfl, b9⟩
        replace AG := AG.later b9 AG.lt
        replace bw := bw.trans (b9.mono bw.size)
        clear HL HS b9
        have hGr := readG_ok hG e k
        have HRC : Hid (readB rs up e = true → RJ (readG rs up e k) e k (readC rs up e k)) := fun hrb => RJ.read hG hk8 HUN.out.1 HUN.out.2 hrb
        have HRZ : Hid (readB rs up e = false → readC rs up e k = zc) := fun hrb => by unfold readC; rw [if_neg (by rw [hrb]; simp)]
        generalize readG rs up e k = gr at *
        generalize readC rs up e k = rc at *
        clear HUN
        obtain ⟨V2, V3, hs1, hs2, AG2, AC, hbl⟩ := putGC hG hGr rc AG
        have HS8 : Hid ((Instr.storeAt 38 (.pointer (some ⟨W4.heap.size, 0, Option.none⟩)) (.agg (grV gr up).toArray)).run Try.prog (V.alloc (.cells #[.int .i64 0, .int .i64 0, .string ⟨#[]⟩] 23)) = .ok () V2) := hs1
        have HS9 : Hid ((Instr.storeAt 23 (.pointer (some ⟨V.heap.size, 0, Option.none⟩)) (.agg #[.int .i64 rc.e, .int .i64 rc.n, .string rc.d])).run Try.prog V2 = .ok () V3) := hs2
        have hgc := AG.lt
        replace bw := hbl _ _ (by omega) bw
        clear hs1 hs2 hbl AG
        have AG := AG2
        clear AG2
        cases hrb : readB rs up e with
        | false =>
          have HQ : Hid ((Op.equalIn 10000 23 (.agg #[.int .i64 rc.e, .int .i64 rc.n, .string rc.d]) (.agg #[.int .i64 0, .int .i64 0, .string ⟨#[]⟩])).run Try.prog V3 = .ok true V3) := by
            have h9 := run_eq_cel 9998 rc zc V3
            rw [HRZ.out hrb, eqCel_refl] at h9
            rw [HRZ.out hrb]; exact h9
          have HL1 : Hid ((Instr.loadAt 23 (.pointer (some ⟨V.heap.size, 0, Option.none⟩))).run Try.prog V3 = .ok (.agg #[.int .i64 rc.e, .int .i64 rc.n, .string rc.d]) V3) := load_cel AC.whole
          clear HRZ HRC
          go_wp2_with (first | (with_reducible refine wl_store HS8.out rfl rfl ?_) | (with_reducible refine wl_store HS9.out rfl rfl ?_) | (with_reducible refine wl_load HL1.out rfl rfl ?_) | (with_reducible refine wl_eql HQ.out eqg23 rfl rfl rfl ?_))
          go_ret
          exact ⟨rfl, bw⟩
        | true =>
          have hRJ := HRC.out hrb
          clear HRC HRZ hrb
          go_wp2_with (first | (with_reducible refine wl_store HS8.out rfl rfl ?_) | (with_reducible refine wl_store HS9.out rfl rfl ?_))
          clear HS8 HS9
          obtain ⟨gb, hgbe⟩ : ∃ gb, W4.heap.size = gb := ⟨_, rfl⟩
          obtain ⟨cb, hcbe⟩ : ∃ cb, V.heap.size = cb := ⟨_, rfl⟩
          rw [hgbe] at AG hgw hgc ⊢
          rw [hcbe] at AC hgc ⊢
          clear hgbe hcbe
          go_loopw [9, 11] (fun ev iv wr => ∃ (i : Nat) (r2 : List Rep) (u2 : List Bool) (e2 : Int) (wc : Cel), i ≤ l2.length ∧ ev = .int .i64 e2 ∧ iv = .int .i64 i ∧ GOK r2 u2 ∧ RJ r2 e2 k wc ∧ 1 ≤ e2 ∧ e2 ≤ 41 + i ∧ At wr gb (grV r2 u2) 38 ∧ At wr cb wc.vs 23 ∧ Below w.heap.size w wr) (fun _ iv _ => l2.length - (intOf iv).toNat)
          case atStart => exact ⟨0, gr, up, e, rc, Nat.zero_le _, rfl, rfl, hGr, hRJ, he1, by omega, AG, AC, bw⟩
          case round =>
            clear AG AC bw hRJ
            obtain ⟨i, r2, u2, e2, wc, hi, rfl, rfl, hG2, hMJ, he3, he4, AG, AC, bw⟩ := hrel
            by_cases hlt : i < l2.length
            · have hki : (i : Int) < (l2.length : Int) := by omega
              obtain ⟨b, off, rfl, hrow⟩ := HA2.out.row (by omega)
              have hrk := rangeAt_later (hrow i hlt) bw
              generalize l2[i] = x at *
              clear hrow
              have HLa : Hid ((Instr.loadAt 49 (.pointer (some ⟨b, off + i * 19, Option.none⟩))).run Try.prog wr = .ok (.agg x.vs.toArray) wr) := load_act hrk
              obtain ⟨Y2, hst, AA, bY⟩ := newA x wr
              have HS : Hid ((Instr.storeAt 49 (.pointer (some ⟨wr.heap.size, 0, Option.none⟩)) (.agg x.vs.toArray)).run Try.prog (wr.alloc (.cells z19.toArray 49)) = .ok () Y2) := hst
              have hz19 := zero19
              have c0 : Y2.cell? ⟨wr.heap.size, 0, Option.none⟩ = some (.string x.kind) := AA.cell 0
              have c1 : Y2.cell? ⟨wr.heap.size, 1, Option.none⟩ = some (.int .i64 x.a) := AA.cell 1
              replace AG := AG.later bY AG.lt
              replace AC := AC.later bY AC.lt
              replace bw := bw.trans (bY.mono bw.size)
              clear bY hst hrk AA
              go_upto_region 16 with (first | (with_reducible refine wl_load HLa.out rfl rfl ?_) | (with_reducible refine wl_store HS.out rfl rfl ?_))
              clear HLa HS
              by_cases hob : 0 ≤ x.a ∧ x.a < 3
              case neg =>
                have hbd : x.a < 0 ∨ (¬ x.a < 0 ∧ 3 ≤ x.a) := by omega
                clear hob
                rcases hbd with h1 | ⟨h1, h2⟩
                all_goals
                  go_wp2_with fail
                  go_ret
                  exact ⟨rfl, bw⟩
              obtain ⟨m, hxa, hm3⟩ : ∃ m : Nat, x.a = m ∧ m < 3 := ⟨x.a.toNat, by omega, by omega⟩
              rw [hxa] at c1
              clear hob hxa
              have hm3' : (m : Int) < 3 := by omega
              have hm0 : ¬ ((m : Int) < 0) := by omega
              have hm33 : ¬ ((3 : Int) ≤ (m : Int)) := by omega
              have hmu : m < u2.length := by rw [hG2.upl]; exact hm3
              cases h1 : (x.kind.toList == [117, 112]) with
              | true =>
                have cu := (AG.cell (75 + m)).trans (hG2.upc m hmu)
                have zu : Y2.frozen? ⟨gb, 75 + m, Option.none⟩ = false := (AG.there (75 + m) 1 (by rw [hG2.vlen]; omega) 0 (by decide)).2
                replace AG := AG.setCell_same (75 + m) (.bool true)
                rw [grV_up hG2] at AG
                replace AC := AC.setCell_ne ⟨gb, 75 + m, Option.none⟩ (by simp; omega) (.bool true)
                replace bw := bw.setCell (p := ⟨gb, 75 + m, Option.none⟩) (by simp; omega) (.bool true)
                have hGx := hG2.up m true
                have HLr : Hid ((Instr.loadAt 38 (.pointer (some ⟨gb, 0, Option.none⟩))).run Try.prog (Y2.setCell ⟨gb, 75 + m, Option.none⟩ (.bool true)) = .ok (.agg (grV r2 (u2.set m true)).toArray) (Y2.setCell ⟨gb, 75 + m, Option.none⟩ (.bool true))) := load_gr AG hGx.vlen
                go_wp2_with (first  | (with_reducible refine wl_load HLr.out rfl rfl ?_))
                refine (gread_any r2 (u2.set m true) e2 k (Y2.setCell ⟨gb, 75 + m, Option.none⟩ (.bool true)) hGx hk8).mono ?_
                rintro r V9 ⟨rfl, b9⟩
                replace AG := AG.later b9 AG.lt
                replace AC := AC.later b9 AC.lt
                replace bw := bw.trans (b9.mono bw.size)
                clear HLr b9
                have hGy := readG_ok hGx e2 k
                have HRC : Hid (readB r2 (u2.set m true) e2 = true → RJ (readG r2 (u2.set m true) e2 k) e2 k (readC r2 (u2.set m true) e2 k) ∧ (readC r2 (u2.set m true) e2 k = wc ∨ newerB (readC r2 (u2.set m true) e2 k) wc = true)) := fun hrb => by
                  refine ⟨RJ.read hGx hk8 hMJ.fl (fun x y hx hy => hMJ.un x y (.inl hx) (.inl hy)) hrb, ?_⟩
                  rw [readC_is r2 (u2.set m true) e2 k hk8 hrb]
                  exact RJ.now hMJ (u2.set m true) (by simpa [readB] using hrb)
                generalize readG r2 (u2.set m true) e2 k = gy at *
                generalize readC r2 (u2.set m true) e2 k = ry at *
                obtain ⟨V2, V3, hs1, hs2, AR, bV, AN9⟩ := newGC hGy ry V9
                have HS8 : Hid ((Instr.storeAt 38 (.pointer (some ⟨V9.heap.size, 0, Option.none⟩)) (.agg (grV gy (u2.set m true)).toArray)).run Try.prog ((V9.alloc (.cells z78.toArray 38)).alloc (.cells #[.int .i64 0, .int .i64 0, .string ⟨#[]⟩] 23)) = .ok () V2) := hs1
                have HS9 : Hid ((Instr.storeAt 23 (.pointer (some ⟨V9.heap.size + 1, 0, Option.none⟩)) (.agg #[.int .i64 ry.e, .int .i64 ry.n, .string ry.d])).run Try.prog V2 = .ok () V3) := hs2
                have hg9 := AG.lt
                have hc9 := AC.lt
                replace AG := AG.later bV AG.lt
                replace AC := AC.later bV AC.lt
                replace bw := bw.trans (bV.mono bw.size)
                clear hs1 hs2 bV
                cases hrb : readB r2 (u2.set m true) e2 with
                | false =>
                  go_wp2_with (first | (with_reducible refine wl_store HS8.out rfl rfl ?_) | (with_reducible refine wl_store HS9.out rfl rfl ?_))
                  exact ⟨⟨i + 1, r2, (u2.set m true), e2, wc, by omega, rfl, by go_num, hGx, hMJ, by omega, by omega, AG, AC, bw⟩, by simp [intOf]; omega⟩
                | true =>
                  obtain ⟨hRY, hnow⟩ := HRC.out hrb
                  clear HRC hrb
                  have HL1 : Hid ((Instr.loadAt 23 (.pointer (some ⟨V9.heap.size + 1, 0, Option.none⟩))).run Try.prog V3 = .ok (.agg #[.int .i64 ry.e, .int .i64 ry.n, .string ry.d]) V3) := load_cel AR.whole
                  have HL2 : Hid ((Instr.loadAt 23 (.pointer (some ⟨cb, 0, Option.none⟩))).run Try.prog V3 = .ok (.agg #[.int .i64 wc.e, .int .i64 wc.n, .string wc.d]) V3) := load_cel AC.whole
                  obtain ⟨bq, hbq⟩ : ∃ bq, eqCel ry wc = bq := ⟨_, rfl⟩
                  have HQ : Hid ((Op.equalIn 10000 23 (.agg #[.int .i64 ry.e, .int .i64 ry.n, .string ry.d]) (.agg #[.int .i64 wc.e, .int .i64 wc.n, .string wc.d])).run Try.prog V3 = .ok bq V3) := by
                    show _ = _; rw [show (10000 : Nat) = 9998 + 2 from rfl, run_eq_cel 9998 ry wc V3, hbq]
                  have hb2 : bq = true ∨ (bq = false ∧ newerB ry wc = true) := by
                    rcases hnow with h | h
                    · left; rw [← hbq, h, eqCel_refl]
                    · cases bq
                      · exact .inr ⟨rfl, h⟩
                      · exact .inl rfl
                  clear hbq hnow
                  rcases hb2 with rfl | ⟨rfl, hnw⟩
                  · have HL3 : Hid ((Instr.loadAt 38 (.pointer (some ⟨V9.heap.size, 0, Option.none⟩))).run Try.prog V3 = .ok (.agg (grV gy (u2.set m true)).toArray) V3) := load_gr AN9 hGy.vlen
                    obtain ⟨V5, hs3, AG5, hne5, hbl5⟩ := putG hGx hGy AG
                    have HS10 : Hid ((Instr.storeAt 38 (.pointer (some ⟨gb, 0, Option.none⟩)) (.agg (grV gy (u2.set m true)).toArray)).run Try.prog V3 = .ok () V5) := hs3
                    have AC5 := hne5 _ _ _ (by omega) AC
                    have AR5 := hne5 _ _ _ (by omega) AR
                    have bw5 := hbl5 _ _ (by omega) bw
                    have HL4 : Hid ((Instr.loadAt 23 (.pointer (some ⟨V9.heap.size + 1, 0, Option.none⟩))).run Try.prog V5 = .ok (.agg #[.int .i64 ry.e, .int .i64 ry.n, .string ry.d]) V5) := load_cel AR5.whole
                    obtain ⟨V7, hs4, AC7, hne7, hbl7⟩ := putC (d := ry) AC5
                    have HS11 : Hid ((Instr.storeAt 23 (.pointer (some ⟨cb, 0, Option.none⟩)) (.agg #[.int .i64 ry.e, .int .i64 ry.n, .string ry.d])).run Try.prog V5 = .ok () V7) := hs4
                    have AG7 := hne7 _ _ _ (by omega) AG5
                    have bw7 := hbl7 _ _ (by omega) bw5
                    clear hs3 hs4 hne5 hne7 hbl5 hbl7 AG5 AC5 AR5 bw5 AG AC bw AR AN9
                    go_wp2_with (first | (with_reducible refine wl_store HS8.out rfl rfl ?_) | (with_reducible refine wl_store HS9.out rfl rfl ?_) | (with_reducible refine wl_load HL1.out rfl rfl ?_) | (with_reducible refine wl_load HL2.out rfl rfl ?_) | (with_reducible refine wl_neq HQ.out eqg23 rfl rfl rfl ?_) | (with_reducible refine wl_load HL3.out rfl rfl ?_) | (with_reducible refine wl_store HS10.out rfl rfl ?_) | (with_reducible refine wl_load HL4.out rfl rfl ?_) | (with_reducible refine wl_store HS11.out rfl rfl ?_))
                    exact ⟨⟨i + 1, gy, (u2.set m true), e2, ry, by omega, rfl, by go_num, hGy, hRY, by omega, by omega, AG7, AC7, bw7⟩, by simp [intOf]; omega⟩
                  · go_wp2_with (first | (with_reducible refine wl_store HS8.out rfl rfl ?_) | (with_reducible refine wl_store HS9.out rfl rfl ?_) | (with_reducible refine wl_load HL1.out rfl rfl ?_) | (with_reducible refine wl_load HL2.out rfl rfl ?_) | (with_reducible refine wl_neq HQ.out eqg23 rfl rfl rfl ?_))
                    refine (newer_any ry.e ry.n wc.e wc.n ry.d wc.d V3).mono ?_
                    rintro r V4 ⟨rfl, b8⟩
                    rw [show newerB ⟨ry.e, ry.n, ry.d⟩ ⟨wc.e, wc.n, wc.d⟩ = newerB ry wc from rfl, hnw]
                    replace AG := AG.later b8 AG.lt
                    replace AC := AC.later b8 AC.lt
                    replace AR := AR.later b8 AR.lt
                    replace AN9 := AN9.later b8 AN9.lt
                    replace bw := bw.trans (b8.mono bw.size)
                    clear HS8 HS9 HL1 HL2 HQ b8 hnw
                    have HL3 : Hid ((Instr.loadAt 38 (.pointer (some ⟨V9.heap.size, 0, Option.none⟩))).run Try.prog V4 = .ok (.agg (grV gy (u2.set m true)).toArray) V4) := load_gr AN9 hGy.vlen
                    obtain ⟨V5, hs3, AG5, hne5, hbl5⟩ := putG hGx hGy AG
                    have HS10 : Hid ((Instr.storeAt 38 (.pointer (some ⟨gb, 0, Option.none⟩)) (.agg (grV gy (u2.set m true)).toArray)).run Try.prog V4 = .ok () V5) := hs3
                    have AC5 := hne5 _ _ _ (by omega) AC
                    have AR5 := hne5 _ _ _ (by omega) AR
                    have bw5 := hbl5 _ _ (by omega) bw
                    have HL4 : Hid ((Instr.loadAt 23 (.pointer (some ⟨V9.heap.size + 1, 0, Option.none⟩))).run Try.prog V5 = .ok (.agg #[.int .i64 ry.e, .int .i64 ry.n, .string ry.d]) V5) := load_cel AR5.whole
                    obtain ⟨V7, hs4, AC7, hne7, hbl7⟩ := putC (d := ry) AC5
                    have HS11 : Hid ((Instr.storeAt 23 (.pointer (some ⟨cb, 0, Option.none⟩)) (.agg #[.int .i64 ry.e, .int .i64 ry.n, .string ry.d])).run Try.prog V5 = .ok () V7) := hs4
                    have AG7 := hne7 _ _ _ (by omega) AG5
                    have bw7 := hbl7 _ _ (by omega) bw5
                    clear hs3 hs4 hne5 hne7 hbl5 hbl7 AG5 AC5 AR5 bw5 AG AC bw AR AN9
                    go_wp2_with (first | (with_reducible refine wl_load HL3.out rfl rfl ?_) | (with_reducible refine wl_store HS10.out rfl rfl ?_) | (with_reducible refine wl_load HL4.out rfl rfl ?_) | (with_reducible refine wl_store HS11.out rfl rfl ?_))
                    exact ⟨⟨i + 1, gy, (u2.set m true), e2, ry, by omega, rfl, by go_num, hGy, hRY, by omega, by omega, AG7, AC7, bw7⟩, by simp [intOf]; omega⟩
              | false =>
              cases h2 : (x.kind.toList == [100, 111, 119, 110]) with
              | true =>
                have cu := (AG.cell (75 + m)).trans (hG2.upc m hmu)
                have zu : Y2.frozen? ⟨gb, 75 + m, Option.none⟩ = false := (AG.there (75 + m) 1 (by rw [hG2.vlen]; omega) 0 (by decide)).2
                replace AG := AG.setCell_same (75 + m) (.bool false)
                rw [grV_up hG2] at AG
                replace AC := AC.setCell_ne ⟨gb, 75 + m, Option.none⟩ (by simp; omega) (.bool false)
                replace bw := bw.setCell (p := ⟨gb, 75 + m, Option.none⟩) (by simp; omega) (.bool false)
                have hGx := hG2.up m false
                have HLr : Hid ((Instr.loadAt 38 (.pointer (some ⟨gb, 0, Option.none⟩))).run Try.prog (Y2.setCell ⟨gb, 75 + m, Option.none⟩ (.bool false)) = .ok (.agg (grV r2 (u2.set m false)).toArray) (Y2.setCell ⟨gb, 75 + m, Option.none⟩ (.bool false))) := load_gr AG hGx.vlen
                go_wp2_with (first  | (with_reducible refine wl_load HLr.out rfl rfl ?_))
                refine (gread_any r2 (u2.set m false) e2 k (Y2.setCell ⟨gb, 75 + m, Option.none⟩ (.bool false)) hGx hk8).mono ?_
                rintro r V9 ⟨rfl, b9⟩
                replace AG := AG.later b9 AG.lt
                replace AC := AC.later b9 AC.lt
                replace bw := bw.trans (b9.mono bw.size)
                clear HLr b9
                have hGy := readG_ok hGx e2 k
                have HRC : Hid (readB r2 (u2.set m false) e2 = true → RJ (readG r2 (u2.set m false) e2 k) e2 k (readC r2 (u2.set m false) e2 k) ∧ (readC r2 (u2.set m false) e2 k = wc ∨ newerB (readC r2 (u2.set m false) e2 k) wc = true)) := fun hrb => by
                  refine ⟨RJ.read hGx hk8 hMJ.fl (fun x y hx hy => hMJ.un x y (.inl hx) (.inl hy)) hrb, ?_⟩
                  rw [readC_is r2 (u2.set m false) e2 k hk8 hrb]
                  exact RJ.now hMJ (u2.set m false) (by simpa [readB] using hrb)
                generalize readG r2 (u2.set m false) e2 k = gy at *
                generalize readC r2 (u2.set m false) e2 k = ry at *
                obtain ⟨V2, V3, hs1, hs2, AR, bV, AN9⟩ := newGC hGy ry V9
                have HS8 : Hid ((Instr.storeAt 38 (.pointer (some ⟨V9.heap.size, 0, Option.none⟩)) (.agg (grV gy (u2.set m false)).toArray)).run Try.prog ((V9.alloc (.cells z78.toArray 38)).alloc (.cells #[.int .i64 0, .int .i64 0, .string ⟨#[]⟩] 23)) = .ok () V2) := hs1
                have HS9 : Hid ((Instr.storeAt 23 (.pointer (some ⟨V9.heap.size + 1, 0, Option.none⟩)) (.agg #[.int .i64 ry.e, .int .i64 ry.n, .string ry.d])).run Try.prog V2 = .ok () V3) := hs2
                have hg9 := AG.lt
                have hc9 := AC.lt
                replace AG := AG.later bV AG.lt
                replace AC := AC.later bV AC.lt
                replace bw := bw.trans (bV.mono bw.size)
                clear hs1 hs2 bV
                cases hrb : readB r2 (u2.set m false) e2 with
                | false =>
                  go_wp2_with (first | (with_reducible refine wl_store HS8.out rfl rfl ?_) | (with_reducible refine wl_store HS9.out rfl rfl ?_))
                  exact ⟨⟨i + 1, r2, (u2.set m false), e2, wc, by omega, rfl, by go_num, hGx, hMJ, by omega, by omega, AG, AC, bw⟩, by simp [intOf]; omega⟩
                | true =>
                  obtain ⟨hRY, hnow⟩ := HRC.out hrb
                  clear HRC hrb
                  have HL1 : Hid ((Instr.loadAt 23 (.pointer (some ⟨V9.heap.size + 1, 0, Option.none⟩))).run Try.prog V3 = .ok (.agg #[.int .i64 ry.e, .int .i64 ry.n, .string ry.d]) V3) := load_cel AR.whole
                  have HL2 : Hid ((Instr.loadAt 23 (.pointer (some ⟨cb, 0, Option.none⟩))).run Try.prog V3 = .ok (.agg #[.int .i64 wc.e, .int .i64 wc.n, .string wc.d]) V3) := load_cel AC.whole
                  obtain ⟨bq, hbq⟩ : ∃ bq, eqCel ry wc = bq := ⟨_, rfl⟩
                  have HQ : Hid ((Op.equalIn 10000 23 (.agg #[.int .i64 ry.e, .int .i64 ry.n, .string ry.d]) (.agg #[.int .i64 wc.e, .int .i64 wc.n, .string wc.d])).run Try.prog V3 = .ok bq V3) := by
                    show _ = _; rw [show (10000 : Nat) = 9998 + 2 from rfl, run_eq_cel 9998 ry wc V3, hbq]
                  have hb2 : bq = true ∨ (bq = false ∧ newerB ry wc = true) := by
                    rcases hnow with h | h
                    · left; rw [← hbq, h, eqCel_refl]
                    · cases bq
                      · exact .inr ⟨rfl, h⟩
                      · exact .inl rfl
                  clear hbq hnow
                  rcases hb2 with rfl | ⟨rfl, hnw⟩
                  · have HL3 : Hid ((Instr.loadAt 38 (.pointer (some ⟨V9.heap.size, 0, Option.none⟩))).run Try.prog V3 = .ok (.agg (grV gy (u2.set m false)).toArray) V3) := load_gr AN9 hGy.vlen
                    obtain ⟨V5, hs3, AG5, hne5, hbl5⟩ := putG hGx hGy AG
                    have HS10 : Hid ((Instr.storeAt 38 (.pointer (some ⟨gb, 0, Option.none⟩)) (.agg (grV gy (u2.set m false)).toArray)).run Try.prog V3 = .ok () V5) := hs3
                    have AC5 := hne5 _ _ _ (by omega) AC
                    have AR5 := hne5 _ _ _ (by omega) AR
                    have bw5 := hbl5 _ _ (by omega) bw
                    have HL4 : Hid ((Instr.loadAt 23 (.pointer (some ⟨V9.heap.size + 1, 0, Option.none⟩))).run Try.prog V5 = .ok (.agg #[.int .i64 ry.e, .int .i64 ry.n, .string ry.d]) V5) := load_cel AR5.whole
                    obtain ⟨V7, hs4, AC7, hne7, hbl7⟩ := putC (d := ry) AC5
                    have HS11 : Hid ((Instr.storeAt 23 (.pointer (some ⟨cb, 0, Option.none⟩)) (.agg #[.int .i64 ry.e, .int .i64 ry.n, .string ry.d])).run Try.prog V5 = .ok () V7) := hs4
                    have AG7 := hne7 _ _ _ (by omega) AG5
                    have bw7 := hbl7 _ _ (by omega) bw5
                    clear hs3 hs4 hne5 hne7 hbl5 hbl7 AG5 AC5 AR5 bw5 AG AC bw AR AN9
                    go_wp2_with (first | (with_reducible refine wl_store HS8.out rfl rfl ?_) | (with_reducible refine wl_store HS9.out rfl rfl ?_) | (with_reducible refine wl_load HL1.out rfl rfl ?_) | (with_reducible refine wl_load HL2.out rfl rfl ?_) | (with_reducible refine wl_neq HQ.out eqg23 rfl rfl rfl ?_) | (with_reducible refine wl_load HL3.out rfl rfl ?_) | (with_reducible refine wl_store HS10.out rfl rfl ?_) | (with_reducible refine wl_load HL4.out rfl rfl ?_) | (with_reducible refine wl_store HS11.out rfl rfl ?_))
                    exact ⟨⟨i + 1, gy, (u2.set m false), e2, ry, by omega, rfl, by go_num, hGy, hRY, by omega, by omega, AG7, AC7, bw7⟩, by simp [intOf]; omega⟩
                  · go_wp2_with (first | (with_reducible refine wl_store HS8.out rfl rfl ?_) | (with_reducible refine wl_store HS9.out rfl rfl ?_) | (with_reducible refine wl_load HL1.out rfl rfl ?_) | (with_reducible refine wl_load HL2.out rfl rfl ?_) | (with_reducible refine wl_neq HQ.out eqg23 rfl rfl rfl ?_))
                    refine (newer_any ry.e ry.n wc.e wc.n ry.d wc.d V3).mono ?_
                    rintro r V4 ⟨rfl, b8⟩
                    rw [show newerB ⟨ry.e, ry.n, ry.d⟩ ⟨wc.e, wc.n, wc.d⟩ = newerB ry wc from rfl, hnw]
                    replace AG := AG.later b8 AG.lt
                    replace AC := AC.later b8 AC.lt
                    replace AR := AR.later b8 AR.lt
                    replace AN9 := AN9.later b8 AN9.lt
                    replace bw := bw.trans (b8.mono bw.size)
                    clear HS8 HS9 HL1 HL2 HQ b8 hnw
                    have HL3 : Hid ((Instr.loadAt 38 (.pointer (some ⟨V9.heap.size, 0, Option.none⟩))).run Try.prog V4 = .ok (.agg (grV gy (u2.set m false)).toArray) V4) := load_gr AN9 hGy.vlen
                    obtain ⟨V5, hs3, AG5, hne5, hbl5⟩ := putG hGx hGy AG
                    have HS10 : Hid ((Instr.storeAt 38 (.pointer (some ⟨gb, 0, Option.none⟩)) (.agg (grV gy (u2.set m false)).toArray)).run Try.prog V4 = .ok () V5) := hs3
                    have AC5 := hne5 _ _ _ (by omega) AC
                    have AR5 := hne5 _ _ _ (by omega) AR
                    have bw5 := hbl5 _ _ (by omega) bw
                    have HL4 : Hid ((Instr.loadAt 23 (.pointer (some ⟨V9.heap.size + 1, 0, Option.none⟩))).run Try.prog V5 = .ok (.agg #[.int .i64 ry.e, .int .i64 ry.n, .string ry.d]) V5) := load_cel AR5.whole
                    obtain ⟨V7, hs4, AC7, hne7, hbl7⟩ := putC (d := ry) AC5
                    have HS11 : Hid ((Instr.storeAt 23 (.pointer (some ⟨cb, 0, Option.none⟩)) (.agg #[.int .i64 ry.e, .int .i64 ry.n, .string ry.d])).run Try.prog V5 = .ok () V7) := hs4
                    have AG7 := hne7 _ _ _ (by omega) AG5
                    have bw7 := hbl7 _ _ (by omega) bw5
                    clear hs3 hs4 hne5 hne7 hbl5 hbl7 AG5 AC5 AR5 bw5 AG AC bw AR AN9
                    go_wp2_with (first | (with_reducible refine wl_load HL3.out rfl rfl ?_) | (with_reducible refine wl_store HS10.out rfl rfl ?_) | (with_reducible refine wl_load HL4.out rfl rfl ?_) | (with_reducible refine wl_store HS11.out rfl rfl ?_))
                    exact ⟨⟨i + 1, gy, (u2.set m false), e2, ry, by omega, rfl, by go_num, hGy, hRY, by omega, by omega, AG7, AC7, bw7⟩, by simp [intOf]; omega⟩
              | false =>
              have HL : Hid ((Instr.loadAt 38 (.pointer (some ⟨gb, 0, Option.none⟩))).run Try.prog Y2 = .ok (.agg (grV r2 u2).toArray) Y2) := load_gr AG hG2.vlen
              cases h3 : (x.kind.toList == [102, 101, 110, 99, 101]) with
              | true =>
                go_wp2_with (with_reducible refine wl_load HL.out rfl rfl ?_)
                refine (gfence_any r2 u2 (e2 + 1) Y2 hG2 (by omega) (by omega)).mono ?_
                rintro r Z ⟨rfl, b2⟩
                rw [show decide (2 ≤ (memL (fenG r2 u2 (e2 + 1)) u2 (e2 + 1) 3).length) = readB (fenG r2 u2 (e2 + 1)) u2 (e2 + 1) from rfl]
                have hG3 := fenG_ok hG2 (e2 + 1)
                have hMJ3 := RJ.fence (up := u2) hG2 hMJ
                generalize fenG r2 u2 (e2 + 1) = g2 at *
                replace AG := AG.later b2 AG.lt
                replace AC := AC.later b2 AC.lt
                replace bw := bw.trans (b2.mono bw.size)
                clear HL b2 c0 c1
                obtain ⟨Z1, hst, AN, b3⟩ := newG hG3 Z
                have HS : Hid ((Instr.storeAt 38 (.pointer (some ⟨Z.heap.size, 0, Option.none⟩)) (.agg (grV g2 u2).toArray)).run Try.prog (Z.alloc (.cells z78.toArray 38)) = .ok () Z1) := hst
                replace AG := AG.later b3 AG.lt
                replace AC := AC.later b3 AC.lt
                replace bw := bw.trans (b3.mono bw.size)
                clear hst b3
                cases hrb : readB g2 u2 (e2 + 1) with
                | false =>
                  clear hrb AN
                  have hGx := hG2
                  have HLr : Hid ((Instr.loadAt 38 (.pointer (some ⟨gb, 0, Option.none⟩))).run Try.prog Z1 = .ok (.agg (grV r2 u2).toArray) Z1) := load_gr AG hGx.vlen
                  go_wp2_with (first | (with_reducible refine wl_store HS.out rfl rfl ?_) | (with_reducible refine wl_load HLr.out rfl rfl ?_))
                  refine (gread_any r2 u2 e2 k Z1 hGx hk8).mono ?_
                  rintro r V9 ⟨rfl, b9⟩
                  replace AG := AG.later b9 AG.lt
                  replace AC := AC.later b9 AC.lt
                  replace bw := bw.trans (b9.mono bw.size)
                  clear HLr b9
                  have hGy := readG_ok hGx e2 k
                  have HRC : Hid (readB r2 u2 e2 = true → RJ (readG r2 u2 e2 k) e2 k (readC r2 u2 e2 k) ∧ (readC r2 u2 e2 k = wc ∨ newerB (readC r2 u2 e2 k) wc = true)) := fun hrb => by
                    refine ⟨RJ.read hGx hk8 hMJ.fl (fun x y hx hy => hMJ.un x y (.inl hx) (.inl hy)) hrb, ?_⟩
                    rw [readC_is r2 u2 e2 k hk8 hrb]
                    exact RJ.now hMJ u2 (by simpa [readB] using hrb)
                  generalize readG r2 u2 e2 k = gy at *
                  generalize readC r2 u2 e2 k = ry at *
                  obtain ⟨V2, V3, hs1, hs2, AR, bV, AN9⟩ := newGC hGy ry V9
                  have HS8 : Hid ((Instr.storeAt 38 (.pointer (some ⟨V9.heap.size, 0, Option.none⟩)) (.agg (grV gy u2).toArray)).run Try.prog ((V9.alloc (.cells z78.toArray 38)).alloc (.cells #[.int .i64 0, .int .i64 0, .string ⟨#[]⟩] 23)) = .ok () V2) := hs1
                  have HS9 : Hid ((Instr.storeAt 23 (.pointer (some ⟨V9.heap.size + 1, 0, Option.none⟩)) (.agg #[.int .i64 ry.e, .int .i64 ry.n, .string ry.d])).run Try.prog V2 = .ok () V3) := hs2
                  have hg9 := AG.lt
                  have hc9 := AC.lt
                  replace AG := AG.later bV AG.lt
                  replace AC := AC.later bV AC.lt
                  replace bw := bw.trans (bV.mono bw.size)
                  clear hs1 hs2 bV
                  cases hrb : readB r2 u2 e2 with
                  | false =>
                    go_wp2_with (first | (with_reducible refine wl_store HS8.out rfl rfl ?_) | (with_reducible refine wl_store HS9.out rfl rfl ?_))
                    exact ⟨⟨i + 1, r2, u2, e2, wc, by omega, rfl, by go_num, hGx, hMJ, by omega, by omega, AG, AC, bw⟩, by simp [intOf]; omega⟩
                  | true =>
                    obtain ⟨hRY, hnow⟩ := HRC.out hrb
                    clear HRC hrb
                    have HL1 : Hid ((Instr.loadAt 23 (.pointer (some ⟨V9.heap.size + 1, 0, Option.none⟩))).run Try.prog V3 = .ok (.agg #[.int .i64 ry.e, .int .i64 ry.n, .string ry.d]) V3) := load_cel AR.whole
                    have HL2 : Hid ((Instr.loadAt 23 (.pointer (some ⟨cb, 0, Option.none⟩))).run Try.prog V3 = .ok (.agg #[.int .i64 wc.e, .int .i64 wc.n, .string wc.d]) V3) := load_cel AC.whole
                    obtain ⟨bq, hbq⟩ : ∃ bq, eqCel ry wc = bq := ⟨_, rfl⟩
                    have HQ : Hid ((Op.equalIn 10000 23 (.agg #[.int .i64 ry.e, .int .i64 ry.n, .string ry.d]) (.agg #[.int .i64 wc.e, .int .i64 wc.n, .string wc.d])).run Try.prog V3 = .ok bq V3) := by
                      show _ = _; rw [show (10000 : Nat) = 9998 + 2 from rfl, run_eq_cel 9998 ry wc V3, hbq]
                    have hb2 : bq = true ∨ (bq = false ∧ newerB ry wc = true) := by
                      rcases hnow with h | h
                      · left; rw [← hbq, h, eqCel_refl]
                      · cases bq
                        · exact .inr ⟨rfl, h⟩
                        · exact .inl rfl
                    clear hbq hnow
                    rcases hb2 with rfl | ⟨rfl, hnw⟩
                    · have HL3 : Hid ((Instr.loadAt 38 (.pointer (some ⟨V9.heap.size, 0, Option.none⟩))).run Try.prog V3 = .ok (.agg (grV gy u2).toArray) V3) := load_gr AN9 hGy.vlen
                      obtain ⟨V5, hs3, AG5, hne5, hbl5⟩ := putG hGx hGy AG
                      have HS10 : Hid ((Instr.storeAt 38 (.pointer (some ⟨gb, 0, Option.none⟩)) (.agg (grV gy u2).toArray)).run Try.prog V3 = .ok () V5) := hs3
                      have AC5 := hne5 _ _ _ (by omega) AC
                      have AR5 := hne5 _ _ _ (by omega) AR
                      have bw5 := hbl5 _ _ (by omega) bw
                      have HL4 : Hid ((Instr.loadAt 23 (.pointer (some ⟨V9.heap.size + 1, 0, Option.none⟩))).run Try.prog V5 = .ok (.agg #[.int .i64 ry.e, .int .i64 ry.n, .string ry.d]) V5) := load_cel AR5.whole
                      obtain ⟨V7, hs4, AC7, hne7, hbl7⟩ := putC (d := ry) AC5
                      have HS11 : Hid ((Instr.storeAt 23 (.pointer (some ⟨cb, 0, Option.none⟩)) (.agg #[.int .i64 ry.e, .int .i64 ry.n, .string ry.d])).run Try.prog V5 = .ok () V7) := hs4
                      have AG7 := hne7 _ _ _ (by omega) AG5
                      have bw7 := hbl7 _ _ (by omega) bw5
                      clear hs3 hs4 hne5 hne7 hbl5 hbl7 AG5 AC5 AR5 bw5 AG AC bw AR AN9
                      go_wp2_with (first | (with_reducible refine wl_store HS8.out rfl rfl ?_) | (with_reducible refine wl_store HS9.out rfl rfl ?_) | (with_reducible refine wl_load HL1.out rfl rfl ?_) | (with_reducible refine wl_load HL2.out rfl rfl ?_) | (with_reducible refine wl_neq HQ.out eqg23 rfl rfl rfl ?_) | (with_reducible refine wl_load HL3.out rfl rfl ?_) | (with_reducible refine wl_store HS10.out rfl rfl ?_) | (with_reducible refine wl_load HL4.out rfl rfl ?_) | (with_reducible refine wl_store HS11.out rfl rfl ?_))
                      exact ⟨⟨i + 1, gy, u2, e2, ry, by omega, rfl, by go_num, hGy, hRY, by omega, by omega, AG7, AC7, bw7⟩, by simp [intOf]; omega⟩
                    · go_wp2_with (first | (with_reducible refine wl_store HS8.out rfl rfl ?_) | (with_reducible refine wl_store HS9.out rfl rfl ?_) | (with_reducible refine wl_load HL1.out rfl rfl ?_) | (with_reducible refine wl_load HL2.out rfl rfl ?_) | (with_reducible refine wl_neq HQ.out eqg23 rfl rfl rfl ?_))
                      refine (newer_any ry.e ry.n wc.e wc.n ry.d wc.d V3).mono ?_
                      rintro r V4 ⟨rfl, b8⟩
                      rw [show newerB ⟨ry.e, ry.n, ry.d⟩ ⟨wc.e, wc.n, wc.d⟩ = newerB ry wc from rfl, hnw]
                      replace AG := AG.later b8 AG.lt
                      replace AC := AC.later b8 AC.lt
                      replace AR := AR.later b8 AR.lt
                      replace AN9 := AN9.later b8 AN9.lt
                      replace bw := bw.trans (b8.mono bw.size)
                      clear HS8 HS9 HL1 HL2 HQ b8 hnw
                      have HL3 : Hid ((Instr.loadAt 38 (.pointer (some ⟨V9.heap.size, 0, Option.none⟩))).run Try.prog V4 = .ok (.agg (grV gy u2).toArray) V4) := load_gr AN9 hGy.vlen
                      obtain ⟨V5, hs3, AG5, hne5, hbl5⟩ := putG hGx hGy AG
                      have HS10 : Hid ((Instr.storeAt 38 (.pointer (some ⟨gb, 0, Option.none⟩)) (.agg (grV gy u2).toArray)).run Try.prog V4 = .ok () V5) := hs3
                      have AC5 := hne5 _ _ _ (by omega) AC
                      have AR5 := hne5 _ _ _ (by omega) AR
                      have bw5 := hbl5 _ _ (by omega) bw
                      have HL4 : Hid ((Instr.loadAt 23 (.pointer (some ⟨V9.heap.size + 1, 0, Option.none⟩))).run Try.prog V5 = .ok (.agg #[.int .i64 ry.e, .int .i64 ry.n, .string ry.d]) V5) := load_cel AR5.whole
                      obtain ⟨V7, hs4, AC7, hne7, hbl7⟩ := putC (d := ry) AC5
                      have HS11 : Hid ((Instr.storeAt 23 (.pointer (some ⟨cb, 0, Option.none⟩)) (.agg #[.int .i64 ry.e, .int .i64 ry.n, .string ry.d])).run Try.prog V5 = .ok () V7) := hs4
                      have AG7 := hne7 _ _ _ (by omega) AG5
                      have bw7 := hbl7 _ _ (by omega) bw5
                      clear hs3 hs4 hne5 hne7 hbl5 hbl7 AG5 AC5 AR5 bw5 AG AC bw AR AN9
                      go_wp2_with (first | (with_reducible refine wl_load HL3.out rfl rfl ?_) | (with_reducible refine wl_store HS10.out rfl rfl ?_) | (with_reducible refine wl_load HL4.out rfl rfl ?_) | (with_reducible refine wl_store HS11.out rfl rfl ?_))
                      exact ⟨⟨i + 1, gy, u2, e2, ry, by omega, rfl, by go_num, hGy, hRY, by omega, by omega, AG7, AC7, bw7⟩, by simp [intOf]; omega⟩
                | true =>
                  have HLn : Hid ((Instr.loadAt 38 (.pointer (some ⟨Z.heap.size, 0, Option.none⟩))).run Try.prog Z1 = .ok (.agg (grV g2 u2).toArray) Z1) := load_gr AN hG3.vlen
                  obtain ⟨Z2, hst2, AG2, hne, hbl⟩ := putG hG2 hG3 AG
                  have HS2 : Hid ((Instr.storeAt 38 (.pointer (some ⟨gb, 0, Option.none⟩)) (.agg (grV g2 u2).toArray)).run Try.prog Z1 = .ok () Z2) := hst2
                  replace AC := hne _ _ _ (by omega) AC
                  replace bw := hbl _ _ (by omega) bw
                  clear hrb AN hst2 hne hbl AG
                  have AG := AG2
                  clear AG2
                  have hGx := hG3
                  have HLr : Hid ((Instr.loadAt 38 (.pointer (some ⟨gb, 0, Option.none⟩))).run Try.prog Z2 = .ok (.agg (grV g2 u2).toArray) Z2) := load_gr AG hGx.vlen
                  go_wp2_with (first | (with_reducible refine wl_store HS.out rfl rfl ?_) | (with_reducible refine wl_load HLn.out rfl rfl ?_) | (with_reducible refine wl_store HS2.out rfl rfl ?_) | (with_reducible refine wl_load HLr.out rfl rfl ?_))
                  refine (gread_any g2 u2 (e2 + 1) k Z2 hGx hk8).mono ?_
                  rintro r V9 ⟨rfl, b9⟩
                  replace AG := AG.later b9 AG.lt
                  replace AC := AC.later b9 AC.lt
                  replace bw := bw.trans (b9.mono bw.size)
                  clear HLr b9
                  have hGy := readG_ok hGx (e2 + 1) k
                  have HRC : Hid (readB g2 u2 (e2 + 1) = true → RJ (readG g2 u2 (e2 + 1) k) (e2 + 1) k (readC g2 u2 (e2 + 1) k) ∧ (readC g2 u2 (e2 + 1) k = wc ∨ newerB (readC g2 u2 (e2 + 1) k) wc = true)) := fun hrb => by
                    refine ⟨RJ.read hGx hk8 hMJ3.fl (fun x y hx hy => hMJ3.un x y (.inl hx) (.inl hy)) hrb, ?_⟩
                    rw [readC_is g2 u2 (e2 + 1) k hk8 hrb]
                    exact RJ.now hMJ3 u2 (by simpa [readB] using hrb)
                  generalize readG g2 u2 (e2 + 1) k = gy at *
                  generalize readC g2 u2 (e2 + 1) k = ry at *
                  obtain ⟨V2, V3, hs1, hs2, AR, bV, AN9⟩ := newGC hGy ry V9
                  have HS8 : Hid ((Instr.storeAt 38 (.pointer (some ⟨V9.heap.size, 0, Option.none⟩)) (.agg (grV gy u2).toArray)).run Try.prog ((V9.alloc (.cells z78.toArray 38)).alloc (.cells #[.int .i64 0, .int .i64 0, .string ⟨#[]⟩] 23)) = .ok () V2) := hs1
                  have HS9 : Hid ((Instr.storeAt 23 (.pointer (some ⟨V9.heap.size + 1, 0, Option.none⟩)) (.agg #[.int .i64 ry.e, .int .i64 ry.n, .string ry.d])).run Try.prog V2 = .ok () V3) := hs2
                  have hg9 := AG.lt
                  have hc9 := AC.lt
                  replace AG := AG.later bV AG.lt
                  replace AC := AC.later bV AC.lt
                  replace bw := bw.trans (bV.mono bw.size)
                  clear hs1 hs2 bV
                  cases hrb : readB g2 u2 (e2 + 1) with
                  | false =>
                    go_wp2_with (first | (with_reducible refine wl_store HS8.out rfl rfl ?_) | (with_reducible refine wl_store HS9.out rfl rfl ?_))
                    exact ⟨⟨i + 1, g2, u2, (e2 + 1), wc, by omega, by go_num, by go_num, hGx, hMJ3, by omega, by omega, AG, AC, bw⟩, by simp [intOf]; omega⟩
                  | true =>
                    obtain ⟨hRY, hnow⟩ := HRC.out hrb
                    clear HRC hrb
                    have HL1 : Hid ((Instr.loadAt 23 (.pointer (some ⟨V9.heap.size + 1, 0, Option.none⟩))).run Try.prog V3 = .ok (.agg #[.int .i64 ry.e, .int .i64 ry.n, .string ry.d]) V3) := load_cel AR.whole
                    have HL2 : Hid ((Instr.loadAt 23 (.pointer (some ⟨cb, 0, Option.none⟩))).run Try.prog V3 = .ok (.agg #[.int .i64 wc.e, .int .i64 wc.n, .string wc.d]) V3) := load_cel AC.whole
                    obtain ⟨bq, hbq⟩ : ∃ bq, eqCel ry wc = bq := ⟨_, rfl⟩
                    have HQ : Hid ((Op.equalIn 10000 23 (.agg #[.int .i64 ry.e, .int .i64 ry.n, .string ry.d]) (.agg #[.int .i64 wc.e, .int .i64 wc.n, .string wc.d])).run Try.prog V3 = .ok bq V3) := by
                      show _ = _; rw [show (10000 : Nat) = 9998 + 2 from rfl, run_eq_cel 9998 ry wc V3, hbq]
                    have hb2 : bq = true ∨ (bq = false ∧ newerB ry wc = true) := by
                      rcases hnow with h | h
                      · left; rw [← hbq, h, eqCel_refl]
                      · cases bq
                        · exact .inr ⟨rfl, h⟩
                        · exact .inl rfl
                    clear hbq hnow
                    rcases hb2 with rfl | ⟨rfl, hnw⟩
                    · have HL3 : Hid ((Instr.loadAt 38 (.pointer (some ⟨V9.heap.size, 0, Option.none⟩))).run Try.prog V3 = .ok (.agg (grV gy u2).toArray) V3) := load_gr AN9 hGy.vlen
                      obtain ⟨V5, hs3, AG5, hne5, hbl5⟩ := putG hGx hGy AG
                      have HS10 : Hid ((Instr.storeAt 38 (.pointer (some ⟨gb, 0, Option.none⟩)) (.agg (grV gy u2).toArray)).run Try.prog V3 = .ok () V5) := hs3
                      have AC5 := hne5 _ _ _ (by omega) AC
                      have AR5 := hne5 _ _ _ (by omega) AR
                      have bw5 := hbl5 _ _ (by omega) bw
                      have HL4 : Hid ((Instr.loadAt 23 (.pointer (some ⟨V9.heap.size + 1, 0, Option.none⟩))).run Try.prog V5 = .ok (.agg #[.int .i64 ry.e, .int .i64 ry.n, .string ry.d]) V5) := load_cel AR5.whole
                      obtain ⟨V7, hs4, AC7, hne7, hbl7⟩ := putC (d := ry) AC5
                      have HS11 : Hid ((Instr.storeAt 23 (.pointer (some ⟨cb, 0, Option.none⟩)) (.agg #[.int .i64 ry.e, .int .i64 ry.n, .string ry.d])).run Try.prog V5 = .ok () V7) := hs4
                      have AG7 := hne7 _ _ _ (by omega) AG5
                      have bw7 := hbl7 _ _ (by omega) bw5
                      clear hs3 hs4 hne5 hne7 hbl5 hbl7 AG5 AC5 AR5 bw5 AG AC bw AR AN9
                      go_wp2_with (first | (with_reducible refine wl_store HS8.out rfl rfl ?_) | (with_reducible refine wl_store HS9.out rfl rfl ?_) | (with_reducible refine wl_load HL1.out rfl rfl ?_) | (with_reducible refine wl_load HL2.out rfl rfl ?_) | (with_reducible refine wl_neq HQ.out eqg23 rfl rfl rfl ?_) | (with_reducible refine wl_load HL3.out rfl rfl ?_) | (with_reducible refine wl_store HS10.out rfl rfl ?_) | (with_reducible refine wl_load HL4.out rfl rfl ?_) | (with_reducible refine wl_store HS11.out rfl rfl ?_))
                      exact ⟨⟨i + 1, gy, u2, (e2 + 1), ry, by omega, by go_num, by go_num, hGy, hRY, by omega, by omega, AG7, AC7, bw7⟩, by simp [intOf]; omega⟩
                    · go_wp2_with (first | (with_reducible refine wl_store HS8.out rfl rfl ?_) | (with_reducible refine wl_store HS9.out rfl rfl ?_) | (with_reducible refine wl_load HL1.out rfl rfl ?_) | (with_reducible refine wl_load HL2.out rfl rfl ?_) | (with_reducible refine wl_neq HQ.out eqg23 rfl rfl rfl ?_))
                      refine (newer_any ry.e ry.n wc.e wc.n ry.d wc.d V3).mono ?_
                      rintro r V4 ⟨rfl, b8⟩
                      rw [show newerB ⟨ry.e, ry.n, ry.d⟩ ⟨wc.e, wc.n, wc.d⟩ = newerB ry wc from rfl, hnw]
                      replace AG := AG.later b8 AG.lt
                      replace AC := AC.later b8 AC.lt
                      replace AR := AR.later b8 AR.lt
                      replace AN9 := AN9.later b8 AN9.lt
                      replace bw := bw.trans (b8.mono bw.size)
                      clear HS8 HS9 HL1 HL2 HQ b8 hnw
                      have HL3 : Hid ((Instr.loadAt 38 (.pointer (some ⟨V9.heap.size, 0, Option.none⟩))).run Try.prog V4 = .ok (.agg (grV gy u2).toArray) V4) := load_gr AN9 hGy.vlen
                      obtain ⟨V5, hs3, AG5, hne5, hbl5⟩ := putG hGx hGy AG
                      have HS10 : Hid ((Instr.storeAt 38 (.pointer (some ⟨gb, 0, Option.none⟩)) (.agg (grV gy u2).toArray)).run Try.prog V4 = .ok () V5) := hs3
                      have AC5 := hne5 _ _ _ (by omega) AC
                      have AR5 := hne5 _ _ _ (by omega) AR
                      have bw5 := hbl5 _ _ (by omega) bw
                      have HL4 : Hid ((Instr.loadAt 23 (.pointer (some ⟨V9.heap.size + 1, 0, Option.none⟩))).run Try.prog V5 = .ok (.agg #[.int .i64 ry.e, .int .i64 ry.n, .string ry.d]) V5) := load_cel AR5.whole
                      obtain ⟨V7, hs4, AC7, hne7, hbl7⟩ := putC (d := ry) AC5
                      have HS11 : Hid ((Instr.storeAt 23 (.pointer (some ⟨cb, 0, Option.none⟩)) (.agg #[.int .i64 ry.e, .int .i64 ry.n, .string ry.d])).run Try.prog V5 = .ok () V7) := hs4
                      have AG7 := hne7 _ _ _ (by omega) AG5
                      have bw7 := hbl7 _ _ (by omega) bw5
                      clear hs3 hs4 hne5 hne7 hbl5 hbl7 AG5 AC5 AR5 bw5 AG AC bw AR AN9
                      go_wp2_with (first | (with_reducible refine wl_load HL3.out rfl rfl ?_) | (with_reducible refine wl_store HS10.out rfl rfl ?_) | (with_reducible refine wl_load HL4.out rfl rfl ?_) | (with_reducible refine wl_store HS11.out rfl rfl ?_))
                      exact ⟨⟨i + 1, gy, u2, (e2 + 1), ry, by omega, by go_num, by go_num, hGy, hRY, by omega, by omega, AG7, AC7, bw7⟩, by simp [intOf]; omega⟩
              | false =>
                go_wp2_with (with_reducible refine wl_load HL.out rfl rfl ?_)
                refine (sync_any r2 u2 e2 m Y2 hG2).mono ?_
                rintro r Z ⟨rfl, b2⟩
                have hG3 := syncG_ok hG2 e2 m
                have hMJ3 := RJ.sync (up := u2) hG2 hMJ hk8 m hm3
                generalize syncG r2 u2 e2 m = g2 at *
                generalize syncB r2 u2 e2 m = sb at *
                replace AG := AG.later b2 AG.lt
                replace AC := AC.later b2 AC.lt
                replace bw := bw.trans (b2.mono bw.size)
                clear HL b2 c0 c1
                obtain ⟨Z2, hst2, AG2, hne, hbl⟩ := putG hG2 hG3 AG
                have HS2 : Hid ((Instr.storeAt 38 (.pointer (some ⟨gb, 0, Option.none⟩)) (.agg (grV g2 u2).toArray)).run Try.prog Z = .ok () Z2) := hst2
                replace AC := hne _ _ _ (by omega) AC
                replace bw := hbl _ _ (by omega) bw
                clear hst2 hne hbl AG
                have AG := AG2
                clear AG2
                have hGx := hG3
                have HLr : Hid ((Instr.loadAt 38 (.pointer (some ⟨gb, 0, Option.none⟩))).run Try.prog Z2 = .ok (.agg (grV g2 u2).toArray) Z2) := load_gr AG hGx.vlen
                go_wp2_with (first | (with_reducible refine wl_store HS2.out rfl rfl ?_) | (with_reducible refine wl_load HLr.out rfl rfl ?_))
                refine (gread_any g2 u2 e2 k Z2 hGx hk8).mono ?_
                rintro r V9 ⟨rfl, b9⟩
                replace AG := AG.later b9 AG.lt
                replace AC := AC.later b9 AC.lt
                replace bw := bw.trans (b9.mono bw.size)
                clear HLr b9
                have hGy := readG_ok hGx e2 k
                have HRC : Hid (readB g2 u2 e2 = true → RJ (readG g2 u2 e2 k) e2 k (readC g2 u2 e2 k) ∧ (readC g2 u2 e2 k = wc ∨ newerB (readC g2 u2 e2 k) wc = true)) := fun hrb => by
                  refine ⟨RJ.read hGx hk8 hMJ3.fl (fun x y hx hy => hMJ3.un x y (.inl hx) (.inl hy)) hrb, ?_⟩
                  rw [readC_is g2 u2 e2 k hk8 hrb]
                  exact RJ.now hMJ3 u2 (by simpa [readB] using hrb)
                generalize readG g2 u2 e2 k = gy at *
                generalize readC g2 u2 e2 k = ry at *
                obtain ⟨V2, V3, hs1, hs2, AR, bV, AN9⟩ := newGC hGy ry V9
                have HS8 : Hid ((Instr.storeAt 38 (.pointer (some ⟨V9.heap.size, 0, Option.none⟩)) (.agg (grV gy u2).toArray)).run Try.prog ((V9.alloc (.cells z78.toArray 38)).alloc (.cells #[.int .i64 0, .int .i64 0, .string ⟨#[]⟩] 23)) = .ok () V2) := hs1
                have HS9 : Hid ((Instr.storeAt 23 (.pointer (some ⟨V9.heap.size + 1, 0, Option.none⟩)) (.agg #[.int .i64 ry.e, .int .i64 ry.n, .string ry.d])).run Try.prog V2 = .ok () V3) := hs2
                have hg9 := AG.lt
                have hc9 := AC.lt
                replace AG := AG.later bV AG.lt
                replace AC := AC.later bV AC.lt
                replace bw := bw.trans (bV.mono bw.size)
                clear hs1 hs2 bV
                cases hrb : readB g2 u2 e2 with
                | false =>
                  go_wp2_with (first | (with_reducible refine wl_store HS8.out rfl rfl ?_) | (with_reducible refine wl_store HS9.out rfl rfl ?_))
                  exact ⟨⟨i + 1, g2, u2, e2, wc, by omega, rfl, by go_num, hGx, hMJ3, by omega, by omega, AG, AC, bw⟩, by simp [intOf]; omega⟩
                | true =>
                  obtain ⟨hRY, hnow⟩ := HRC.out hrb
                  clear HRC hrb
                  have HL1 : Hid ((Instr.loadAt 23 (.pointer (some ⟨V9.heap.size + 1, 0, Option.none⟩))).run Try.prog V3 = .ok (.agg #[.int .i64 ry.e, .int .i64 ry.n, .string ry.d]) V3) := load_cel AR.whole
                  have HL2 : Hid ((Instr.loadAt 23 (.pointer (some ⟨cb, 0, Option.none⟩))).run Try.prog V3 = .ok (.agg #[.int .i64 wc.e, .int .i64 wc.n, .string wc.d]) V3) := load_cel AC.whole
                  obtain ⟨bq, hbq⟩ : ∃ bq, eqCel ry wc = bq := ⟨_, rfl⟩
                  have HQ : Hid ((Op.equalIn 10000 23 (.agg #[.int .i64 ry.e, .int .i64 ry.n, .string ry.d]) (.agg #[.int .i64 wc.e, .int .i64 wc.n, .string wc.d])).run Try.prog V3 = .ok bq V3) := by
                    show _ = _; rw [show (10000 : Nat) = 9998 + 2 from rfl, run_eq_cel 9998 ry wc V3, hbq]
                  have hb2 : bq = true ∨ (bq = false ∧ newerB ry wc = true) := by
                    rcases hnow with h | h
                    · left; rw [← hbq, h, eqCel_refl]
                    · cases bq
                      · exact .inr ⟨rfl, h⟩
                      · exact .inl rfl
                  clear hbq hnow
                  rcases hb2 with rfl | ⟨rfl, hnw⟩
                  · have HL3 : Hid ((Instr.loadAt 38 (.pointer (some ⟨V9.heap.size, 0, Option.none⟩))).run Try.prog V3 = .ok (.agg (grV gy u2).toArray) V3) := load_gr AN9 hGy.vlen
                    obtain ⟨V5, hs3, AG5, hne5, hbl5⟩ := putG hGx hGy AG
                    have HS10 : Hid ((Instr.storeAt 38 (.pointer (some ⟨gb, 0, Option.none⟩)) (.agg (grV gy u2).toArray)).run Try.prog V3 = .ok () V5) := hs3
                    have AC5 := hne5 _ _ _ (by omega) AC
                    have AR5 := hne5 _ _ _ (by omega) AR
                    have bw5 := hbl5 _ _ (by omega) bw
                    have HL4 : Hid ((Instr.loadAt 23 (.pointer (some ⟨V9.heap.size + 1, 0, Option.none⟩))).run Try.prog V5 = .ok (.agg #[.int .i64 ry.e, .int .i64 ry.n, .string ry.d]) V5) := load_cel AR5.whole
                    obtain ⟨V7, hs4, AC7, hne7, hbl7⟩ := putC (d := ry) AC5
                    have HS11 : Hid ((Instr.storeAt 23 (.pointer (some ⟨cb, 0, Option.none⟩)) (.agg #[.int .i64 ry.e, .int .i64 ry.n, .string ry.d])).run Try.prog V5 = .ok () V7) := hs4
                    have AG7 := hne7 _ _ _ (by omega) AG5
                    have bw7 := hbl7 _ _ (by omega) bw5
                    clear hs3 hs4 hne5 hne7 hbl5 hbl7 AG5 AC5 AR5 bw5 AG AC bw AR AN9
                    go_wp2_with (first | (with_reducible refine wl_store HS8.out rfl rfl ?_) | (with_reducible refine wl_store HS9.out rfl rfl ?_) | (with_reducible refine wl_load HL1.out rfl rfl ?_) | (with_reducible refine wl_load HL2.out rfl rfl ?_) | (with_reducible refine wl_neq HQ.out eqg23 rfl rfl rfl ?_) | (with_reducible refine wl_load HL3.out rfl rfl ?_) | (with_reducible refine wl_store HS10.out rfl rfl ?_) | (with_reducible refine wl_load HL4.out rfl rfl ?_) | (with_reducible refine wl_store HS11.out rfl rfl ?_))
                    exact ⟨⟨i + 1, gy, u2, e2, ry, by omega, rfl, by go_num, hGy, hRY, by omega, by omega, AG7, AC7, bw7⟩, by simp [intOf]; omega⟩
                  · go_wp2_with (first | (with_reducible refine wl_store HS8.out rfl rfl ?_) | (with_reducible refine wl_store HS9.out rfl rfl ?_) | (with_reducible refine wl_load HL1.out rfl rfl ?_) | (with_reducible refine wl_load HL2.out rfl rfl ?_) | (with_reducible refine wl_neq HQ.out eqg23 rfl rfl rfl ?_))
                    refine (newer_any ry.e ry.n wc.e wc.n ry.d wc.d V3).mono ?_
                    rintro r V4 ⟨rfl, b8⟩
                    rw [show newerB ⟨ry.e, ry.n, ry.d⟩ ⟨wc.e, wc.n, wc.d⟩ = newerB ry wc from rfl, hnw]
                    replace AG := AG.later b8 AG.lt
                    replace AC := AC.later b8 AC.lt
                    replace AR := AR.later b8 AR.lt
                    replace AN9 := AN9.later b8 AN9.lt
                    replace bw := bw.trans (b8.mono bw.size)
                    clear HS8 HS9 HL1 HL2 HQ b8 hnw
                    have HL3 : Hid ((Instr.loadAt 38 (.pointer (some ⟨V9.heap.size, 0, Option.none⟩))).run Try.prog V4 = .ok (.agg (grV gy u2).toArray) V4) := load_gr AN9 hGy.vlen
                    obtain ⟨V5, hs3, AG5, hne5, hbl5⟩ := putG hGx hGy AG
                    have HS10 : Hid ((Instr.storeAt 38 (.pointer (some ⟨gb, 0, Option.none⟩)) (.agg (grV gy u2).toArray)).run Try.prog V4 = .ok () V5) := hs3
                    have AC5 := hne5 _ _ _ (by omega) AC
                    have AR5 := hne5 _ _ _ (by omega) AR
                    have bw5 := hbl5 _ _ (by omega) bw
                    have HL4 : Hid ((Instr.loadAt 23 (.pointer (some ⟨V9.heap.size + 1, 0, Option.none⟩))).run Try.prog V5 = .ok (.agg #[.int .i64 ry.e, .int .i64 ry.n, .string ry.d]) V5) := load_cel AR5.whole
                    obtain ⟨V7, hs4, AC7, hne7, hbl7⟩ := putC (d := ry) AC5
                    have HS11 : Hid ((Instr.storeAt 23 (.pointer (some ⟨cb, 0, Option.none⟩)) (.agg #[.int .i64 ry.e, .int .i64 ry.n, .string ry.d])).run Try.prog V5 = .ok () V7) := hs4
                    have AG7 := hne7 _ _ _ (by omega) AG5
                    have bw7 := hbl7 _ _ (by omega) bw5
                    clear hs3 hs4 hne5 hne7 hbl5 hbl7 AG5 AC5 AR5 bw5 AG AC bw AR AN9
                    go_wp2_with (first | (with_reducible refine wl_load HL3.out rfl rfl ?_) | (with_reducible refine wl_store HS10.out rfl rfl ?_) | (with_reducible refine wl_load HL4.out rfl rfl ?_) | (with_reducible refine wl_store HS11.out rfl rfl ?_))
                    exact ⟨⟨i + 1, gy, u2, e2, ry, by omega, rfl, by go_num, hGy, hRY, by omega, by omega, AG7, AC7, bw7⟩, by simp [intOf]; omega⟩
            · obtain rfl : i = l2.length := by omega
              go_wp2_with fail
              go_ret
              exact ⟨rfl, bw⟩

set_option maxRecDepth 100000 in
theorem topRead_lifted (os : Os) (started : os.Started) (H : Type) (enc : TypeId × Value → H) :
    ReturnsInHanded {} Try.checked os 7 .any (Rows.topReadSpec.pre6 enc Try.prog Try.f7 Rows.topReadRow.domain false) (Rows.topReadSpec.post enc Try.prog Try.f7 false true false false) := by
  refine returnsInHanded_of_change (C := Try.checked) own started (by kernel_rfl) Try.func7
    (ChangeSpec.witness6 (enc := enc) (C := Try.checked) false ⟨#[], #[.slice Option.none 0 0, .slice Option.none 0 0, .int .i64 0], []⟩ 8 (by kernel_rfl) (by kernel_rfl) (by kernel_rfl) (by kernel_rfl)) ?_
  intro W base args ds gs before hval0 hW hcnd _
  have hval : ∀ (j : Nat) t v, Try.f7.params[j]? = some t → args[j]? = some v → Value.okWide Try.prog W .any base t v := hval0
  have hW' := hW
  obtain ⟨p, q, hA0, hV, rfl, hfz, hnd⟩ := hW
  have hA : DataW.TrodAll enc Try.prog W 0 (fun _ => true) true Try.f7.params.toList args.toList ds p := hA0
  rw [Try.params7] at hA hval
  obtain ⟨v0, v1, v2, d0, d1, d2, p0, p1, p2, rfl, rfl, rfl, h0, h1, h2⟩ := trodAll_three hA
  obtain ⟨rfl, rfl⟩ := trodVars_none hV
  have k0 := h0
  have lt0 : ∀ x ∈ p0, x.block < W.heap.size := by obtain ⟨m, hm⟩ := k0; exact DataW.trod_lt m _ _ _ hm
  obtain ⟨a0, n0, c0, l0, rfl, row0⟩ := open_acts (hval 0 32 v0 rfl rfl) h0
  have k1 := h1
  have lt1 : ∀ x ∈ p1, x.block < W.heap.size := by obtain ⟨m, hm⟩ := k1; exact DataW.trod_lt m _ _ _ hm
  obtain ⟨a1, n1, c1, l1, rfl, row1⟩ := open_acts (hval 1 32 v1 rfl rfl) h1
  obtain ⟨x2, rfl, rfl, rfl, wf2⟩ := open_int Try.underlying3 (hval 2 3 v2 rfl rfl) h2
  clear hA0 hval0
  refine (topRead_walk a0 n0 c0 l0 a1 n1 c1 l1 x2 W row0 row1).mono fun e W' ⟨he, bel⟩ => ?_
  subst he
  exact ⟨_, rfl, _, _, _, [], _, [], hW', trodAll_mk1 (shut_bool Try.underlying4 _), (trodAll_cons_mk (Below.trod laidOut (by kernel_rfl) (of_decide_eq_true (by kernel_rfl)) k0 bel lt0) (trodAll_cons_mk (Below.trod laidOut (by kernel_rfl) (of_decide_eq_true (by kernel_rfl)) k1 bel lt1) (trodAll_cons_mk (shut_int Try.underlying3 wf2) trodAll_mk0))), rfl, bel.frame _, fun h => by cases h⟩

theorem topRead_holds : Rows.TopReadSaid :=
  OpenClaim.holds_of_wide 7 Try.f7 rfl rfl rfl rfl rfl rfl rfl ⟨rfl, rfl, rfl, rfl, rfl⟩ rfl rfl rfl rfl rfl (by kernel_rfl) Try.func7 (by kernel_rfl)
    (of_decide_eq_true (by kernel_rfl)) (by unfold Func.isWrapper; first | (rw [if_pos (by decide +kernel)]; kernel_rfl) | (rw [if_neg (by decide +kernel)]; exact ⟨rfl, rfl⟩))
    (fun os started H enc _ => topRead_lifted os started H enc)
#print axioms topRead_holds
end Go.Proofs.Yteebhmhjbgehjaa
