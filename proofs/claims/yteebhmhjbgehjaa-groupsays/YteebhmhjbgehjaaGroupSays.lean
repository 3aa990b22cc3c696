/- Proved: for all acts the law GroupSays returns true and leaves its argument as it was; no condition beyond the row's own. -/
import Derived.Test.YteebhmhjbgehjaaGSaysM
namespace Go.Proofs.Yteebhmhjbgehjaa
open Go.ChangeShapes Go.WideShapes Go.ChangeAt Go.RowKit Go.Deep

set_option maxRecDepth 100000 in
set_option maxHeartbeats 40000000 in
theorem groupSays_walk (a : Option Addr) (n c : Nat) (l : List ActD) (w : World) (h : Acts w a n l) :
    Calls Try.prog 4 #[.slice a n c] w fun r w' => r = .returned (.bool true) ∧ Below w.heap.size w w' := by
  obtain rfl := h.len
  have hz := zero78
  have HA : Hid (Acts w a l.length l) := h
  clear h
  go_enter Try.func4, Try.ntmps4
  go_wp2_with fail
  refine (groups_any w).mono ?_
  rintro r W1 ⟨rfl, bw⟩
  go_wp2_with fail
  refine (lightActs_any a l.length c l 60 W1 (HA.out.later bw)).mono ?_
  rintro r W2 ⟨rfl, b1⟩
  replace bw := bw.trans (b1.mono bw.size)
  clear b1
  cases hl : lightA l 60 with
  | false =>
    go_wp2_with fail
    go_ret
    exact ⟨rfl, bw⟩
  | true =>
  have hn : l.length ≤ 60 := by simp [lightA] at hl; omega
  clear hl
  go_wp2_with fail
  refine (gnew_any W2).mono ?_
  rintro r W3 ⟨rfl, b1⟩
  replace bw := bw.trans (b1.mono bw.size)
  clear b1
  obtain ⟨rs, hrs⟩ : ∃ rs, newR 3 = rs := ⟨_, rfl⟩
  obtain ⟨up, hup⟩ : ∃ up, newU 3 = up := ⟨_, rfl⟩
  have hGI : GI rs up := by rw [← hrs, ← hup]; exact GI.first
  have HE : Hid (newR 3 = rs ∧ newU 3 = up) := ⟨hrs, hup⟩
  rw [hrs, hup]
  clear hrs hup
  obtain ⟨Y, hst, AG, bY⟩ := newG hGI.ok W3
  have HS : Hid ((Instr.storeAt 38 (.pointer (some ⟨W3.heap.size, 0, Option.none⟩)) (.agg (grV rs up).toArray)).run Try.prog (W3.alloc (.cells z78.toArray 38)) = .ok () Y) := hst
  have hgw := bw.size
  replace bw := bw.trans (bY.mono bw.size)
  clear hst bY
  go_wp2_with (with_reducible refine wl_store HS.out rfl rfl ?_)
  clear HS
  refine (rgnew_any Y).mono ?_
  rintro r W4 ⟨rfl, AM, b1⟩
  rw [HE.out.1, HE.out.2] at AM
  clear HE
  have hgm := AG.lt
  replace AG := AG.later b1 AG.lt
  replace bw := bw.trans (b1.mono bw.size)
  clear b1
  obtain ⟨gb, hgbe⟩ : ∃ gb, W3.heap.size = gb := ⟨_, rfl⟩
  obtain ⟨mb, hmbe⟩ : ∃ mb, Y.heap.size = mb := ⟨_, rfl⟩
  rw [hgbe] at AG hgw hgm ⊢
  rw [hmbe] at AM hgm ⊢
  clear hgbe hmbe
  go_wp2_with fail
  go_loopw [6] (fun iv wr => ∃ (i : Nat) (r1 : List Rep) (u1 : List Bool), i ≤ l.length ∧ iv = .int .i64 i ∧ GI r1 u1 ∧ At wr gb (grV r1 u1) 38 ∧ At wr mb (grV r1 u1) 53 ∧ Below w.heap.size w wr) (fun iv _ => l.length - (intOf iv).toNat)
  case atStart => exact ⟨0, rs, up, Nat.zero_le _, rfl, hGI, AG, AM, bw⟩
  case round =>
    clear AG AM bw hGI
    obtain ⟨i, r1, u1, hi, rfl, hGI, AG, AM, bw⟩ := hrel
    by_cases hlt : i < l.length
    · have hki : (i : Int) < (l.length : Int) := by omega
      obtain ⟨b, off, rfl, hrow⟩ := HA.out.row (by omega)
      have hrk := rangeAt_later (hrow i hlt) bw
      generalize l[i] = x at *
      clear hrow
      have HLa : Hid ((Instr.loadAt 49 (.pointer (some ⟨b, off + i * 19, Option.none⟩))).run Try.prog wr = .ok (.agg x.vs.toArray) wr) := load_act hrk
      obtain ⟨Y2, hst, AA, bY⟩ := newA x wr
      have HS : Hid ((Instr.storeAt 49 (.pointer (some ⟨wr.heap.size, 0, Option.none⟩)) (.agg x.vs.toArray)).run Try.prog (wr.alloc (.cells z19.toArray 49)) = .ok () Y2) := hst
      have hz19 := zero19
      have c1 : Y2.cell? ⟨wr.heap.size, 1, Option.none⟩ = some (.int .i64 x.a) := AA.cell 1
      have c2 : Y2.cell? ⟨wr.heap.size, 2, Option.none⟩ = some (.int .i64 x.b) := AA.cell 2
      have hmw := AM.lt
      replace AG := AG.later bY AG.lt
      replace AM := AM.later bY AM.lt
      replace bw := bw.trans (bY.mono bw.size)
      clear bY hst hrk
      go_upto_region 10 with (first | (with_reducible refine wl_load HLa.out rfl rfl ?_) | (with_reducible refine wl_store HS.out rfl rfl ?_))
      clear HLa HS
      obtain ⟨ab, habe⟩ : ∃ ab, wr.heap.size = ab := ⟨_, rfl⟩
      rw [habe] at AA c1 c2 hmw ⊢
      clear habe
      by_cases hob : (0 ≤ x.a ∧ x.a ≤ 1000) ∧ (0 ≤ x.b ∧ x.b ≤ 7)
      case neg =>
        have hbd : x.a < 0 ∨ (¬ x.a < 0 ∧ 1000 < x.a) ∨ (¬ x.a < 0 ∧ ¬ 1000 < x.a ∧ x.b < 0) ∨ (¬ x.a < 0 ∧ ¬ 1000 < x.a ∧ ¬ x.b < 0 ∧ 7 < x.b) := by omega
        clear hob
        rcases hbd with h1 | ⟨h1, h2⟩ | ⟨h1, h2, h3⟩ | ⟨h1, h2, h3, h4⟩
        all_goals
          go_wp2_with fail
          go_ret
          exact ⟨rfl, bw⟩
      obtain ⟨m, hxa, hm1⟩ : ∃ m : Nat, x.a = m ∧ m ≤ 1000 := ⟨x.a.toNat, by omega, by omega⟩
      obtain ⟨k, hxb, hk8⟩ : ∃ k : Nat, x.b = k ∧ k < 8 := ⟨x.b.toNat, by omega, by omega⟩
      rw [hxa] at c1
      rw [hxb] at c2
      have HXA : Hid (x.a = m ∧ x.b = k) := ⟨hxa, hxb⟩
      clear hob hxa hxb
      have hm0 : ¬ ((m : Int) < 0) := by omega
      have hm9 : ¬ ((1000 : Int) < (m : Int)) := by omega
      have hk0 : ¬ ((k : Int) < 0) := by omega
      have hk7 : ¬ ((7 : Int) < (k : Int)) := by omega
      have HLg : Hid ((Instr.loadAt 38 (.pointer (some ⟨gb, 0, Option.none⟩))).run Try.prog Y2 = .ok (.agg (grV r1 u1).toArray) Y2) := load_gr AG hGI.ok.vlen
      obtain ⟨Y3, hst, AW, bY⟩ := newG hGI.ok Y2
      have HS : Hid ((Instr.storeAt 38 (.pointer (some ⟨Y2.heap.size, 0, Option.none⟩)) (.agg (grV r1 u1).toArray)).run Try.prog (Y2.alloc (.cells z78.toArray 38)) = .ok () Y3) := hst
      have hwb : ab < Y2.heap.size := AA.lt
      replace AA := AA.later bY AA.lt
      replace AG := AG.later bY AG.lt
      replace AM := AM.later bY AM.lt
      replace bw := bw.trans (bY.mono bw.size)
      clear hst bY
      go_upto_region 13 with (first | (with_reducible refine wl_load HLg.out rfl rfl ?_) | (with_reducible refine wl_store HS.out rfl rfl ?_))
      clear HLg HS c1 c2
      obtain ⟨wb, hwbe⟩ : ∃ wb, Y2.heap.size = wb := ⟨_, rfl⟩
      rw [hwbe] at AW hwb ⊢
      clear hwbe
      have c0 : Y3.cell? ⟨ab, 0, Option.none⟩ = some (.string x.kind) := AA.cell 0
      have c1 : Y3.cell? ⟨ab, 1, Option.none⟩ = some (.int .i64 m) := (AA.cell 1).trans (by show some (Value.int .i64 x.a) = _; rw [HXA.out.1])
      have c2 : Y3.cell? ⟨ab, 2, Option.none⟩ = some (.int .i64 k) := (AA.cell 2).trans (by show some (Value.int .i64 x.b) = _; rw [HXA.out.2])
      have HL : Hid ((Instr.loadAt 38 (.pointer (some ⟨gb, 0, Option.none⟩))).run Try.prog Y3 = .ok (.agg (grV r1 u1).toArray) Y3) := load_gr AG hGI.ok.vlen
      cases h1 : (x.kind.toList == [117, 112]) with
      | true =>
        as_aux_lemma =>
          by_cases hm3 : m < 3
          case neg =>
            have hm2' : (2 : Int) < (m : Int) := by omega
            go_wp2_with fail
            go_ret
            exact ⟨rfl, bw⟩
          have hm2' : ¬ ((2 : Int) < (m : Int)) := by omega
          have hm3' : (m : Int) < 3 := by omega
          have hmu : m < u1.length := by rw [hGI.ok.upl]; exact hm3
          have cu := (AG.cell (75 + m)).trans (hGI.ok.upc m hmu)
          have zu : Y3.frozen? ⟨gb, 75 + m, Option.none⟩ = false := (AG.there (75 + m) 1 (by rw [hGI.ok.vlen]; omega) 0 (by decide)).2
          replace AG := AG.setCell_same (75 + m) (.bool true)
          rw [grV_up hGI.ok] at AG
          replace AM := AM.setCell_ne ⟨gb, 75 + m, Option.none⟩ (by simp; omega) (.bool true)
          replace AA := AA.setCell_ne ⟨gb, 75 + m, Option.none⟩ (by simp; omega) (.bool true)
          replace AW := AW.setCell_ne ⟨gb, 75 + m, Option.none⟩ (by simp; omega) (.bool true)
          replace bw := bw.setCell (p := ⟨gb, 75 + m, Option.none⟩) (by simp; omega) (.bool true)
          go_upto_region 26 with fail
          clear cu zu c0 c1 c2 HL
          generalize Y3.setCell ⟨gb, 75 + m, Option.none⟩ (.bool true) = Z at *
          refine wp_region_held (S := fun w' => At w' ab x.vs 49) (by kernel_rfl) ?_
          have HS : Hid (At Z.drew ab x.vs 49) := AA
          have cu : Z.drew.cell? ⟨mb, 75 + m, Option.none⟩ = some (.bool u1[m]) := (AM.cell (75 + m)).trans (hGI.ok.upc m hmu)
          have zu : Z.drew.frozen? ⟨mb, 75 + m, Option.none⟩ = false := (At.there (W := Z.drew) AM (75 + m) 1 (by rw [hGI.ok.vlen]; omega) 0 (by decide)).2
          have BM := At.setCell_same (W := Z.drew) AM (75 + m) (.bool true)
          rw [grV_up hGI.ok] at BM
          have BG := At.setCell_ne (W := Z.drew) AG ⟨mb, 75 + m, Option.none⟩ (by simp; omega) (.bool true)
          have BA := At.setCell_ne (W := Z.drew) AA ⟨mb, 75 + m, Option.none⟩ (by simp; omega) (.bool true)
          have BW := At.setCell_ne (W := Z.drew) AW ⟨mb, 75 + m, Option.none⟩ (by simp; omega) (.bool true)
          have b5 := bw.drew.setCell (p := ⟨mb, 75 + m, Option.none⟩) (by simp; omega) (.bool true)
          refine wpAnyH_take (i := 0) (v := .pointer (some ⟨mb, 0, Option.none⟩)) rfl (by kernel_rfl) (by kernel_rfl) (by kernel_rfl) (fun _ _ _ h => h) (.inl ⟨rfl, fun w' hw' => ?_⟩) HS.out ?_
          · go_simp
          refine wpAnyH_take (i := 1) (v := .pointer (some ⟨ab, 1, Option.none⟩)) rfl (by kernel_rfl) (by kernel_rfl) (by kernel_rfl) (fun _ _ _ h => h) (.inl ⟨rfl, fun w' hw' => ?_⟩) HS.out ?_
          · go_simp
          refine wpAnyH_take (i := 2) (v := .int .i64 m) rfl (by kernel_rfl) (by kernel_rfl) (by kernel_rfl) (fun _ _ _ h => h) (.inl ⟨rfl, fun w' hw' => ?_⟩) HS.out ?_
          · have hc : w'.cell? ⟨ab, 1, Option.none⟩ = some (.int .i64 m) := (At.cell hw' 1).trans (by show some (Value.int .i64 x.a) = _; rw [HXA.out.1])
            go_simp
          refine wpAnyH_take (i := 3) (v := .pointer (some ⟨ab, 0, Option.none⟩)) rfl (by kernel_rfl) (by kernel_rfl) (by kernel_rfl) (fun _ _ _ h => h) (.inl ⟨rfl, fun w' hw' => ?_⟩) HS.out ?_
          · go_simp
          simp [Act.put]
          refine wpAnyH_take (i := 4) (v := .string x.kind) rfl (by kernel_rfl) (by kernel_rfl) (by kernel_rfl) (fun _ _ _ h => h) (.inl ⟨rfl, fun w' hw' => ?_⟩) HS.out ?_
          · have hc : w'.cell? ⟨ab, 0, Option.none⟩ = some (.string x.kind) := At.cell hw' 0
            go_simp
          refine wpAnyH_take (i := 5) (v := .bool true) rfl (by kernel_rfl) (by kernel_rfl) (by kernel_rfl) (fun _ _ _ h => h) (.inl ⟨rfl, fun w' hw' => ?_⟩) HS.out ?_
          · go_simp
          refine wpAnyH_take (i := 6) (v := .pointer (some ⟨mb, 0, Option.none⟩)) rfl (by kernel_rfl) (by kernel_rfl) (by kernel_rfl) (fun _ _ _ h => h) (.inl ⟨rfl, fun w' hw' => ?_⟩) HS.out ?_
          · go_simp
          simp [Act.put]
          refine wpAnyH_take (i := 7) (v := .pointer (some ⟨mb, 75, Option.none⟩)) rfl (by kernel_rfl) (by kernel_rfl) (by kernel_rfl) (fun _ _ _ h => h) (.inl ⟨rfl, fun w' hw' => ?_⟩) HS.out ?_
          · go_simp
          refine wpAnyH_take (i := 8) (v := .pointer (some ⟨mb, 75 + m, Option.none⟩)) rfl (by kernel_rfl) (by kernel_rfl) (by kernel_rfl) (fun _ _ _ h => h) (.inl ⟨rfl, fun w' hw' => ?_⟩) HS.out ?_
          · go_simp
          simp [Act.put]
          generalize Z.drew = Z0 at *
          generalize hZ1 : Z0.setCell ⟨mb, 75 + m, Option.none⟩ (.bool true) = Z1 at *
          have HBA : Hid (At Z1 ab x.vs 49) := BA
          clear BA
          refine wpAnyH_all (rs := [9]) (by kernel_rfl) (by simp) ?_
          intro i2 hi2
          obtain rfl : i2 = 9 := by simpa using hi2
          refine wpOp_step rfl rfl ?_
          go_wp2_with fail
          (try rw [hZ1])
          refine ⟨HBA.out, ?_⟩
          (try simp [Act.put])
          refine wpAnyH_done (by kernel_rfl) ?_ _
          (try simp [Act.put])
          clear AA AG AM AW bw cu zu hZ1 HS
          have AA := HBA.out
          have AG := BG
          have AM := BM
          have AW := BW
          have bw := b5
          clear BG BM BW b5 HBA
          have hGx := hGI.up m true
          have HLt : Hid ((Instr.loadAt 38 (.pointer (some ⟨gb, 0, Option.none⟩))).run Try.prog Z1 = .ok (.agg (grV r1 (u1.set m true)).toArray) Z1) := load_gr AG hGx.ok.vlen
          go_wp2_with (first  | (with_reducible refine wl_load HLt.out rfl rfl ?_))
          clear HLt
          refine (asGroup_any r1 (u1.set m true) mb 53 Z1 hGx.ok AM).mono ?_
          rintro r V1 ⟨rfl, b9⟩
          replace AA := AA.later b9 AA.lt
          replace AG := AG.later b9 AG.lt
          replace AM := AM.later b9 AM.lt
          replace AW := AW.later b9 AW.lt
          replace bw := bw.trans (b9.mono bw.size)
          clear b9
          have d0 : V1.cell? ⟨ab, 0, Option.none⟩ = some (.string x.kind) := AA.cell 0
          go_wp2_with fail
          clear d0 AA AW
          go_loopw [21] (fun ev w2 => ∃ q : Nat, q ≤ 4 ∧ ev = .int .i64 q ∧ At w2 gb (grV r1 (u1.set m true)) 38 ∧ At w2 mb (grV r1 (u1.set m true)) 53 ∧ Below w.heap.size w w2) (fun ev _ => 4 - (intOf ev).toNat)
          case atStart => exact ⟨0, by omega, rfl, AG, AM, bw⟩
          case round =>
            clear AG AM bw
            obtain ⟨q, hq, rfl, AG, AM, bw⟩ := hrel
            by_cases hq4 : q < 4
            · have hqi : (q : Int) < 4 := by omega
              have HLq : Hid ((Instr.loadAt 38 (.pointer (some ⟨gb, 0, Option.none⟩))).run Try.prog wr = .ok (.agg (grV r1 (u1.set m true)).toArray) wr) := load_gr AG hGx.ok.vlen
              go_wp2_with (with_reducible refine wl_load HLq.out rfl rfl ?_)
              clear HLq
              refine (members_any r1 (u1.set m true) q wr hGx.ok).mono ?_
              rintro r V2 ⟨a3, n3, c3, rfl, ho3, b9⟩
              replace AG := AG.later b9 AG.lt
              replace AM := AM.later b9 AM.lt
              replace bw := bw.trans (b9.mono bw.size)
              clear b9
              go_wp2_with fail
              refine (rmembers_any r1 (u1.set m true) q mb 53 V2 hGx.ok AM).mono ?_
              rintro r V3 ⟨a4, n4, c4, rfl, ho4, b9⟩
              replace AG := AG.later b9 AG.lt
              replace AM := AM.later b9 AM.lt
              replace bw := bw.trans (b9.mono bw.size)
              replace ho3 := ho3.later b9 (Nat.le_refl _)
              clear b9
              obtain ⟨_, _, _, he3, hn3⟩ := ho3.form
              simp only [Value.slice.injEq] at he3
              obtain ⟨rfl, rfl, rfl⟩ := he3
              obtain ⟨_, _, _, he4, hn4⟩ := ho4.form
              simp only [Value.slice.injEq] at he4
              obtain ⟨rfl, rfl, rfl⟩ := he4
              go_wp2_with fail
              refine (M.sameNums_any _ _ _ _ _ _ (memL r1 (u1.set m true) q 3) V3 hn3 hn4).mono ?_
              rintro r V4 ⟨rfl, b9⟩
              replace AG := AG.later b9 AG.lt
              replace AM := AM.later b9 AM.lt
              replace bw := bw.trans (b9.mono bw.size)
              clear b9 hn3 hn4 ho3 ho4
              go_wp2_with fail
              exact ⟨⟨q + 1, by omega, by go_num, AG, AM, bw⟩, by simp [intOf]; omega⟩
            · obtain rfl : q = 4 := by omega
              go_wp2_with fail
              exact ⟨⟨i + 1, r1, (u1.set m true), by omega, by go_num, hGx, AG, AM, bw⟩, by simp [intOf]; omega⟩
      | false =>
      cases h2 : (x.kind.toList == [100, 111, 119, 110]) with
      | true =>
        as_aux_lemma =>
          by_cases hm3 : m < 3
          case neg =>
            have hm2' : (2 : Int) < (m : Int) := by omega
            go_wp2_with fail
            go_ret
            exact ⟨rfl, bw⟩
          have hm2' : ¬ ((2 : Int) < (m : Int)) := by omega
          have hm3' : (m : Int) < 3 := by omega
          have hmu : m < u1.length := by rw [hGI.ok.upl]; exact hm3
          have cu := (AG.cell (75 + m)).trans (hGI.ok.upc m hmu)
          have zu : Y3.frozen? ⟨gb, 75 + m, Option.none⟩ = false := (AG.there (75 + m) 1 (by rw [hGI.ok.vlen]; omega) 0 (by decide)).2
          replace AG := AG.setCell_same (75 + m) (.bool false)
          rw [grV_up hGI.ok] at AG
          replace AM := AM.setCell_ne ⟨gb, 75 + m, Option.none⟩ (by simp; omega) (.bool false)
          replace AA := AA.setCell_ne ⟨gb, 75 + m, Option.none⟩ (by simp; omega) (.bool false)
          replace AW := AW.setCell_ne ⟨gb, 75 + m, Option.none⟩ (by simp; omega) (.bool false)
          replace bw := bw.setCell (p := ⟨gb, 75 + m, Option.none⟩) (by simp; omega) (.bool false)
          go_upto_region 26 with fail
          clear cu zu c0 c1 c2 HL
          generalize Y3.setCell ⟨gb, 75 + m, Option.none⟩ (.bool false) = Z at *
          refine wp_region_held (S := fun w' => At w' ab x.vs 49) (by kernel_rfl) ?_
          have HS : Hid (At Z.drew ab x.vs 49) := AA
          have cu : Z.drew.cell? ⟨mb, 75 + m, Option.none⟩ = some (.bool u1[m]) := (AM.cell (75 + m)).trans (hGI.ok.upc m hmu)
          have zu : Z.drew.frozen? ⟨mb, 75 + m, Option.none⟩ = false := (At.there (W := Z.drew) AM (75 + m) 1 (by rw [hGI.ok.vlen]; omega) 0 (by decide)).2
          have BM := At.setCell_same (W := Z.drew) AM (75 + m) (.bool false)
          rw [grV_up hGI.ok] at BM
          have BG := At.setCell_ne (W := Z.drew) AG ⟨mb, 75 + m, Option.none⟩ (by simp; omega) (.bool false)
          have BA := At.setCell_ne (W := Z.drew) AA ⟨mb, 75 + m, Option.none⟩ (by simp; omega) (.bool false)
          have BW := At.setCell_ne (W := Z.drew) AW ⟨mb, 75 + m, Option.none⟩ (by simp; omega) (.bool false)
          have b5 := bw.drew.setCell (p := ⟨mb, 75 + m, Option.none⟩) (by simp; omega) (.bool false)
          refine wpAnyH_take (i := 0) (v := .pointer (some ⟨mb, 0, Option.none⟩)) rfl (by kernel_rfl) (by kernel_rfl) (by kernel_rfl) (fun _ _ _ h => h) (.inl ⟨rfl, fun w' hw' => ?_⟩) HS.out ?_
          · go_simp
          refine wpAnyH_take (i := 1) (v := .pointer (some ⟨ab, 1, Option.none⟩)) rfl (by kernel_rfl) (by kernel_rfl) (by kernel_rfl) (fun _ _ _ h => h) (.inl ⟨rfl, fun w' hw' => ?_⟩) HS.out ?_
          · go_simp
          refine wpAnyH_take (i := 2) (v := .int .i64 m) rfl (by kernel_rfl) (by kernel_rfl) (by kernel_rfl) (fun _ _ _ h => h) (.inl ⟨rfl, fun w' hw' => ?_⟩) HS.out ?_
          · have hc : w'.cell? ⟨ab, 1, Option.none⟩ = some (.int .i64 m) := (At.cell hw' 1).trans (by show some (Value.int .i64 x.a) = _; rw [HXA.out.1])
            go_simp
          refine wpAnyH_take (i := 3) (v := .pointer (some ⟨ab, 0, Option.none⟩)) rfl (by kernel_rfl) (by kernel_rfl) (by kernel_rfl) (fun _ _ _ h => h) (.inl ⟨rfl, fun w' hw' => ?_⟩) HS.out ?_
          · go_simp
          simp [Act.put]
          refine wpAnyH_take (i := 4) (v := .string x.kind) rfl (by kernel_rfl) (by kernel_rfl) (by kernel_rfl) (fun _ _ _ h => h) (.inl ⟨rfl, fun w' hw' => ?_⟩) HS.out ?_
          · have hc : w'.cell? ⟨ab, 0, Option.none⟩ = some (.string x.kind) := At.cell hw' 0
            go_simp
          refine wpAnyH_take (i := 5) (v := .bool false) rfl (by kernel_rfl) (by kernel_rfl) (by kernel_rfl) (fun _ _ _ h => h) (.inl ⟨rfl, fun w' hw' => ?_⟩) HS.out ?_
          · go_simp
          refine wpAnyH_take (i := 6) (v := .pointer (some ⟨mb, 0, Option.none⟩)) rfl (by kernel_rfl) (by kernel_rfl) (by kernel_rfl) (fun _ _ _ h => h) (.inl ⟨rfl, fun w' hw' => ?_⟩) HS.out ?_
          · go_simp
          simp [Act.put]
          refine wpAnyH_take (i := 7) (v := .pointer (some ⟨mb, 75, Option.none⟩)) rfl (by kernel_rfl) (by kernel_rfl) (by kernel_rfl) (fun _ _ _ h => h) (.inl ⟨rfl, fun w' hw' => ?_⟩) HS.out ?_
          · go_simp
          refine wpAnyH_take (i := 8) (v := .pointer (some ⟨mb, 75 + m, Option.none⟩)) rfl (by kernel_rfl) (by kernel_rfl) (by kernel_rfl) (fun _ _ _ h => h) (.inl ⟨rfl, fun w' hw' => ?_⟩) HS.out ?_
          · go_simp
          simp [Act.put]
          generalize Z.drew = Z0 at *
          generalize hZ1 : Z0.setCell ⟨mb, 75 + m, Option.none⟩ (.bool false) = Z1 at *
          have HBA : Hid (At Z1 ab x.vs 49) := BA
          clear BA
          refine wpAnyH_all (rs := [9]) (by kernel_rfl) (by simp) ?_
          intro i2 hi2
          obtain rfl : i2 = 9 := by simpa using hi2
          refine wpOp_step rfl rfl ?_
          go_wp2_with fail
          (try rw [hZ1])
          refine ⟨HBA.out, ?_⟩
          (try simp [Act.put])
          refine wpAnyH_done (by kernel_rfl) ?_ _
          (try simp [Act.put])
          clear AA AG AM AW bw cu zu hZ1 HS
          have AA := HBA.out
          have AG := BG
          have AM := BM
          have AW := BW
          have bw := b5
          clear BG BM BW b5 HBA
          have hGx := hGI.up m false
          have HLt : Hid ((Instr.loadAt 38 (.pointer (some ⟨gb, 0, Option.none⟩))).run Try.prog Z1 = .ok (.agg (grV r1 (u1.set m false)).toArray) Z1) := load_gr AG hGx.ok.vlen
          go_wp2_with (first  | (with_reducible refine wl_load HLt.out rfl rfl ?_))
          clear HLt
          refine (asGroup_any r1 (u1.set m false) mb 53 Z1 hGx.ok AM).mono ?_
          rintro r V1 ⟨rfl, b9⟩
          replace AA := AA.later b9 AA.lt
          replace AG := AG.later b9 AG.lt
          replace AM := AM.later b9 AM.lt
          replace AW := AW.later b9 AW.lt
          replace bw := bw.trans (b9.mono bw.size)
          clear b9
          have d0 : V1.cell? ⟨ab, 0, Option.none⟩ = some (.string x.kind) := AA.cell 0
          go_wp2_with fail
          clear d0 AA AW
          go_loopw [21] (fun ev w2 => ∃ q : Nat, q ≤ 4 ∧ ev = .int .i64 q ∧ At w2 gb (grV r1 (u1.set m false)) 38 ∧ At w2 mb (grV r1 (u1.set m false)) 53 ∧ Below w.heap.size w w2) (fun ev _ => 4 - (intOf ev).toNat)
          case atStart => exact ⟨0, by omega, rfl, AG, AM, bw⟩
          case round =>
            clear AG AM bw
            obtain ⟨q, hq, rfl, AG, AM, bw⟩ := hrel
            by_cases hq4 : q < 4
            · have hqi : (q : Int) < 4 := by omega
              have HLq : Hid ((Instr.loadAt 38 (.pointer (some ⟨gb, 0, Option.none⟩))).run Try.prog wr = .ok (.agg (grV r1 (u1.set m false)).toArray) wr) := load_gr AG hGx.ok.vlen
              go_wp2_with (with_reducible refine wl_load HLq.out rfl rfl ?_)
              clear HLq
              refine (members_any r1 (u1.set m false) q wr hGx.ok).mono ?_
              rintro r V2 ⟨a3, n3, c3, rfl, ho3, b9⟩
              replace AG := AG.later b9 AG.lt
              replace AM := AM.later b9 AM.lt
              replace bw := bw.trans (b9.mono bw.size)
              clear b9
              go_wp2_with fail
              refine (rmembers_any r1 (u1.set m false) q mb 53 V2 hGx.ok AM).mono ?_
              rintro r V3 ⟨a4, n4, c4, rfl, ho4, b9⟩
              replace AG := AG.later b9 AG.lt
              replace AM := AM.later b9 AM.lt
              replace bw := bw.trans (b9.mono bw.size)
              replace ho3 := ho3.later b9 (Nat.le_refl _)
              clear b9
              obtain ⟨_, _, _, he3, hn3⟩ := ho3.form
              simp only [Value.slice.injEq] at he3
              obtain ⟨rfl, rfl, rfl⟩ := he3
              obtain ⟨_, _, _, he4, hn4⟩ := ho4.form
              simp only [Value.slice.injEq] at he4
              obtain ⟨rfl, rfl, rfl⟩ := he4
              go_wp2_with fail
              refine (M.sameNums_any _ _ _ _ _ _ (memL r1 (u1.set m false) q 3) V3 hn3 hn4).mono ?_
              rintro r V4 ⟨rfl, b9⟩
              replace AG := AG.later b9 AG.lt
              replace AM := AM.later b9 AM.lt
              replace bw := bw.trans (b9.mono bw.size)
              clear b9 hn3 hn4 ho3 ho4
              go_wp2_with fail
              exact ⟨⟨q + 1, by omega, by go_num, AG, AM, bw⟩, by simp [intOf]; omega⟩
            · obtain rfl : q = 4 := by omega
              go_wp2_with fail
              exact ⟨⟨i + 1, r1, (u1.set m false), by omega, by go_num, hGx, AG, AM, bw⟩, by simp [intOf]; omega⟩
      | false =>
      cases h3 : (x.kind.toList == [102, 101, 110, 99, 101]) with
      | true =>
        as_aux_lemma =>
          go_wp2_with (with_reducible refine wl_load HL.out rfl rfl ?_)
          refine (gfence_any r1 u1 m Y3 hGI.ok (by omega) (by omega)).mono ?_
          rintro r Z ⟨rfl, b2⟩
          rw [show decide (2 ≤ (memL (fenG r1 u1 m) u1 m 3).length) = readB (fenG r1 u1 m) u1 m from rfl]
          have hG2 := hGI.fence m
          replace AA := AA.later b2 AA.lt
          replace AG := AG.later b2 AG.lt
          replace AM := AM.later b2 AM.lt
          replace AW := AW.later b2 AW.lt
          replace bw := bw.trans (b2.mono bw.size)
          clear HL b2 c0 c1 c2
          obtain ⟨Z1, hst, AN, b3⟩ := newG hG2.ok Z
          have HS : Hid ((Instr.storeAt 38 (.pointer (some ⟨Z.heap.size, 0, Option.none⟩)) (.agg (grV (fenG r1 u1 m) u1).toArray)).run Try.prog (Z.alloc (.cells z78.toArray 38)) = .ok () Z1) := hst
          have hz9 := AW.lt
          replace AA := AA.later b3 AA.lt
          replace AG := AG.later b3 AG.lt
          replace AM := AM.later b3 AM.lt
          replace AW := AW.later b3 AW.lt
          replace bw := bw.trans (b3.mono bw.size)
          clear hst b3
          have c1 : World.cell? Z1 ⟨ab, 1, Option.none⟩ = some (.int .i64 m) := (AA.cell 1).trans (by show some (Value.int .i64 x.a) = _; rw [HXA.out.1])
          go_wp2_with (with_reducible refine wl_store HS.out rfl rfl ?_)
          clear HS
          refine (rgfence_any r1 u1 m mb 53 Z1 hGI.ok (by omega) (by omega) AM).mono ?_
          rintro r Z2 ⟨rfl, AM2, hO⟩
          replace AA := hO.at AA (by omega)
          replace AG := hO.at AG (by omega)
          replace AW := hO.at AW (by omega)
          replace AN := hO.at AN (by omega)
          replace bw := hO.below bw (by omega) (by have := bw.size; omega)
          clear hO AM c1
          have AM := AM2
          clear AM2
          generalize fenG r1 u1 m = g2 at *
          generalize readB g2 u1 m = rb at *
          have HLn : Hid ((Instr.loadAt 38 (.pointer (some ⟨Z.heap.size, 0, Option.none⟩))).run Try.prog Z2 = .ok (.agg (grV g2 u1).toArray) Z2) := load_gr AN hG2.ok.vlen
          obtain ⟨Z3, hst2, AG2, hne, hbl⟩ := putG hGI.ok hG2.ok AG
          have HS2 : Hid ((Instr.storeAt 38 (.pointer (some ⟨gb, 0, Option.none⟩)) (.agg (grV g2 u1).toArray)).run Try.prog Z2 = .ok () Z3) := hst2
          replace AA := hne _ _ _ (by omega) AA
          replace AM := hne _ _ _ (by omega) AM
          replace AW := hne _ _ _ (by omega) AW
          replace bw := hbl _ _ (by omega) bw
          clear hst2 hne hbl AG AN
          have AG := AG2
          clear AG2
          have hGx := hG2
          have HLt : Hid ((Instr.loadAt 38 (.pointer (some ⟨gb, 0, Option.none⟩))).run Try.prog Z3 = .ok (.agg (grV g2 u1).toArray) Z3) := load_gr AG hGx.ok.vlen
          go_wp2_with (first | (with_reducible refine wl_load HLn.out rfl rfl ?_) | (with_reducible refine wl_store HS2.out rfl rfl ?_) | (with_reducible refine wl_load HLt.out rfl rfl ?_))
          clear HLt
          refine (asGroup_any g2 u1 mb 53 Z3 hGx.ok AM).mono ?_
          rintro r V1 ⟨rfl, b9⟩
          replace AA := AA.later b9 AA.lt
          replace AG := AG.later b9 AG.lt
          replace AM := AM.later b9 AM.lt
          replace AW := AW.later b9 AW.lt
          replace bw := bw.trans (b9.mono bw.size)
          clear b9
          have d0 : V1.cell? ⟨ab, 0, Option.none⟩ = some (.string x.kind) := AA.cell 0
          have HLw : Hid ((Instr.loadAt 36 (.pointer (some ⟨wb, 75, Option.none⟩))).run Try.prog V1 = .ok (.agg (u1.map Value.bool).toArray) V1) := load_ups AW hGI.ok
          have HLx : Hid ((Instr.loadAt 36 (.pointer (some ⟨gb, 75, Option.none⟩))).run Try.prog V1 = .ok (.agg (u1.map Value.bool).toArray) V1) := load_ups AG hGx.ok
          have HQ : Hid ((Op.equalIn 10000 36 (.agg (u1.map Value.bool).toArray) (.agg (u1.map Value.bool).toArray)).run Try.prog V1 = .ok true V1) := run_eq_ups u1 hGI.ok.upl V1
          go_wp2_with (first | (with_reducible refine wl_load HLw.out rfl rfl ?_) | (with_reducible refine wl_load HLx.out rfl rfl ?_) | (with_reducible refine wl_neq HQ.out eqg36 rfl rfl rfl ?_))
          clear HLw HLx HQ
          clear d0 AA AW
          go_loopw [21] (fun ev w2 => ∃ q : Nat, q ≤ 4 ∧ ev = .int .i64 q ∧ At w2 gb (grV g2 u1) 38 ∧ At w2 mb (grV g2 u1) 53 ∧ Below w.heap.size w w2) (fun ev _ => 4 - (intOf ev).toNat)
          case atStart => exact ⟨0, by omega, rfl, AG, AM, bw⟩
          case round =>
            clear AG AM bw
            obtain ⟨q, hq, rfl, AG, AM, bw⟩ := hrel
            by_cases hq4 : q < 4
            · have hqi : (q : Int) < 4 := by omega
              have HLq : Hid ((Instr.loadAt 38 (.pointer (some ⟨gb, 0, Option.none⟩))).run Try.prog wr = .ok (.agg (grV g2 u1).toArray) wr) := load_gr AG hGx.ok.vlen
              go_wp2_with (with_reducible refine wl_load HLq.out rfl rfl ?_)
              clear HLq
              refine (members_any g2 u1 q wr hGx.ok).mono ?_
              rintro r V2 ⟨a3, n3, c3, rfl, ho3, b9⟩
              replace AG := AG.later b9 AG.lt
              replace AM := AM.later b9 AM.lt
              replace bw := bw.trans (b9.mono bw.size)
              clear b9
              go_wp2_with fail
              refine (rmembers_any g2 u1 q mb 53 V2 hGx.ok AM).mono ?_
              rintro r V3 ⟨a4, n4, c4, rfl, ho4, b9⟩
              replace AG := AG.later b9 AG.lt
              replace AM := AM.later b9 AM.lt
              replace bw := bw.trans (b9.mono bw.size)
              replace ho3 := ho3.later b9 (Nat.le_refl _)
              clear b9
              obtain ⟨_, _, _, he3, hn3⟩ := ho3.form
              simp only [Value.slice.injEq] at he3
              obtain ⟨rfl, rfl, rfl⟩ := he3
              obtain ⟨_, _, _, he4, hn4⟩ := ho4.form
              simp only [Value.slice.injEq] at he4
              obtain ⟨rfl, rfl, rfl⟩ := he4
              go_wp2_with fail
              refine (M.sameNums_any _ _ _ _ _ _ (memL g2 u1 q 3) V3 hn3 hn4).mono ?_
              rintro r V4 ⟨rfl, b9⟩
              replace AG := AG.later b9 AG.lt
              replace AM := AM.later b9 AM.lt
              replace bw := bw.trans (b9.mono bw.size)
              clear b9 hn3 hn4 ho3 ho4
              go_wp2_with fail
              exact ⟨⟨q + 1, by omega, by go_num, AG, AM, bw⟩, by simp [intOf]; omega⟩
            · obtain rfl : q = 4 := by omega
              go_wp2_with fail
              exact ⟨⟨i + 1, g2, u1, by omega, by go_num, hGx, AG, AM, bw⟩, by simp [intOf]; omega⟩
      | false =>
      cases h4 : (x.kind.toList == [114, 101, 97, 100]) with
      | true =>
        as_aux_lemma =>
          go_wp2_with (with_reducible refine wl_load HL.out rfl rfl ?_)
          refine (gread_any r1 u1 m k Y3 hGI.ok hk8).mono ?_
          rintro r Z ⟨rfl, b2⟩
          have hG2 := hGI.read m k hk8
          replace AA := AA.later b2 AA.lt
          replace AG := AG.later b2 AG.lt
          replace AM := AM.later b2 AM.lt
          replace AW := AW.later b2 AW.lt
          replace bw := bw.trans (b2.mono bw.size)
          clear HL b2 c0 c1 c2
          obtain ⟨rc, hrc⟩ : ∃ rc, readC r1 u1 m k = rc := ⟨_, rfl⟩
          have HRC : Hid (readC r1 u1 m k = rc) := hrc
          rw [hrc]
          clear hrc
          obtain ⟨V2, Z1, hs1, hs2, AR, b3, AN⟩ := newGC hG2.ok rc Z
          have HS8 : Hid ((Instr.storeAt 38 (.pointer (some ⟨Z.heap.size, 0, Option.none⟩)) (.agg (grV (readG r1 u1 m k) u1).toArray)).run Try.prog ((Z.alloc (.cells z78.toArray 38)).alloc (.cells #[.int .i64 0, .int .i64 0, .string ⟨#[]⟩] 23)) = .ok () V2) := hs1
          have HS9 : Hid ((Instr.storeAt 23 (.pointer (some ⟨Z.heap.size + 1, 0, Option.none⟩)) (.agg #[.int .i64 rc.e, .int .i64 rc.n, .string rc.d])).run Try.prog V2 = .ok () Z1) := hs2
          have hz9 := AW.lt
          replace AA := AA.later b3 AA.lt
          replace AG := AG.later b3 AG.lt
          replace AM := AM.later b3 AM.lt
          replace AW := AW.later b3 AW.lt
          replace bw := bw.trans (b3.mono bw.size)
          clear hs1 hs2 b3
          have c1 : World.cell? Z1 ⟨ab, 1, Option.none⟩ = some (.int .i64 m) := (AA.cell 1).trans (by show some (Value.int .i64 x.a) = _; rw [HXA.out.1])
          have c2 : World.cell? Z1 ⟨ab, 2, Option.none⟩ = some (.int .i64 k) := (AA.cell 2).trans (by show some (Value.int .i64 x.b) = _; rw [HXA.out.2])
          go_wp2_with (first | (with_reducible refine wl_store HS8.out rfl rfl ?_) | (with_reducible refine wl_store HS9.out rfl rfl ?_))
          clear HS8 HS9
          refine (rgread_any r1 u1 m k mb 53 Z1 hGI.ok hk8 (hGI.cz k hk8) AM).mono ?_
          rintro r Z0 ⟨rfl, AM2, hO⟩
          rw [HRC.out]
          replace AA := hO.at AA (by omega)
          replace AG := hO.at AG (by omega)
          replace AW := hO.at AW (by omega)
          replace AN := hO.at AN (by omega)
          replace AR := hO.at AR (by omega)
          replace bw := hO.below bw (by omega) (by have := bw.size; omega)
          clear hO AM c1 c2 HRC
          have AM := AM2
          clear AM2
          generalize readG r1 u1 m k = g2 at *
          generalize readB r1 u1 m = rb at *
          go_upto_region 35 with fail
          obtain ⟨V0, hV0, a9, b9, _⟩ := one Z0 (.cells #[.int .i64 rc.e, .int .i64 rc.n, .string rc.d] 23)
          have A9 : At V0 Z0.heap.size rc.vs 23 := a9
          rw [← hV0]
          replace AA := AA.later b9 AA.lt
          replace AG := AG.later b9 AG.lt
          replace AM := AM.later b9 AM.lt
          replace AW := AW.later b9 AW.lt
          replace AN := AN.later b9 AN.lt
          replace AR := AR.later b9 AR.lt
          replace bw := bw.trans (b9.mono bw.size)
          clear b9 a9 hV0
          have HL1 : Hid ((Instr.loadAt 23 (.pointer (some ⟨Z.heap.size + 1, 0, Option.none⟩))).run Try.prog V0 = .ok (.agg #[.int .i64 rc.e, .int .i64 rc.n, .string rc.d]) V0) := load_cel AR.whole
          have HL2 : Hid ((Instr.loadAt 23 (.pointer (some ⟨Z0.heap.size, 0, Option.none⟩))).run Try.prog V0 = .ok (.agg #[.int .i64 rc.e, .int .i64 rc.n, .string rc.d]) V0) := load_cel A9.whole
          have HQ9 : Hid ((Op.equalIn 10000 23 (.agg #[.int .i64 rc.e, .int .i64 rc.n, .string rc.d]) (.agg #[.int .i64 rc.e, .int .i64 rc.n, .string rc.d])).run Try.prog V0 = .ok true V0) := by
            show _ = _; rw [show (10000 : Nat) = 9998 + 2 from rfl, run_eq_cel 9998 rc rc V0, eqCel_refl]
          have HLn : Hid ((Instr.loadAt 38 (.pointer (some ⟨Z.heap.size, 0, Option.none⟩))).run Try.prog V0 = .ok (.agg (grV g2 u1).toArray) V0) := load_gr AN hG2.ok.vlen
          clear AR A9
          obtain ⟨Z3, hst2, AG2, hne, hbl⟩ := putG hGI.ok hG2.ok AG
          have HS2 : Hid ((Instr.storeAt 38 (.pointer (some ⟨gb, 0, Option.none⟩)) (.agg (grV g2 u1).toArray)).run Try.prog V0 = .ok () Z3) := hst2
          replace AA := hne _ _ _ (by omega) AA
          replace AM := hne _ _ _ (by omega) AM
          replace AW := hne _ _ _ (by omega) AW
          replace bw := hbl _ _ (by omega) bw
          clear hst2 hne hbl AG AN
          have AG := AG2
          clear AG2
          have hGx := hG2
          have HLt : Hid ((Instr.loadAt 38 (.pointer (some ⟨gb, 0, Option.none⟩))).run Try.prog Z3 = .ok (.agg (grV g2 u1).toArray) Z3) := load_gr AG hGx.ok.vlen
          go_wp2_with (first | (with_reducible refine wl_load HLn.out rfl rfl ?_) | (with_reducible refine wl_store HS2.out rfl rfl ?_) | (with_reducible refine wl_load HL1.out rfl rfl ?_) | (with_reducible refine wl_load HL2.out rfl rfl ?_) | (with_reducible refine wl_neq HQ9.out eqg23 rfl rfl rfl ?_) | (with_reducible refine wl_load HLt.out rfl rfl ?_))
          clear HLt
          refine (asGroup_any g2 u1 mb 53 Z3 hGx.ok AM).mono ?_
          rintro r V1 ⟨rfl, b9⟩
          replace AA := AA.later b9 AA.lt
          replace AG := AG.later b9 AG.lt
          replace AM := AM.later b9 AM.lt
          replace AW := AW.later b9 AW.lt
          replace bw := bw.trans (b9.mono bw.size)
          clear b9
          have d0 : V1.cell? ⟨ab, 0, Option.none⟩ = some (.string x.kind) := AA.cell 0
          have HLw : Hid ((Instr.loadAt 36 (.pointer (some ⟨wb, 75, Option.none⟩))).run Try.prog V1 = .ok (.agg (u1.map Value.bool).toArray) V1) := load_ups AW hGI.ok
          have HLx : Hid ((Instr.loadAt 36 (.pointer (some ⟨gb, 75, Option.none⟩))).run Try.prog V1 = .ok (.agg (u1.map Value.bool).toArray) V1) := load_ups AG hGx.ok
          have HQ : Hid ((Op.equalIn 10000 36 (.agg (u1.map Value.bool).toArray) (.agg (u1.map Value.bool).toArray)).run Try.prog V1 = .ok true V1) := run_eq_ups u1 hGI.ok.upl V1
          go_wp2_with (first | (with_reducible refine wl_load HLw.out rfl rfl ?_) | (with_reducible refine wl_load HLx.out rfl rfl ?_) | (with_reducible refine wl_neq HQ.out eqg36 rfl rfl rfl ?_))
          clear HLw HLx HQ
          clear d0 AA AW
          go_loopw [21] (fun ev w2 => ∃ q : Nat, q ≤ 4 ∧ ev = .int .i64 q ∧ At w2 gb (grV g2 u1) 38 ∧ At w2 mb (grV g2 u1) 53 ∧ Below w.heap.size w w2) (fun ev _ => 4 - (intOf ev).toNat)
          case atStart => exact ⟨0, by omega, rfl, AG, AM, bw⟩
          case round =>
            clear AG AM bw
            obtain ⟨q, hq, rfl, AG, AM, bw⟩ := hrel
            by_cases hq4 : q < 4
            · have hqi : (q : Int) < 4 := by omega
              have HLq : Hid ((Instr.loadAt 38 (.pointer (some ⟨gb, 0, Option.none⟩))).run Try.prog wr = .ok (.agg (grV g2 u1).toArray) wr) := load_gr AG hGx.ok.vlen
              go_wp2_with (with_reducible refine wl_load HLq.out rfl rfl ?_)
              clear HLq
              refine (members_any g2 u1 q wr hGx.ok).mono ?_
              rintro r V2 ⟨a3, n3, c3, rfl, ho3, b9⟩
              replace AG := AG.later b9 AG.lt
              replace AM := AM.later b9 AM.lt
              replace bw := bw.trans (b9.mono bw.size)
              clear b9
              go_wp2_with fail
              refine (rmembers_any g2 u1 q mb 53 V2 hGx.ok AM).mono ?_
              rintro r V3 ⟨a4, n4, c4, rfl, ho4, b9⟩
              replace AG := AG.later b9 AG.lt
              replace AM := AM.later b9 AM.lt
              replace bw := bw.trans (b9.mono bw.size)
              replace ho3 := ho3.later b9 (Nat.le_refl _)
              clear b9
              obtain ⟨_, _, _, he3, hn3⟩ := ho3.form
              simp only [Value.slice.injEq] at he3
              obtain ⟨rfl, rfl, rfl⟩ := he3
              obtain ⟨_, _, _, he4, hn4⟩ := ho4.form
              simp only [Value.slice.injEq] at he4
              obtain ⟨rfl, rfl, rfl⟩ := he4
              go_wp2_with fail
              refine (M.sameNums_any _ _ _ _ _ _ (memL g2 u1 q 3) V3 hn3 hn4).mono ?_
              rintro r V4 ⟨rfl, b9⟩
              replace AG := AG.later b9 AG.lt
              replace AM := AM.later b9 AM.lt
              replace bw := bw.trans (b9.mono bw.size)
              clear b9 hn3 hn4 ho3 ho4
              go_wp2_with fail
              exact ⟨⟨q + 1, by omega, by go_num, AG, AM, bw⟩, by simp [intOf]; omega⟩
            · obtain rfl : q = 4 := by omega
              go_wp2_with fail
              exact ⟨⟨i + 1, g2, u1, by omega, by go_num, hGx, AG, AM, bw⟩, by simp [intOf]; omega⟩
      | false =>
      cases h5 : (x.kind.toList == [115, 121, 110, 99]) with
      | true =>
        as_aux_lemma =>
          by_cases hk2 : k < 3
          case neg =>
            have hk2' : (2 : Int) < (k : Int) := by omega
            go_wp2_with fail
            go_ret
            exact ⟨rfl, bw⟩
          have hk2' : ¬ ((2 : Int) < (k : Int)) := by omega
          go_wp2_with (with_reducible refine wl_load HL.out rfl rfl ?_)
          refine (sync_any r1 u1 m k Y3 hGI.ok).mono ?_
          rintro r Z ⟨rfl, b2⟩
          have hG2 := hGI.sync m k hk2
          replace AA := AA.later b2 AA.lt
          replace AG := AG.later b2 AG.lt
          replace AM := AM.later b2 AM.lt
          replace AW := AW.later b2 AW.lt
          replace bw := bw.trans (b2.mono bw.size)
          clear HL b2 c0 c1 c2
          obtain ⟨Z1, hst, AN, b3⟩ := newG hG2.ok Z
          have HS : Hid ((Instr.storeAt 38 (.pointer (some ⟨Z.heap.size, 0, Option.none⟩)) (.agg (grV (syncG r1 u1 m k) u1).toArray)).run Try.prog (Z.alloc (.cells z78.toArray 38)) = .ok () Z1) := hst
          have hz9 := AW.lt
          replace AA := AA.later b3 AA.lt
          replace AG := AG.later b3 AG.lt
          replace AM := AM.later b3 AM.lt
          replace AW := AW.later b3 AW.lt
          replace bw := bw.trans (b3.mono bw.size)
          clear hst b3
          have c1 : World.cell? Z1 ⟨ab, 1, Option.none⟩ = some (.int .i64 m) := (AA.cell 1).trans (by show some (Value.int .i64 x.a) = _; rw [HXA.out.1])
          have c2 : World.cell? Z1 ⟨ab, 2, Option.none⟩ = some (.int .i64 k) := (AA.cell 2).trans (by show some (Value.int .i64 x.b) = _; rw [HXA.out.2])
          go_wp2_with (with_reducible refine wl_store HS.out rfl rfl ?_)
          clear HS
          refine (rgsync_any r1 u1 m k mb 53 Z1 hGI.ok hk2 hGI.cz AM).mono ?_
          rintro r Z2 ⟨rfl, AM2, hO⟩
          replace AA := hO.at AA (by omega)
          replace AG := hO.at AG (by omega)
          replace AW := hO.at AW (by omega)
          replace AN := hO.at AN (by omega)
          replace bw := hO.below bw (by omega) (by have := bw.size; omega)
          clear hO AM c1 c2
          have AM := AM2
          clear AM2
          generalize syncG r1 u1 m k = g2 at *
          generalize syncB r1 u1 m k = rb at *
          have HLn : Hid ((Instr.loadAt 38 (.pointer (some ⟨Z.heap.size, 0, Option.none⟩))).run Try.prog Z2 = .ok (.agg (grV g2 u1).toArray) Z2) := load_gr AN hG2.ok.vlen
          obtain ⟨Z3, hst2, AG2, hne, hbl⟩ := putG hGI.ok hG2.ok AG
          have HS2 : Hid ((Instr.storeAt 38 (.pointer (some ⟨gb, 0, Option.none⟩)) (.agg (grV g2 u1).toArray)).run Try.prog Z2 = .ok () Z3) := hst2
          replace AA := hne _ _ _ (by omega) AA
          replace AM := hne _ _ _ (by omega) AM
          replace AW := hne _ _ _ (by omega) AW
          replace bw := hbl _ _ (by omega) bw
          clear hst2 hne hbl AG AN
          have AG := AG2
          clear AG2
          have hGx := hG2
          have HLt : Hid ((Instr.loadAt 38 (.pointer (some ⟨gb, 0, Option.none⟩))).run Try.prog Z3 = .ok (.agg (grV g2 u1).toArray) Z3) := load_gr AG hGx.ok.vlen
          go_wp2_with (first | (with_reducible refine wl_load HLn.out rfl rfl ?_) | (with_reducible refine wl_store HS2.out rfl rfl ?_) | (with_reducible refine wl_load HLt.out rfl rfl ?_))
          clear HLt
          refine (asGroup_any g2 u1 mb 53 Z3 hGx.ok AM).mono ?_
          rintro r V1 ⟨rfl, b9⟩
          replace AA := AA.later b9 AA.lt
          replace AG := AG.later b9 AG.lt
          replace AM := AM.later b9 AM.lt
          replace AW := AW.later b9 AW.lt
          replace bw := bw.trans (b9.mono bw.size)
          clear b9
          have d0 : V1.cell? ⟨ab, 0, Option.none⟩ = some (.string x.kind) := AA.cell 0
          have HLw : Hid ((Instr.loadAt 36 (.pointer (some ⟨wb, 75, Option.none⟩))).run Try.prog V1 = .ok (.agg (u1.map Value.bool).toArray) V1) := load_ups AW hGI.ok
          have HLx : Hid ((Instr.loadAt 36 (.pointer (some ⟨gb, 75, Option.none⟩))).run Try.prog V1 = .ok (.agg (u1.map Value.bool).toArray) V1) := load_ups AG hGx.ok
          have HQ : Hid ((Op.equalIn 10000 36 (.agg (u1.map Value.bool).toArray) (.agg (u1.map Value.bool).toArray)).run Try.prog V1 = .ok true V1) := run_eq_ups u1 hGI.ok.upl V1
          go_wp2_with (first | (with_reducible refine wl_load HLw.out rfl rfl ?_) | (with_reducible refine wl_load HLx.out rfl rfl ?_) | (with_reducible refine wl_neq HQ.out eqg36 rfl rfl rfl ?_))
          clear HLw HLx HQ
          clear d0 AA AW
          go_loopw [21] (fun ev w2 => ∃ q : Nat, q ≤ 4 ∧ ev = .int .i64 q ∧ At w2 gb (grV g2 u1) 38 ∧ At w2 mb (grV g2 u1) 53 ∧ Below w.heap.size w w2) (fun ev _ => 4 - (intOf ev).toNat)
          case atStart => exact ⟨0, by omega, rfl, AG, AM, bw⟩
          case round =>
            clear AG AM bw
            obtain ⟨q, hq, rfl, AG, AM, bw⟩ := hrel
            by_cases hq4 : q < 4
            · have hqi : (q : Int) < 4 := by omega
              have HLq : Hid ((Instr.loadAt 38 (.pointer (some ⟨gb, 0, Option.none⟩))).run Try.prog wr = .ok (.agg (grV g2 u1).toArray) wr) := load_gr AG hGx.ok.vlen
              go_wp2_with (with_reducible refine wl_load HLq.out rfl rfl ?_)
              clear HLq
              refine (members_any g2 u1 q wr hGx.ok).mono ?_
              rintro r V2 ⟨a3, n3, c3, rfl, ho3, b9⟩
              replace AG := AG.later b9 AG.lt
              replace AM := AM.later b9 AM.lt
              replace bw := bw.trans (b9.mono bw.size)
              clear b9
              go_wp2_with fail
              refine (rmembers_any g2 u1 q mb 53 V2 hGx.ok AM).mono ?_
              rintro r V3 ⟨a4, n4, c4, rfl, ho4, b9⟩
              replace AG := AG.later b9 AG.lt
              replace AM := AM.later b9 AM.lt
              replace bw := bw.trans (b9.mono bw.size)
              replace ho3 := ho3.later b9 (Nat.le_refl _)
              clear b9
              obtain ⟨_, _, _, he3, hn3⟩ := ho3.form
              simp only [Value.slice.injEq] at he3
              obtain ⟨rfl, rfl, rfl⟩ := he3
              obtain ⟨_, _, _, he4, hn4⟩ := ho4.form
              simp only [Value.slice.injEq] at he4
              obtain ⟨rfl, rfl, rfl⟩ := he4
              go_wp2_with fail
              refine (M.sameNums_any _ _ _ _ _ _ (memL g2 u1 q 3) V3 hn3 hn4).mono ?_
              rintro r V4 ⟨rfl, b9⟩
              replace AG := AG.later b9 AG.lt
              replace AM := AM.later b9 AM.lt
              replace bw := bw.trans (b9.mono bw.size)
              clear b9 hn3 hn4 ho3 ho4
              go_wp2_with fail
              exact ⟨⟨q + 1, by omega, by go_num, AG, AM, bw⟩, by simp [intOf]; omega⟩
            · obtain rfl : q = 4 := by omega
              go_wp2_with fail
              exact ⟨⟨i + 1, g2, u1, by omega, by go_num, hGx, AG, AM, bw⟩, by simp [intOf]; omega⟩
      | false =>
      as_aux_lemma =>
        have c3 : Y3.cell? ⟨ab, 3, Option.none⟩ = some (.string x.s) := AA.cell 3
        have c5 : Y3.cell? ⟨ab, 5, Option.none⟩ = some (.int .i64 x.gen) := AA.cell 5
        have c7 : Y3.cell? ⟨ab, 7, Option.none⟩ = some (.int .i64 x.ty) := AA.cell 7
        by_cases hin : (m < 3) ∧ (0 ≤ x.gen ∧ x.gen ≤ 1000) ∧ (0 ≤ x.ty ∧ x.ty ≤ 1000)
        case neg =>
          have hbd : (2 : Int) < (m : Int) ∨ (¬ (2 : Int) < (m : Int) ∧ x.gen < 0) ∨ (¬ (2 : Int) < (m : Int) ∧ ¬ x.gen < 0 ∧ 1000 < x.gen) ∨ (¬ (2 : Int) < (m : Int) ∧ ¬ x.gen < 0 ∧ ¬ 1000 < x.gen ∧ x.ty < 0) ∨ (¬ (2 : Int) < (m : Int) ∧ ¬ x.gen < 0 ∧ ¬ 1000 < x.gen ∧ ¬ x.ty < 0 ∧ 1000 < x.ty) := by omega
          clear hin
          go_upto_region 14 with fail
          rcases hbd with g1 | ⟨g1, g2⟩ | ⟨g1, g2, g3⟩ | ⟨g1, g2, g3, g4⟩ | ⟨g1, g2, g3, g4, g5⟩
          all_goals
            go_wp2_with fail
            go_ret
            exact ⟨rfl, bw⟩
        have hm3 : m < 3 := hin.1
        have g1 : ¬ (2 : Int) < (m : Int) := by omega
        have g2 : ¬ x.gen < 0 := by omega
        have g3 : ¬ 1000 < x.gen := by omega
        have g4 : ¬ x.ty < 0 := by omega
        have g5 : ¬ 1000 < x.ty := by omega
        clear hin HL
        go_upto_region 17 with fail
        obtain ⟨X5, hX5, a5, b5, s5⟩ := one Y3 (.cells (msgV m k ⟨x.gen, x.ty, x.s⟩ 0).toArray 64)
        have AX : At X5 Y3.heap.size (msgV m k ⟨x.gen, x.ty, x.s⟩ 0) 64 := a5
        simp only [msgV] at hX5
        rw [← hX5]
        have hxw := AW.lt
        have hxm := AM.lt
        have hxg := AG.lt
        have hxa := AA.lt
        replace AA := AA.later b5 AA.lt
        replace AG := AG.later b5 AG.lt
        replace AM := AM.later b5 AM.lt
        replace AW := AW.later b5 AW.lt
        replace bw := bw.trans (b5.mono bw.size)
        clear hX5 a5 b5 c0 c1 c2 c3 c5 c7 g1 g2 g3 g4 g5
        obtain ⟨xb, hxb9⟩ : ∃ xb, Y3.heap.size = xb := ⟨_, rfl⟩
        rw [hxb9] at AX hxw hxm hxg hxa ⊢
        clear hxb9
        generalize hce : (⟨x.gen, x.ty, x.s⟩ : Cel) = ce at *
        clear hce
        have HL5 : Hid ((Instr.loadAt 38 (.pointer (some ⟨gb, 0, Option.none⟩))).run Try.prog X5 = .ok (.agg (grV r1 u1).toArray) X5) := load_gr AG hGI.ok.vlen
        have HLm : Hid ((Instr.loadAt 64 (.pointer (some ⟨xb, 0, Option.none⟩))).run Try.prog X5 = .ok (.agg (msgV m k ce 0).toArray) X5) := load_msgS AX
        go_wp2_with (first | (with_reducible refine wl_load HL5.out rfl rfl ?_) | (with_reducible refine wl_load HLm.out rfl rfl ?_))
        clear HL5 HLm
        refine (deliver_any r1 u1 m k ce 0 X5 hGI.ok hk8).mono ?_
        rintro r Z ⟨rfl, b2⟩
        have hG2 := hGI.deliver m k hm3 hk8 ce
        replace AA := AA.later b2 AA.lt
        replace AG := AG.later b2 AG.lt
        replace AM := AM.later b2 AM.lt
        replace AW := AW.later b2 AW.lt
        replace AX := AX.later b2 AX.lt
        replace bw := bw.trans (b2.mono bw.size)
        clear b2
        obtain ⟨Z1, hst, AN, b3⟩ := newG hG2.ok Z
        have HS : Hid ((Instr.storeAt 38 (.pointer (some ⟨Z.heap.size, 0, Option.none⟩)) (.agg (grV (delG r1 u1 m k ce) u1).toArray)).run Try.prog (Z.alloc (.cells z78.toArray 38)) = .ok () Z1) := hst
        have hz9 := AX.lt
        replace AA := AA.later b3 AA.lt
        replace AG := AG.later b3 AG.lt
        replace AM := AM.later b3 AM.lt
        replace AX := AX.later b3 AX.lt
        replace AW := AW.later b3 AW.lt
        replace bw := bw.trans (b3.mono bw.size)
        clear hst b3
        have HLm : Hid ((Instr.loadAt 64 (.pointer (some ⟨xb, 0, Option.none⟩))).run Try.prog Z1 = .ok (.agg (msgV m k ce 0).toArray) Z1) := load_msgS AX
        go_wp2_with (first | (with_reducible refine wl_store HS.out rfl rfl ?_) | (with_reducible refine wl_load HLm.out rfl rfl ?_))
        clear HS HLm
        refine (rgdeliver_any r1 u1 m k ce 0 mb 53 Z1 hGI.ok hm3 hk8 AM).mono ?_
        rintro r Z2 ⟨rfl, AM2, hO⟩
        replace AA := hO.at AA (by omega)
        replace AG := hO.at AG (by omega)
        replace AW := hO.at AW (by omega)
        replace AN := hO.at AN (by omega)
        replace bw := hO.below bw (by omega) (by have := bw.size; omega)
        clear hO AM AX
        have AM := AM2
        clear AM2
        generalize delG r1 u1 m k ce = g2 at *
        generalize delB r1 u1 m ce = rb at *
        have HLn : Hid ((Instr.loadAt 38 (.pointer (some ⟨Z.heap.size, 0, Option.none⟩))).run Try.prog Z2 = .ok (.agg (grV g2 u1).toArray) Z2) := load_gr AN hG2.ok.vlen
        obtain ⟨Z3, hst2, AG2, hne, hbl⟩ := putG hGI.ok hG2.ok AG
        have HS2 : Hid ((Instr.storeAt 38 (.pointer (some ⟨gb, 0, Option.none⟩)) (.agg (grV g2 u1).toArray)).run Try.prog Z2 = .ok () Z3) := hst2
        replace AA := hne _ _ _ (by omega) AA
        replace AM := hne _ _ _ (by omega) AM
        replace AW := hne _ _ _ (by omega) AW
        replace bw := hbl _ _ (by omega) bw
        clear hst2 hne hbl AG AN
        have AG := AG2
        clear AG2
        have hGx := hG2
        have HLt : Hid ((Instr.loadAt 38 (.pointer (some ⟨gb, 0, Option.none⟩))).run Try.prog Z3 = .ok (.agg (grV g2 u1).toArray) Z3) := load_gr AG hGx.ok.vlen
        go_wp2_with (first | (with_reducible refine wl_load HLn.out rfl rfl ?_) | (with_reducible refine wl_store HS2.out rfl rfl ?_) | (with_reducible refine wl_load HLt.out rfl rfl ?_))
        clear HLt
        refine (asGroup_any g2 u1 mb 53 Z3 hGx.ok AM).mono ?_
        rintro r V1 ⟨rfl, b9⟩
        replace AA := AA.later b9 AA.lt
        replace AG := AG.later b9 AG.lt
        replace AM := AM.later b9 AM.lt
        replace AW := AW.later b9 AW.lt
        replace bw := bw.trans (b9.mono bw.size)
        clear b9
        have d0 : V1.cell? ⟨ab, 0, Option.none⟩ = some (.string x.kind) := AA.cell 0
        have HLw : Hid ((Instr.loadAt 36 (.pointer (some ⟨wb, 75, Option.none⟩))).run Try.prog V1 = .ok (.agg (u1.map Value.bool).toArray) V1) := load_ups AW hGI.ok
        have HLx : Hid ((Instr.loadAt 36 (.pointer (some ⟨gb, 75, Option.none⟩))).run Try.prog V1 = .ok (.agg (u1.map Value.bool).toArray) V1) := load_ups AG hGx.ok
        have HQ : Hid ((Op.equalIn 10000 36 (.agg (u1.map Value.bool).toArray) (.agg (u1.map Value.bool).toArray)).run Try.prog V1 = .ok true V1) := run_eq_ups u1 hGI.ok.upl V1
        go_wp2_with (first | (with_reducible refine wl_load HLw.out rfl rfl ?_) | (with_reducible refine wl_load HLx.out rfl rfl ?_) | (with_reducible refine wl_neq HQ.out eqg36 rfl rfl rfl ?_))
        clear HLw HLx HQ
        clear d0 AA AW
        go_loopw [21] (fun ev w2 => ∃ q : Nat, q ≤ 4 ∧ ev = .int .i64 q ∧ At w2 gb (grV g2 u1) 38 ∧ At w2 mb (grV g2 u1) 53 ∧ Below w.heap.size w w2) (fun ev _ => 4 - (intOf ev).toNat)
        case atStart => exact ⟨0, by omega, rfl, AG, AM, bw⟩
        case round =>
          clear AG AM bw
          obtain ⟨q, hq, rfl, AG, AM, bw⟩ := hrel
          by_cases hq4 : q < 4
          · have hqi : (q : Int) < 4 := by omega
            have HLq : Hid ((Instr.loadAt 38 (.pointer (some ⟨gb, 0, Option.none⟩))).run Try.prog wr = .ok (.agg (grV g2 u1).toArray) wr) := load_gr AG hGx.ok.vlen
            go_wp2_with (with_reducible refine wl_load HLq.out rfl rfl ?_)
            clear HLq
            refine (members_any g2 u1 q wr hGx.ok).mono ?_
            rintro r V2 ⟨a3, n3, c3, rfl, ho3, b9⟩
            replace AG := AG.later b9 AG.lt
            replace AM := AM.later b9 AM.lt
            replace bw := bw.trans (b9.mono bw.size)
            clear b9
            go_wp2_with fail
            refine (rmembers_any g2 u1 q mb 53 V2 hGx.ok AM).mono ?_
            rintro r V3 ⟨a4, n4, c4, rfl, ho4, b9⟩
            replace AG := AG.later b9 AG.lt
            replace AM := AM.later b9 AM.lt
            replace bw := bw.trans (b9.mono bw.size)
            replace ho3 := ho3.later b9 (Nat.le_refl _)
            clear b9
            obtain ⟨_, _, _, he3, hn3⟩ := ho3.form
            simp only [Value.slice.injEq] at he3
            obtain ⟨rfl, rfl, rfl⟩ := he3
            obtain ⟨_, _, _, he4, hn4⟩ := ho4.form
            simp only [Value.slice.injEq] at he4
            obtain ⟨rfl, rfl, rfl⟩ := he4
            go_wp2_with fail
            refine (M.sameNums_any _ _ _ _ _ _ (memL g2 u1 q 3) V3 hn3 hn4).mono ?_
            rintro r V4 ⟨rfl, b9⟩
            replace AG := AG.later b9 AG.lt
            replace AM := AM.later b9 AM.lt
            replace bw := bw.trans (b9.mono bw.size)
            clear b9 hn3 hn4 ho3 ho4
            go_wp2_with fail
            exact ⟨⟨q + 1, by omega, by go_num, AG, AM, bw⟩, by simp [intOf]; omega⟩
          · obtain rfl : q = 4 := by omega
            go_wp2_with fail
            exact ⟨⟨i + 1, g2, u1, by omega, by go_num, hGx, AG, AM, bw⟩, by simp [intOf]; omega⟩
    · obtain rfl : i = l.length := by omega
      go_wp2_with fail
      go_ret
      exact ⟨rfl, bw⟩

set_option maxRecDepth 100000 in
theorem groupSays_lifted (os : Os) (started : os.Started) (H : Type) (enc : TypeId × Value → H) :
    ReturnsInHanded {} Try.checked os 4 .any (Rows.groupSaysSpec.pre6 enc Try.prog Try.f4 Rows.groupSaysRow.domain false) (Rows.groupSaysSpec.post enc Try.prog Try.f4 false true false false) := by
  refine returnsInHanded_of_change (C := Try.checked) own started (by kernel_rfl) Try.func4
    (ChangeSpec.witness6 (enc := enc) (C := Try.checked) false ⟨#[], #[.slice Option.none 0 0], []⟩ 8 (by kernel_rfl) (by kernel_rfl) (by kernel_rfl) (by kernel_rfl)) ?_
  intro W base args ds gs before hval0 hW hcnd _
  have hval : ∀ (j : Nat) t v, Try.f4.params[j]? = some t → args[j]? = some v → Value.okWide Try.prog W .any base t v := hval0
  have hW' := hW
  obtain ⟨p, q, hA0, hV, rfl, hfz, hnd⟩ := hW
  have hA : DataW.TrodAll enc Try.prog W 0 (fun _ => true) true Try.f4.params.toList args.toList ds p := hA0
  rw [Try.params4] at hA hval
  obtain ⟨v0, d0, rfl, rfl, h0⟩ := trodAll_one hA
  obtain ⟨rfl, rfl⟩ := trodVars_none hV
  have k0 := h0
  have lt0 : ∀ x ∈ p, x.block < W.heap.size := by obtain ⟨m, hm⟩ := k0; exact DataW.trod_lt m _ _ _ hm
  obtain ⟨a0, n0, c0, l0, rfl, row0⟩ := open_acts (hval 0 32 v0 rfl rfl) h0
  clear hA0 hval0
  refine (groupSays_walk a0 n0 c0 l0 W row0).mono fun e W' ⟨he, bel⟩ => ?_
  subst he
  exact ⟨_, rfl, _, _, _, [], _, [], hW', trodAll_mk1 (shut_bool Try.underlying4 _), (trodAll_cons_mk (Below.trod laidOut (by kernel_rfl) (of_decide_eq_true (by kernel_rfl)) k0 bel lt0) trodAll_mk0), rfl, bel.frame _, fun h => by cases h⟩

theorem groupSays_holds : Rows.GroupSaysSaid :=
  OpenClaim.holds_of_wide 4 Try.f4 rfl rfl rfl rfl rfl rfl rfl ⟨rfl, rfl, rfl, rfl, rfl⟩ rfl rfl rfl rfl rfl (by kernel_rfl) Try.func4 (by kernel_rfl)
    (of_decide_eq_true (by kernel_rfl)) (by unfold Func.isWrapper; first | (rw [if_pos (by decide +kernel)]; kernel_rfl) | (rw [if_neg (by decide +kernel)]; exact ⟨rfl, rfl⟩))
    (fun os started H enc _ => groupSays_lifted os started H enc)
#print axioms groupSays_holds
end Go.Proofs.Yteebhmhjbgehjaa
