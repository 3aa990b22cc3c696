/- Proved: for all acts, blocks and data the law TopMost returns true and leaves its arguments as they were; no condition beyond the row's own. -/
import Derived.Test.YteebhmhjbgehjaaGInv
import Derived.Test.YteebhmhjbgehjaaGNewC
import Derived.ChangeMaps5
namespace Go.Proofs.Yteebhmhjbgehjaa
open Go.ChangeShapes Go.WideShapes Go.ChangeAt Go.RowKit Go.Deep

theorem delG_other {rs : List Rep} {up : List Bool} (h : GOK rs up) {m k : Nat} (hm : m < 3) (c : Cel) {j : Nat} (hj : j ≠ m) : pickR (delG rs up m k c) j = pickR rs j := by
  have hml : m < rs.length := by rw [h.len]; exact hm
  unfold delG
  split
  · rw [show ((m : Int)).toNat = m from rfl, pickR_set hml, if_neg (Ne.symm hj)]
  · rfl
theorem del_hit {rs : List Rep} {up : List Bool} (h : GOK rs up) {m k : Nat} (hm : m < 3) (hk : k < 8) (c : Cel) (hb : delB rs up m c = true) (hn : newerB c (ck k (pickR rs m)) = true) : ck k (pickR (delG rs up m k c) m) = c := by
  have hml : m < rs.length := by rw [h.len]; exact hm
  have hl : k < (pickR rs m).l.length := by rw [(pick_ok h m hm).len]; exact hk
  unfold delB at hb
  rw [Bool.and_eq_true, beq_iff_eq] at hb
  unfold delG
  rw [if_pos hb.1, show ((m : Int)).toNat = m from rfl, pickR_set hml, if_pos rfl]
  show (admL (pickR rs m).f (pickR rs m).l k c).getD k zc = c
  rw [admL_is hl, getD_set_same hl]
  unfold adm1
  rw [if_pos hb.2, if_pos]
  rw [← hn]; unfold ck; simp [hl]
/-- What most are to have, one behind the other. -/
structure P1 (rs r1 : List Rep) (k : Nat) (C : Cel) (i nn : Nat) : Prop where
  rest : ∀ j : Nat, i ≤ j → j < 3 → pickR r1 j = pickR rs j
  fl : ∀ j : Nat, j < 3 → (pickR r1 j).f = (pickR rs j).f ∧ (ck k (pickR r1 j) = C ∨ newerB C (ck k (pickR r1 j)) = true)
  some1 : 1 ≤ nn → ∃ a, a < i ∧ ck k (pickR r1 a) = C
  some2 : 2 ≤ nn → ∃ a b, a < b ∧ b < i ∧ ck k (pickR r1 a) = C ∧ ck k (pickR r1 b) = C
theorem P1.skip {rs r1 : List Rep} {k : Nat} {C : Cel} {i nn : Nat} (h : P1 rs r1 k C i nn) : P1 rs r1 k C (i + 1) nn :=
  ⟨fun j hj h3 => h.rest j (by omega) h3, h.fl, fun hn => by obtain ⟨a, ha, h1⟩ := h.some1 hn; exact ⟨a, by omega, h1⟩, fun hn => by obtain ⟨a, b, hab, hb, h1⟩ := h.some2 hn; exact ⟨a, b, hab, by omega, h1⟩⟩
theorem P1.hit {rs r1 : List Rep} {up : List Bool} {k : Nat} {C : Cel} {i nn : Nat} (hG : GOK r1 up) (h : P1 rs r1 k C i nn) (hi : i < 3) (hk : k < 8) (hnn : nn < 2) (hb : delB r1 up i C = true) (hn : newerB C (ck k (pickR rs i)) = true) : P1 rs (delG r1 up i k C) k C (i + 1) (nn + 1) := by
  have hc : ck k (pickR (delG r1 up i k C) i) = C := del_hit hG hi hk C hb (by rw [h.rest i (Nat.le_refl _) hi]; exact hn)
  refine ⟨fun j hj h3 => ?_, fun j hj => ?_, fun _ => ⟨i, by omega, hc⟩, fun h2 => ?_⟩
  · rw [delG_other hG hi C (by omega)]; exact h.rest j (by omega) h3
  · by_cases hji : j = i
    · subst hji
      exact ⟨by rw [(delG_get hG j k hj C j hk hj).1]; exact (h.fl j hj).1, .inl hc⟩
    · rw [delG_other hG hi C hji]; exact h.fl j hj
  · obtain ⟨a, ha, h1⟩ := h.some1 (by omega)
    exact ⟨a, i, ha, by omega, by rw [delG_other hG hi C (by omega)]; exact h1, hc⟩
theorem P1.done {rs r1 : List Rep} {e : Int} {k : Nat} {C : Cel} {nn : Nat} (h : P1 rs r1 k C 3 nn) (hn : 2 ≤ nn) (hf : ∀ i : Nat, i < 3 → (pickR rs i).f ≤ e) : MJ r1 e k C := by
  refine ⟨fun i hi => by rw [(h.fl i hi).1]; exact hf i hi, fun i hi _ => (h.fl i hi).2, fun i j hij hj _ _ => ?_⟩
  obtain ⟨a, b, hab, hb, h1, h2⟩ := h.some2 hn
  have hcase : i = a ∨ i = b ∨ j = a ∨ j = b := by omega
  rcases hcase with rfl | rfl | rfl | rfl
  · exact .inl h1
  · exact .inl h2
  · exact .inr h1
  · exact .inr h2
theorem LK.newer {s : LS} (h : LK s) {k : Nat} (hk : k < 8) (hn : s.n ≤ 40) (d : ByteArray) (i : Nat) (hi : i < 3) : newerB ⟨s.e, 1000, d⟩ (ck k (pickR s.rs i)) = true := by
  have := h.ce k _ hk (.inr ⟨i, hi, rfl⟩)
  unfold newerB
  simp only [bne_iff_ne, ne_eq, ite_not]
  split
  · rw [decide_eq_true_eq]; show (ck k (pickR s.rs i)).n < 1000; omega
  · rename_i hne
    have hne' : ¬ s.e = (ck k (pickR s.rs i)).e := hne
    rw [decide_eq_true_eq]; show (ck k (pickR s.rs i)).e < s.e; omega
set_option maxRecDepth 100000 in
set_option maxHeartbeats 8000000 in
theorem topMost_walk (a : Option Addr) (n c : Nat) (l : List ActD) (a2 : Option Addr) (n2 c2 : Nat) (l2 : List ActD) (at' : Int) (data : ByteArray) (w : World) (h : Acts w a n l) (h2 : Acts w a2 n2 l2) (hds : data.size ≤ maxLen) :
    Calls Try.prog 6 #[.slice a n c, .slice a2 n2 c2, .int .i64 at', .string data] w fun r w' => r = .returned (.bool true) ∧ Below w.heap.size w w' := by
  obtain rfl := h.len
  obtain rfl := h2.len
  have hds' : data.size ≤ 9223372036854775807 := by unfold maxLen at hds; omega
  have hz := zero78
  have HA : Hid (Acts w a l.length l) := h
  have HA2 : Hid (Acts w a2 l2.length l2) := h2
  clear h h2 hds
  go_enter Try.func6, Try.ntmps6
  go_wp2_with fail
  refine (grouped_any w).mono ?_
  rintro r W1 ⟨rfl, bw⟩
  replace HA : Hid (Acts W1 a l.length l) := HA.out.later bw
  go_wp2_with fail
  refine (lightActs_any a l.length c l 40 W1 HA.out).mono ?_
  rintro r W2 ⟨rfl, b1⟩
  replace HA : Hid (Acts W2 a l.length l) := HA.out.later b1
  replace bw := bw.trans (b1.mono bw.size)
  clear b1
  cases hl : lightA l 40 with
  | false =>
    go_wp2_with fail
    go_ret
    exact ⟨rfl, bw⟩
  | true =>
    have hn : l.length ≤ 40 := by simp [lightA] at hl; omega
    clear hl
    go_wp2_with fail
    refine (lightActs_any a2 l2.length c2 l2 40 W2 (HA2.out.later bw)).mono ?_
    rintro r W3 ⟨rfl, b1⟩
    replace HA : Hid (Acts W3 a l.length l) := HA.out.later b1
    replace bw := bw.trans (b1.mono bw.size)
    clear b1
    cases hl : lightA l2 40 with
    | false =>
      go_wp2_with fail
      go_ret
      exact ⟨rfl, bw⟩
    | true =>
      have hn2 : l2.length ≤ 40 := by simp [lightA] at hl; omega
      clear hl
      by_cases hin : 0 ≤ at' ∧ at' ≤ 7 ∧ data.size ≤ 20
      case neg =>
        have hbd : at' < 0 ∨ (¬ at' < 0 ∧ 7 < at') ∨ (¬ at' < 0 ∧ ¬ 7 < at' ∧ (20 : Int) < (data.size : Int)) := by omega
        clear hin
        rcases hbd with h1 | ⟨h1, h2⟩ | ⟨h1, h2, h3⟩
        all_goals
          go_wp2_with fail
          go_ret
          exact ⟨rfl, bw⟩
      obtain ⟨k, hka⟩ : ∃ k : Nat, at' = k := ⟨at'.toNat, by omega⟩
      subst hka
      have hk8 : k < 8 := by omega
      have g3 : ¬ ((k : Int) < 0) := by omega
      have g4 : ¬ ((7 : Int) < (k : Int)) := by omega
      have g5 : ¬ ((20 : Int) < (data.size : Int)) := by omega
      clear hin
      go_wp2_with fail
      refine (led_any a l.length c l W3 HA.out (by omega)).mono ?_
      rintro r W4 ⟨⟨rs, up, e, rfl, hG, hok⟩, b1⟩
      replace bw := bw.trans (b1.mono bw.size)
      clear b1 HA
      obtain ⟨Y, hst, AG, bY⟩ := newG hG W4
      have HS : Hid ((Instr.storeAt 38 (.pointer (some ⟨W4.heap.size, 0, Option.none⟩)) (.agg (grV rs up).toArray)).run Try.prog (W4.alloc (.cells z78.toArray 38)) = .ok () Y) := hst
      have hgw := bw.size
      replace bw := bw.trans (bY.mono bw.size)
      clear hst bY
      cases hb : allB l with
      | false =>
        go_wp2_with (with_reducible refine wl_store HS.out rfl rfl ?_)
        go_ret
        exact ⟨rfl, bw⟩
      | true =>
        have he1 := (hok hb).2.2.2.1
        have he2 := (hok hb).2.2.2.2
        obtain ⟨hLK, hLn⟩ := led_inv l hb
        have HK : Hid (LK (foldL l) ∧ (foldL l).n ≤ l.length ∧ rs = (foldL l).rs ∧ up = (foldL l).up ∧ e = (foldL l).e) := ⟨hLK, hLn, (hok hb).1, (hok hb).2.1, (hok hb).2.2.1⟩
        clear hok hb hLK hLn
        go_wp2_with (with_reducible refine wl_store HS.out rfl rfl ?_)
        clear HS
        have HNW : Hid (∀ i : Nat, i < 3 → newerB ⟨e, 1000, data⟩ (ck k (pickR rs i)) = true) := by
          intro i hi
          have := HK.out.1.newer hk8 (by have := HK.out.2.1; omega) data i hi
          rwa [← HK.out.2.2.1, ← HK.out.2.2.2.2] at this
        have HFL : Hid (∀ i : Nat, i < 3 → (pickR rs i).f ≤ e) := by
          have := HK.out.1.fl
          rwa [← HK.out.2.2.1, ← HK.out.2.2.2.2] at this
        have HZ : Hid (newerB ⟨e, 1000, data⟩ zc = true) := by
          show _ = _; unfold newerB zc; simp; omega
        clear HK
        obtain ⟨gb, hgbe⟩ : ∃ gb, W4.heap.size = gb := ⟨_, rfl⟩
        obtain ⟨cb, hcbe⟩ : ∃ cb, Y.heap.size = cb := ⟨_, rfl⟩
        have AC : At (Y.alloc (.cells #[.int .i64 e, .int .i64 1000, .string data] 23)) Y.heap.size [.int .i64 e, .int .i64 1000, .string data] 23 := heap_alloc_new Y _
        have hal : Below Y.heap.size Y (Y.alloc (.cells #[.int .i64 e, .int .i64 1000, .string data] 23)) := (Below.refl _ _).alloc (Nat.le_refl _) _
        have hgc := AG.lt
        replace AG := AG.later hal AG.lt
        replace bw := bw.trans (hal.mono bw.size)
        clear hal
        generalize Y.alloc (.cells #[.int .i64 e, .int .i64 1000, .string data] 23) = Y1 at *
        rw [hgbe] at AG hgw hgc ⊢
        rw [hcbe] at AC hgc ⊢
        clear hgbe hcbe
        go_loopw [13, 14] (fun nv iv wr => ∃ (i nn : Nat) (r1 : List Rep), i ≤ 3 ∧ nv = .int .i64 nn ∧ iv = .int .i64 i ∧ nn ≤ 2 ∧ GOK r1 up ∧ P1 rs r1 k ⟨e, 1000, data⟩ i nn ∧ At wr gb (grV r1 up) 38 ∧ At wr cb [.int .i64 e, .int .i64 1000, .string data] 23 ∧ Below w.heap.size w wr) (fun _ iv _ => 3 - (intOf iv).toNat)
        case atStart => exact ⟨0, 0, rs, by omega, rfl, rfl, by omega, hG, ⟨fun _ _ _ => rfl, fun j hj => ⟨rfl, .inr (HNW.out j hj)⟩, fun h => by omega, fun h => by omega⟩, AG, AC, bw⟩
        case round =>
          clear AG AC bw
          obtain ⟨i, nn, r1, hi, rfl, rfl, hnn, hG1, hP, AG, AC, bw⟩ := hrel
          have HP : Hid (P1 rs r1 k ⟨e, 1000, data⟩ i nn) := hP
          clear hP
          by_cases hlt : i < 3
          · have hii : (i : Int) < 3 := by omega
            have HL : Hid ((Instr.loadAt 38 (.pointer (some ⟨gb, 0, Option.none⟩))).run Try.prog wr = .ok (.agg (grV r1 up).toArray) wr) := load_gr AG hG1.vlen
            have c0 : wr.cell? ⟨cb, 0, Option.none⟩ = some (.int .i64 e) := AC.cell 0
            have c1 : wr.cell? ⟨cb, 1, Option.none⟩ = some (.int .i64 1000) := AC.cell 1
            have c2 : wr.cell? ⟨cb, 2, Option.none⟩ = some (.string data) := AC.cell 2
            go_wp2_with (with_reducible refine wl_load HL.out rfl rfl ?_)
            refine (deliver_any r1 up i k ⟨e, 1000, data⟩ 0 wr hG1 hk8).mono ?_
            rintro r Z ⟨rfl, b2⟩
            have hG2 := delG_ok hG1 i k ⟨e, 1000, data⟩
            have HH : Hid (nn < 2 → delB r1 up i ⟨e, 1000, data⟩ = true → P1 rs (delG r1 up i k ⟨e, 1000, data⟩) k ⟨e, 1000, data⟩ (i + 1) (nn + 1)) := fun h1 h2 => HP.out.hit hG1 hlt hk8 h1 h2 (HNW.out i hlt)
            have HSK : Hid (P1 rs r1 k ⟨e, 1000, data⟩ (i + 1) nn) := HP.out.skip
            generalize delG r1 up i k ⟨e, 1000, data⟩ = g2 at *
            generalize delB r1 up i ⟨e, 1000, data⟩ = db at *
            replace AG := AG.later b2 AG.lt
            replace AC := AC.later b2 AC.lt
            replace bw := bw.trans (b2.mono bw.size)
            clear HL b2 c0 c1 c2 HP
            obtain ⟨Z1, hst, AN, b3⟩ := newG hG2 Z
            have HS : Hid ((Instr.storeAt 38 (.pointer (some ⟨Z.heap.size, 0, Option.none⟩)) (.agg (grV g2 up).toArray)).run Try.prog (Z.alloc (.cells z78.toArray 38)) = .ok () Z1) := hst
            replace AG := AG.later b3 AG.lt
            replace AC := AC.later b3 AC.lt
            replace bw := bw.trans (b3.mono bw.size)
            clear hst b3
            cases db with
            | false =>
              go_wp2_with (with_reducible refine wl_store HS.out rfl rfl ?_)
              exact ⟨⟨i + 1, nn, r1, by omega, rfl, by go_num, hnn, hG1, HSK.out, AG, AC, bw⟩, by simp [intOf]; omega⟩
            | true =>
              by_cases hn3 : nn < 2
              · have hn4 : (nn : Int) < 2 := by omega
                have HH2 : Hid (P1 rs g2 k ⟨e, 1000, data⟩ (i + 1) (nn + 1)) := HH.out hn3 rfl
                have HLn : Hid ((Instr.loadAt 38 (.pointer (some ⟨Z.heap.size, 0, Option.none⟩))).run Try.prog Z1 = .ok (.agg (grV g2 up).toArray) Z1) := load_gr AN hG2.vlen
                obtain ⟨Z2, hst2, AG2, hne, hbl⟩ := putG hG1 hG2 AG
                have HS2 : Hid ((Instr.storeAt 38 (.pointer (some ⟨gb, 0, Option.none⟩)) (.agg (grV g2 up).toArray)).run Try.prog Z1 = .ok () Z2) := hst2
                replace AC := hne _ _ _ (by omega) AC
                replace bw := hbl _ _ (by omega) bw
                clear AN hst2 hne hbl AG
                go_wp2_with (first | (with_reducible refine wl_store HS.out rfl rfl ?_) | (with_reducible refine wl_load HLn.out rfl rfl ?_) | (with_reducible refine wl_store HS2.out rfl rfl ?_))
                exact ⟨⟨i + 1, nn + 1, g2, by omega, by go_num, by go_num, by omega, hG2, HH2.out, AG2, AC, bw⟩, by simp [intOf]; omega⟩
              · have hn4 : ¬ ((nn : Int) < 2) := by omega
                go_wp2_with (with_reducible refine wl_store HS.out rfl rfl ?_)
                exact ⟨⟨i + 1, nn, r1, by omega, rfl, by go_num, hnn, hG1, HSK.out, AG, AC, bw⟩, by simp [intOf]; omega⟩
          · obtain rfl : i = 3 := by omega
            by_cases hn3 : nn < 2
            · have hn4 : (nn : Int) < 2 := by omega
              go_wp2_with fail
              go_ret
              exact ⟨rfl, bw⟩
            have hn4 : ¬ ((nn : Int) < 2) := by omega
            have hMJ : MJ r1 e k ⟨e, 1000, data⟩ := HP.out.done (by omega) HFL.out
            clear HP
            go_wp2_with fail
            go_loopw [11, 17] (fun ev iv wr => ∃ (i : Nat) (r2 : List Rep) (u2 : List Bool) (e2 : Int), i ≤ l2.length ∧ ev = .int .i64 e2 ∧ iv = .int .i64 i ∧ GOK r2 u2 ∧ MJ r2 e2 k ⟨e, 1000, data⟩ ∧ 1 ≤ e2 ∧ e2 ≤ 41 + i ∧ At wr gb (grV r2 u2) 38 ∧ At wr cb [.int .i64 e, .int .i64 1000, .string data] 23 ∧ Below w.heap.size w wr) (fun _ iv _ => l2.length - (intOf iv).toNat)
            case atStart => exact ⟨0, r1, up, e, Nat.zero_le _, rfl, rfl, hG1, hMJ, he1, by omega, AG, AC, bw⟩
            case round =>
              clear AG AC bw hMJ
              obtain ⟨i, r2, u2, e2, hi, rfl, rfl, hG2, hMJ, he3, he4, AG, AC, bw⟩ := hrel
              by_cases hlt : i < l2.length
              · have hki : (i : Int) < (l2.length : Int) := by omega
                obtain ⟨b, off, rfl, hrow⟩ := HA2.out.row (by omega)
                have hrk := rangeAt_later (hrow i hlt) bw
                generalize l2[i] = x at *
                clear hrow
                have HLa : Hid ((Instr.loadAt 49 (.pointer (some ⟨b, off + i * 19, Option.none⟩))).run Try.prog wr = .ok (.agg x.vs.toArray) wr) := load_act hrk
                obtain ⟨Y2, hst, AA, bY⟩ := newA x wr
                have HS : Hid ((Instr.storeAt 49 (.pointer (some ⟨wr.heap.size, 0, Option.none⟩)) (.agg x.vs.toArray)).run Try.prog (wr.alloc (.cells z19.toArray 49)) = .ok () Y2) := hst
                have hz19 := zero19
                have c0 : Y2.cell? ⟨wr.heap.size, 0, Option.none⟩ = some (.string x.kind) := AA.cell 0
                have c1 : Y2.cell? ⟨wr.heap.size, 1, Option.none⟩ = some (.int .i64 x.a) := AA.cell 1
                replace AG := AG.later bY AG.lt
                replace AC := AC.later bY AC.lt
                replace bw := bw.trans (bY.mono bw.size)
                clear bY hst hrk AA
                go_upto_region 24 with (first | (with_reducible refine wl_load HLa.out rfl rfl ?_) | (with_reducible refine wl_store HS.out rfl rfl ?_))
                clear HLa HS
                by_cases hob : 0 ≤ x.a ∧ x.a < 3
                case neg =>
                  have hbd : x.a < 0 ∨ (¬ x.a < 0 ∧ 3 ≤ x.a) := by omega
                  clear hob
                  rcases hbd with h1 | ⟨h1, h2⟩
                  all_goals
                    go_wp2_with fail
                    go_ret
                    exact ⟨rfl, bw⟩
                obtain ⟨m, hxa, hm3⟩ : ∃ m : Nat, x.a = m ∧ m < 3 := ⟨x.a.toNat, by omega, by omega⟩
                rw [hxa] at c1
                clear hob hxa
                have hm3' : (m : Int) < 3 := by omega
                have hm0 : ¬ ((m : Int) < 0) := by omega
                have hm33 : ¬ ((3 : Int) ≤ (m : Int)) := by omega
                have hmu : m < u2.length := by rw [hG2.upl]; exact hm3
                cases h1 : (x.kind.toList == [117, 112]) with
                | true =>
                  have cu := (AG.cell (75 + m)).trans (hG2.upc m hmu)
                  have zu : Y2.frozen? ⟨gb, 75 + m, Option.none⟩ = false := (AG.there (75 + m) 1 (by rw [hG2.vlen]; omega) 0 (by decide)).2
                  replace AG := AG.setCell_same (75 + m) (.bool true)
                  rw [grV_up hG2] at AG
                  replace AC := AC.setCell_ne ⟨gb, 75 + m, Option.none⟩ (by simp; omega) (.bool true)
                  replace bw := bw.setCell (p := ⟨gb, 75 + m, Option.none⟩) (by simp; omega) (.bool true)
                  have hGx := hG2.up m true
                  have HLr : Hid ((Instr.loadAt 38 (.pointer (some ⟨gb, 0, Option.none⟩))).run Try.prog (Y2.setCell ⟨gb, 75 + m, Option.none⟩ (.bool true)) = .ok (.agg (grV r2 (u2.set m true)).toArray) (Y2.setCell ⟨gb, 75 + m, Option.none⟩ (.bool true))) := load_gr AG hGx.vlen
                  go_wp2_with (first  | (with_reducible refine wl_load HLr.out rfl rfl ?_))
                  refine (gread_any r2 (u2.set m true) e2 k (Y2.setCell ⟨gb, 75 + m, Option.none⟩ (.bool true)) hGx hk8).mono ?_
                  rintro r V ⟨rfl, b9⟩
                  replace AG := AG.later b9 AG.lt
                  replace AC := AC.later b9 AC.lt
                  replace bw := bw.trans (b9.mono bw.size)
                  clear HLr b9
                  have hGr := readG_ok hGx e2 k
                  have HRC : Hid (readB r2 (u2.set m true) e2 = true → readC r2 (u2.set m true) e2 k = ⟨e, 1000, data⟩) := fun hrb => by
                    rw [readC_is r2 (u2.set m true) e2 k hk8 hrb]; exact MJ.best hMJ HZ.out (u2.set m true) (by simpa [readB] using hrb)
                  generalize readG r2 (u2.set m true) e2 k = gr at *
                  generalize readC r2 (u2.set m true) e2 k = rc at *
                  obtain ⟨V2, V3, hs1, hs2, AR, bV, _⟩ := newGC hGr rc V
                  have HS8 : Hid ((Instr.storeAt 38 (.pointer (some ⟨V.heap.size, 0, Option.none⟩)) (.agg (grV gr (u2.set m true)).toArray)).run Try.prog ((V.alloc (.cells z78.toArray 38)).alloc (.cells #[.int .i64 0, .int .i64 0, .string ⟨#[]⟩] 23)) = .ok () V2) := hs1
                  have HS9 : Hid ((Instr.storeAt 23 (.pointer (some ⟨V.heap.size + 1, 0, Option.none⟩)) (.agg #[.int .i64 rc.e, .int .i64 rc.n, .string rc.d])).run Try.prog V2 = .ok () V3) := hs2
                  replace AG := AG.later bV AG.lt
                  replace AC := AC.later bV AC.lt
                  replace bw := bw.trans (bV.mono bw.size)
                  clear hs1 hs2 bV
                  cases hrb : readB r2 (u2.set m true) e2 with
                  | false =>
                    go_wp2_with (first | (with_reducible refine wl_store HS8.out rfl rfl ?_) | (with_reducible refine wl_store HS9.out rfl rfl ?_))
                    exact ⟨⟨i + 1, r2, (u2.set m true), e2, by omega, rfl, by go_num, hGx, hMJ, by omega, by omega, AG, AC, bw⟩, by simp [intOf]; omega⟩
                  | true =>
                    obtain rfl := HRC.out hrb
                    clear HRC hrb
                    have HL1 : Hid ((Instr.loadAt 23 (.pointer (some ⟨V.heap.size + 1, 0, Option.none⟩))).run Try.prog V3 = .ok (.agg #[.int .i64 e, .int .i64 1000, .string data]) V3) := load_cel (c := ⟨e, 1000, data⟩) AR.whole
                    have HL2 : Hid ((Instr.loadAt 23 (.pointer (some ⟨cb, 0, Option.none⟩))).run Try.prog V3 = .ok (.agg #[.int .i64 e, .int .i64 1000, .string data]) V3) := load_cel (c := ⟨e, 1000, data⟩) AC.whole
                    have HQ : Hid ((Op.equalIn 10000 23 (.agg #[.int .i64 e, .int .i64 1000, .string data]) (.agg #[.int .i64 e, .int .i64 1000, .string data])).run Try.prog V3 = .ok true V3) := by
                      show _ = _; rw [show (10000 : Nat) = 9998 + 2 from rfl, run_eq_cel 9998 ⟨e, 1000, data⟩ ⟨e, 1000, data⟩ V3, eqCel_refl]
                    clear AR
                    go_wp2_with (first | (with_reducible refine wl_store HS8.out rfl rfl ?_) | (with_reducible refine wl_store HS9.out rfl rfl ?_) | (with_reducible refine wl_load HL1.out rfl rfl ?_) | (with_reducible refine wl_load HL2.out rfl rfl ?_) | (with_reducible refine wl_neq HQ.out eqg23 rfl rfl rfl ?_))
                    exact ⟨⟨i + 1, r2, (u2.set m true), e2, by omega, rfl, by go_num, hGx, hMJ, by omega, by omega, AG, AC, bw⟩, by simp [intOf]; omega⟩
                | false =>
                cases h2 : (x.kind.toList == [100, 111, 119, 110]) with
                | true =>
                  have cu := (AG.cell (75 + m)).trans (hG2.upc m hmu)
                  have zu : Y2.frozen? ⟨gb, 75 + m, Option.none⟩ = false := (AG.there (75 + m) 1 (by rw [hG2.vlen]; omega) 0 (by decide)).2
                  replace AG := AG.setCell_same (75 + m) (.bool false)
                  rw [grV_up hG2] at AG
                  replace AC := AC.setCell_ne ⟨gb, 75 + m, Option.none⟩ (by simp; omega) (.bool false)
                  replace bw := bw.setCell (p := ⟨gb, 75 + m, Option.none⟩) (by simp; omega) (.bool false)
                  have hGx := hG2.up m false
                  have HLr : Hid ((Instr.loadAt 38 (.pointer (some ⟨gb, 0, Option.none⟩))).run Try.prog (Y2.setCell ⟨gb, 75 + m, Option.none⟩ (.bool false)) = .ok (.agg (grV r2 (u2.set m false)).toArray) (Y2.setCell ⟨gb, 75 + m, Option.none⟩ (.bool false))) := load_gr AG hGx.vlen
                  go_wp2_with (first  | (with_reducible refine wl_load HLr.out rfl rfl ?_))
                  refine (gread_any r2 (u2.set m false) e2 k (Y2.setCell ⟨gb, 75 + m, Option.none⟩ (.bool false)) hGx hk8).mono ?_
                  rintro r V ⟨rfl, b9⟩
                  replace AG := AG.later b9 AG.lt
                  replace AC := AC.later b9 AC.lt
                  replace bw := bw.trans (b9.mono bw.size)
                  clear HLr b9
                  have hGr := readG_ok hGx e2 k
                  have HRC : Hid (readB r2 (u2.set m false) e2 = true → readC r2 (u2.set m false) e2 k = ⟨e, 1000, data⟩) := fun hrb => by
                    rw [readC_is r2 (u2.set m false) e2 k hk8 hrb]; exact MJ.best hMJ HZ.out (u2.set m false) (by simpa [readB] using hrb)
                  generalize readG r2 (u2.set m false) e2 k = gr at *
                  generalize readC r2 (u2.set m false) e2 k = rc at *
                  obtain ⟨V2, V3, hs1, hs2, AR, bV, _⟩ := newGC hGr rc V
                  have HS8 : Hid ((Instr.storeAt 38 (.pointer (some ⟨V.heap.size, 0, Option.none⟩)) (.agg (grV gr (u2.set m false)).toArray)).run Try.prog ((V.alloc (.cells z78.toArray 38)).alloc (.cells #[.int .i64 0, .int .i64 0, .string ⟨#[]⟩] 23)) = .ok () V2) := hs1
                  have HS9 : Hid ((Instr.storeAt 23 (.pointer (some ⟨V.heap.size + 1, 0, Option.none⟩)) (.agg #[.int .i64 rc.e, .int .i64 rc.n, .string rc.d])).run Try.prog V2 = .ok () V3) := hs2
                  replace AG := AG.later bV AG.lt
                  replace AC := AC.later bV AC.lt
                  replace bw := bw.trans (bV.mono bw.size)
                  clear hs1 hs2 bV
                  cases hrb : readB r2 (u2.set m false) e2 with
                  | false =>
                    go_wp2_with (first | (with_reducible refine wl_store HS8.out rfl rfl ?_) | (with_reducible refine wl_store HS9.out rfl rfl ?_))
                    exact ⟨⟨i + 1, r2, (u2.set m false), e2, by omega, rfl, by go_num, hGx, hMJ, by omega, by omega, AG, AC, bw⟩, by simp [intOf]; omega⟩
                  | true =>
                    obtain rfl := HRC.out hrb
                    clear HRC hrb
                    have HL1 : Hid ((Instr.loadAt 23 (.pointer (some ⟨V.heap.size + 1, 0, Option.none⟩))).run Try.prog V3 = .ok (.agg #[.int .i64 e, .int .i64 1000, .string data]) V3) := load_cel (c := ⟨e, 1000, data⟩) AR.whole
                    have HL2 : Hid ((Instr.loadAt 23 (.pointer (some ⟨cb, 0, Option.none⟩))).run Try.prog V3 = .ok (.agg #[.int .i64 e, .int .i64 1000, .string data]) V3) := load_cel (c := ⟨e, 1000, data⟩) AC.whole
                    have HQ : Hid ((Op.equalIn 10000 23 (.agg #[.int .i64 e, .int .i64 1000, .string data]) (.agg #[.int .i64 e, .int .i64 1000, .string data])).run Try.prog V3 = .ok true V3) := by
                      show _ = _; rw [show (10000 : Nat) = 9998 + 2 from rfl, run_eq_cel 9998 ⟨e, 1000, data⟩ ⟨e, 1000, data⟩ V3, eqCel_refl]
                    clear AR
                    go_wp2_with (first | (with_reducible refine wl_store HS8.out rfl rfl ?_) | (with_reducible refine wl_store HS9.out rfl rfl ?_) | (with_reducible refine wl_load HL1.out rfl rfl ?_) | (with_reducible refine wl_load HL2.out rfl rfl ?_) | (with_reducible refine wl_neq HQ.out eqg23 rfl rfl rfl ?_))
                    exact ⟨⟨i + 1, r2, (u2.set m false), e2, by omega, rfl, by go_num, hGx, hMJ, by omega, by omega, AG, AC, bw⟩, by simp [intOf]; omega⟩
                | false =>
                have HL : Hid ((Instr.loadAt 38 (.pointer (some ⟨gb, 0, Option.none⟩))).run Try.prog Y2 = .ok (.agg (grV r2 u2).toArray) Y2) := load_gr AG hG2.vlen
                cases h3 : (x.kind.toList == [102, 101, 110, 99, 101]) with
                | true =>
                  go_wp2_with (with_reducible refine wl_load HL.out rfl rfl ?_)
                  refine (gfence_any r2 u2 (e2 + 1) Y2 hG2 (by omega) (by omega)).mono ?_
                  rintro r Z ⟨rfl, b2⟩
                  rw [show decide (2 ≤ (memL (fenG r2 u2 (e2 + 1)) u2 (e2 + 1) 3).length) = readB (fenG r2 u2 (e2 + 1)) u2 (e2 + 1) from rfl]
                  have hG3 := fenG_ok hG2 (e2 + 1)
                  have hMJ3 := MJ.fence (up := u2) hG2 hMJ
                  generalize fenG r2 u2 (e2 + 1) = g2 at *
                  replace AG := AG.later b2 AG.lt
                  replace AC := AC.later b2 AC.lt
                  replace bw := bw.trans (b2.mono bw.size)
                  clear HL b2 c0 c1
                  obtain ⟨Z1, hst, AN, b3⟩ := newG hG3 Z
                  have HS : Hid ((Instr.storeAt 38 (.pointer (some ⟨Z.heap.size, 0, Option.none⟩)) (.agg (grV g2 u2).toArray)).run Try.prog (Z.alloc (.cells z78.toArray 38)) = .ok () Z1) := hst
                  replace AG := AG.later b3 AG.lt
                  replace AC := AC.later b3 AC.lt
                  replace bw := bw.trans (b3.mono bw.size)
                  clear hst b3
                  cases hrb : readB g2 u2 (e2 + 1) with
                  | false =>
                    clear hrb AN
                    have hGx := hG2
                    have HLr : Hid ((Instr.loadAt 38 (.pointer (some ⟨gb, 0, Option.none⟩))).run Try.prog Z1 = .ok (.agg (grV r2 u2).toArray) Z1) := load_gr AG hGx.vlen
                    go_wp2_with (first | (with_reducible refine wl_store HS.out rfl rfl ?_) | (with_reducible refine wl_load HLr.out rfl rfl ?_))
                    refine (gread_any r2 u2 e2 k Z1 hGx hk8).mono ?_
                    rintro r V ⟨rfl, b9⟩
                    replace AG := AG.later b9 AG.lt
                    replace AC := AC.later b9 AC.lt
                    replace bw := bw.trans (b9.mono bw.size)
                    clear HLr b9
                    have hGr := readG_ok hGx e2 k
                    have HRC : Hid (readB r2 u2 e2 = true → readC r2 u2 e2 k = ⟨e, 1000, data⟩) := fun hrb => by
                      rw [readC_is r2 u2 e2 k hk8 hrb]; exact MJ.best hMJ HZ.out u2 (by simpa [readB] using hrb)
                    generalize readG r2 u2 e2 k = gr at *
                    generalize readC r2 u2 e2 k = rc at *
                    obtain ⟨V2, V3, hs1, hs2, AR, bV, _⟩ := newGC hGr rc V
                    have HS8 : Hid ((Instr.storeAt 38 (.pointer (some ⟨V.heap.size, 0, Option.none⟩)) (.agg (grV gr u2).toArray)).run Try.prog ((V.alloc (.cells z78.toArray 38)).alloc (.cells #[.int .i64 0, .int .i64 0, .string ⟨#[]⟩] 23)) = .ok () V2) := hs1
                    have HS9 : Hid ((Instr.storeAt 23 (.pointer (some ⟨V.heap.size + 1, 0, Option.none⟩)) (.agg #[.int .i64 rc.e, .int .i64 rc.n, .string rc.d])).run Try.prog V2 = .ok () V3) := hs2
                    replace AG := AG.later bV AG.lt
                    replace AC := AC.later bV AC.lt
                    replace bw := bw.trans (bV.mono bw.size)
                    clear hs1 hs2 bV
                    cases hrb : readB r2 u2 e2 with
                    | false =>
                      go_wp2_with (first | (with_reducible refine wl_store HS8.out rfl rfl ?_) | (with_reducible refine wl_store HS9.out rfl rfl ?_))
                      exact ⟨⟨i + 1, r2, u2, e2, by omega, rfl, by go_num, hGx, hMJ, by omega, by omega, AG, AC, bw⟩, by simp [intOf]; omega⟩
                    | true =>
                      obtain rfl := HRC.out hrb
                      clear HRC hrb
                      have HL1 : Hid ((Instr.loadAt 23 (.pointer (some ⟨V.heap.size + 1, 0, Option.none⟩))).run Try.prog V3 = .ok (.agg #[.int .i64 e, .int .i64 1000, .string data]) V3) := load_cel (c := ⟨e, 1000, data⟩) AR.whole
                      have HL2 : Hid ((Instr.loadAt 23 (.pointer (some ⟨cb, 0, Option.none⟩))).run Try.prog V3 = .ok (.agg #[.int .i64 e, .int .i64 1000, .string data]) V3) := load_cel (c := ⟨e, 1000, data⟩) AC.whole
                      have HQ : Hid ((Op.equalIn 10000 23 (.agg #[.int .i64 e, .int .i64 1000, .string data]) (.agg #[.int .i64 e, .int .i64 1000, .string data])).run Try.prog V3 = .ok true V3) := by
                        show _ = _; rw [show (10000 : Nat) = 9998 + 2 from rfl, run_eq_cel 9998 ⟨e, 1000, data⟩ ⟨e, 1000, data⟩ V3, eqCel_refl]
                      clear AR
                      go_wp2_with (first | (with_reducible refine wl_store HS8.out rfl rfl ?_) | (with_reducible refine wl_store HS9.out rfl rfl ?_) | (with_reducible refine wl_load HL1.out rfl rfl ?_) | (with_reducible refine wl_load HL2.out rfl rfl ?_) | (with_reducible refine wl_neq HQ.out eqg23 rfl rfl rfl ?_))
                      exact ⟨⟨i + 1, r2, u2, e2, by omega, rfl, by go_num, hGx, hMJ, by omega, by omega, AG, AC, bw⟩, by simp [intOf]; omega⟩
                  | true =>
                    have HLn : Hid ((Instr.loadAt 38 (.pointer (some ⟨Z.heap.size, 0, Option.none⟩))).run Try.prog Z1 = .ok (.agg (grV g2 u2).toArray) Z1) := load_gr AN hG3.vlen
                    obtain ⟨Z2, hst2, AG2, hne, hbl⟩ := putG hG2 hG3 AG
                    have HS2 : Hid ((Instr.storeAt 38 (.pointer (some ⟨gb, 0, Option.none⟩)) (.agg (grV g2 u2).toArray)).run Try.prog Z1 = .ok () Z2) := hst2
                    replace AC := hne _ _ _ (by omega) AC
                    replace bw := hbl _ _ (by omega) bw
                    clear hrb AN hst2 hne hbl AG
                    have AG := AG2
                    clear AG2
                    have hGx := hG3
                    have HLr : Hid ((Instr.loadAt 38 (.pointer (some ⟨gb, 0, Option.none⟩))).run Try.prog Z2 = .ok (.agg (grV g2 u2).toArray) Z2) := load_gr AG hGx.vlen
                    go_wp2_with (first | (with_reducible refine wl_store HS.out rfl rfl ?_) | (with_reducible refine wl_load HLn.out rfl rfl ?_) | (with_reducible refine wl_store HS2.out rfl rfl ?_) | (with_reducible refine wl_load HLr.out rfl rfl ?_))
                    refine (gread_any g2 u2 (e2 + 1) k Z2 hGx hk8).mono ?_
                    rintro r V ⟨rfl, b9⟩
                    replace AG := AG.later b9 AG.lt
                    replace AC := AC.later b9 AC.lt
                    replace bw := bw.trans (b9.mono bw.size)
                    clear HLr b9
                    have hGr := readG_ok hGx (e2 + 1) k
                    have HRC : Hid (readB g2 u2 (e2 + 1) = true → readC g2 u2 (e2 + 1) k = ⟨e, 1000, data⟩) := fun hrb => by
                      rw [readC_is g2 u2 (e2 + 1) k hk8 hrb]; exact MJ.best hMJ3 HZ.out u2 (by simpa [readB] using hrb)
                    generalize readG g2 u2 (e2 + 1) k = gr at *
                    generalize readC g2 u2 (e2 + 1) k = rc at *
                    obtain ⟨V2, V3, hs1, hs2, AR, bV, _⟩ := newGC hGr rc V
                    have HS8 : Hid ((Instr.storeAt 38 (.pointer (some ⟨V.heap.size, 0, Option.none⟩)) (.agg (grV gr u2).toArray)).run Try.prog ((V.alloc (.cells z78.toArray 38)).alloc (.cells #[.int .i64 0, .int .i64 0, .string ⟨#[]⟩] 23)) = .ok () V2) := hs1
                    have HS9 : Hid ((Instr.storeAt 23 (.pointer (some ⟨V.heap.size + 1, 0, Option.none⟩)) (.agg #[.int .i64 rc.e, .int .i64 rc.n, .string rc.d])).run Try.prog V2 = .ok () V3) := hs2
                    replace AG := AG.later bV AG.lt
                    replace AC := AC.later bV AC.lt
                    replace bw := bw.trans (bV.mono bw.size)
                    clear hs1 hs2 bV
                    cases hrb : readB g2 u2 (e2 + 1) with
                    | false =>
                      go_wp2_with (first | (with_reducible refine wl_store HS8.out rfl rfl ?_) | (with_reducible refine wl_store HS9.out rfl rfl ?_))
                      exact ⟨⟨i + 1, g2, u2, (e2 + 1), by omega, by go_num, by go_num, hGx, hMJ3, by omega, by omega, AG, AC, bw⟩, by simp [intOf]; omega⟩
                    | true =>
                      obtain rfl := HRC.out hrb
                      clear HRC hrb
                      have HL1 : Hid ((Instr.loadAt 23 (.pointer (some ⟨V.heap.size + 1, 0, Option.none⟩))).run Try.prog V3 = .ok (.agg #[.int .i64 e, .int .i64 1000, .string data]) V3) := load_cel (c := ⟨e, 1000, data⟩) AR.whole
                      have HL2 : Hid ((Instr.loadAt 23 (.pointer (some ⟨cb, 0, Option.none⟩))).run Try.prog V3 = .ok (.agg #[.int .i64 e, .int .i64 1000, .string data]) V3) := load_cel (c := ⟨e, 1000, data⟩) AC.whole
                      have HQ : Hid ((Op.equalIn 10000 23 (.agg #[.int .i64 e, .int .i64 1000, .string data]) (.agg #[.int .i64 e, .int .i64 1000, .string data])).run Try.prog V3 = .ok true V3) := by
                        show _ = _; rw [show (10000 : Nat) = 9998 + 2 from rfl, run_eq_cel 9998 ⟨e, 1000, data⟩ ⟨e, 1000, data⟩ V3, eqCel_refl]
                      clear AR
                      go_wp2_with (first | (with_reducible refine wl_store HS8.out rfl rfl ?_) | (with_reducible refine wl_store HS9.out rfl rfl ?_) | (with_reducible refine wl_load HL1.out rfl rfl ?_) | (with_reducible refine wl_load HL2.out rfl rfl ?_) | (with_reducible refine wl_neq HQ.out eqg23 rfl rfl rfl ?_))
                      exact ⟨⟨i + 1, g2, u2, (e2 + 1), by omega, by go_num, by go_num, hGx, hMJ3, by omega, by omega, AG, AC, bw⟩, by simp [intOf]; omega⟩
                | false =>
                  go_wp2_with (with_reducible refine wl_load HL.out rfl rfl ?_)
                  refine (sync_any r2 u2 e2 m Y2 hG2).mono ?_
                  rintro r Z ⟨rfl, b2⟩
                  have hG3 := syncG_ok hG2 e2 m
                  have hMJ3 := MJ.sync (up := u2) hG2 hMJ HZ.out hk8 m hm3
                  generalize syncG r2 u2 e2 m = g2 at *
                  generalize syncB r2 u2 e2 m = sb at *
                  replace AG := AG.later b2 AG.lt
                  replace AC := AC.later b2 AC.lt
                  replace bw := bw.trans (b2.mono bw.size)
                  clear HL b2 c0 c1
                  obtain ⟨Z2, hst2, AG2, hne, hbl⟩ := putG hG2 hG3 AG
                  have HS2 : Hid ((Instr.storeAt 38 (.pointer (some ⟨gb, 0, Option.none⟩)) (.agg (grV g2 u2).toArray)).run Try.prog Z = .ok () Z2) := hst2
                  replace AC := hne _ _ _ (by omega) AC
                  replace bw := hbl _ _ (by omega) bw
                  clear hst2 hne hbl AG
                  have AG := AG2
                  clear AG2
                  have hGx := hG3
                  have HLr : Hid ((Instr.loadAt 38 (.pointer (some ⟨gb, 0, Option.none⟩))).run Try.prog Z2 = .ok (.agg (grV g2 u2).toArray) Z2) := load_gr AG hGx.vlen
                  go_wp2_with (first | (with_reducible refine wl_store HS2.out rfl rfl ?_) | (with_reducible refine wl_load HLr.out rfl rfl ?_))
                  refine (gread_any g2 u2 e2 k Z2 hGx hk8).mono ?_
                  rintro r V ⟨rfl, b9⟩
                  replace AG := AG.later b9 AG.lt
                  replace AC := AC.later b9 AC.lt
                  replace bw := bw.trans (b9.mono bw.size)
                  clear HLr b9
                  have hGr := readG_ok hGx e2 k
                  have HRC : Hid (readB g2 u2 e2 = true → readC g2 u2 e2 k = ⟨e, 1000, data⟩) := fun hrb => by
                    rw [readC_is g2 u2 e2 k hk8 hrb]; exact MJ.best hMJ3 HZ.out u2 (by simpa [readB] using hrb)
                  generalize readG g2 u2 e2 k = gr at *
                  generalize readC g2 u2 e2 k = rc at *
                  obtain ⟨V2, V3, hs1, hs2, AR, bV, _⟩ := newGC hGr rc V
                  have HS8 : Hid ((Instr.storeAt 38 (.pointer (some ⟨V.heap.size, 0, Option.none⟩)) (.agg (grV gr u2).toArray)).run Try.prog ((V.alloc (.cells z78.toArray 38)).alloc (.cells #[.int .i64 0, .int .i64 0, .string ⟨#[]⟩] 23)) = .ok () V2) := hs1
                  have HS9 : Hid ((Instr.storeAt 23 (.pointer (some ⟨V.heap.size + 1, 0, Option.none⟩)) (.agg #[.int .i64 rc.e, .int .i64 rc.n, .string rc.d])).run Try.prog V2 = .ok () V3) := hs2
                  replace AG := AG.later bV AG.lt
                  replace AC := AC.later bV AC.lt
                  replace bw := bw.trans (bV.mono bw.size)
                  clear hs1 hs2 bV
                  cases hrb : readB g2 u2 e2 with
                  | false =>
                    go_wp2_with (first | (with_reducible refine wl_store HS8.out rfl rfl ?_) | (with_reducible refine wl_store HS9.out rfl rfl ?_))
                    exact ⟨⟨i + 1, g2, u2, e2, by omega, rfl, by go_num, hGx, hMJ3, by omega, by omega, AG, AC, bw⟩, by simp [intOf]; omega⟩
                  | true =>
                    obtain rfl := HRC.out hrb
                    clear HRC hrb
                    have HL1 : Hid ((Instr.loadAt 23 (.pointer (some ⟨V.heap.size + 1, 0, Option.none⟩))).run Try.prog V3 = .ok (.agg #[.int .i64 e, .int .i64 1000, .string data]) V3) := load_cel (c := ⟨e, 1000, data⟩) AR.whole
                    have HL2 : Hid ((Instr.loadAt 23 (.pointer (some ⟨cb, 0, Option.none⟩))).run Try.prog V3 = .ok (.agg #[.int .i64 e, .int .i64 1000, .string data]) V3) := load_cel (c := ⟨e, 1000, data⟩) AC.whole
                    have HQ : Hid ((Op.equalIn 10000 23 (.agg #[.int .i64 e, .int .i64 1000, .string data]) (.agg #[.int .i64 e, .int .i64 1000, .string data])).run Try.prog V3 = .ok true V3) := by
                      show _ = _; rw [show (10000 : Nat) = 9998 + 2 from rfl, run_eq_cel 9998 ⟨e, 1000, data⟩ ⟨e, 1000, data⟩ V3, eqCel_refl]
                    clear AR
                    go_wp2_with (first | (with_reducible refine wl_store HS8.out rfl rfl ?_) | (with_reducible refine wl_store HS9.out rfl rfl ?_) | (with_reducible refine wl_load HL1.out rfl rfl ?_) | (with_reducible refine wl_load HL2.out rfl rfl ?_) | (with_reducible refine wl_neq HQ.out eqg23 rfl rfl rfl ?_))
                    exact ⟨⟨i + 1, g2, u2, e2, by omega, rfl, by go_num, hGx, hMJ3, by omega, by omega, AG, AC, bw⟩, by simp [intOf]; omega⟩
              · obtain rfl : i = l2.length := by omega
                go_wp2_with fail
                go_ret
                exact ⟨rfl, bw⟩

set_option maxRecDepth 100000 in
theorem topMost_lifted (os : Os) (started : os.Started) (H : Type) (enc : TypeId × Value → H) :
    ReturnsInHanded {} Try.checked os 6 .any (Rows.topMostSpec.pre6 enc Try.prog Try.f6 Rows.topMostRow.domain false) (Rows.topMostSpec.post enc Try.prog Try.f6 false true false false) := by
  refine returnsInHanded_of_change (C := Try.checked) own started (by kernel_rfl) Try.func6
    (ChangeSpec.witness6 (enc := enc) (C := Try.checked) false ⟨#[], #[.slice Option.none 0 0, .slice Option.none 0 0, .int .i64 0, .string ⟨#[]⟩], []⟩ 8 (by kernel_rfl) (by kernel_rfl) (by kernel_rfl) (by kernel_rfl)) ?_
  intro W base args ds gs before hval0 hW hcnd _
  have hval : ∀ (j : Nat) t v, Try.f6.params[j]? = some t → args[j]? = some v → Value.okWide Try.prog W .any base t v := hval0
  have hW' := hW
  obtain ⟨p, q, hA0, hV, rfl, hfz, hnd⟩ := hW
  have hA : DataW.TrodAll enc Try.prog W 0 (fun _ => true) true Try.f6.params.toList args.toList ds p := hA0
  rw [Try.params6] at hA hval
  obtain ⟨v0, v1, v2, v3, d0, d1, d2, d3, p0, p1, p2, p3, rfl, rfl, rfl, h0, h1, h2, h3⟩ := trodAll_four hA
  obtain ⟨rfl, rfl⟩ := trodVars_none hV
  have k0 := h0
  have lt0 : ∀ x ∈ p0, x.block < W.heap.size := by obtain ⟨m, hm⟩ := k0; exact DataW.trod_lt m _ _ _ hm
  obtain ⟨a0, n0, c0, l0, rfl, row0⟩ := open_acts (hval 0 32 v0 rfl rfl) h0
  have k1 := h1
  have lt1 : ∀ x ∈ p1, x.block < W.heap.size := by obtain ⟨m, hm⟩ := k1; exact DataW.trod_lt m _ _ _ hm
  obtain ⟨a1, n1, c1, l1, rfl, row1⟩ := open_acts (hval 1 32 v1 rfl rfl) h1
  obtain ⟨x2, rfl, rfl, rfl, wf2⟩ := open_int Try.underlying3 (hval 2 3 v2 rfl rfl) h2
  obtain ⟨x3, rfl, rfl, rfl, wf3⟩ := Go.ChangeMaps.open_string Try.underlying9 (hval 3 9 v3 rfl rfl) h3
  clear hA0 hval0
  refine (topMost_walk a0 n0 c0 l0 a1 n1 c1 l1 x2 x3 W row0 row1 wf3).mono fun e W' ⟨he, bel⟩ => ?_
  subst he
  exact ⟨_, rfl, _, _, _, [], _, [], hW', trodAll_mk1 (shut_bool Try.underlying4 _), (trodAll_cons_mk (Below.trod laidOut (by kernel_rfl) (of_decide_eq_true (by kernel_rfl)) k0 bel lt0) (trodAll_cons_mk (Below.trod laidOut (by kernel_rfl) (of_decide_eq_true (by kernel_rfl)) k1 bel lt1) (trodAll_cons_mk (shut_int Try.underlying3 wf2) (trodAll_cons_mk (Go.ChangeMaps.shut_string Try.underlying9 wf3) trodAll_mk0)))), rfl, bel.frame _, fun h => by cases h⟩

theorem topMost_holds : Rows.TopMostSaid :=
  OpenClaim.holds_of_wide 6 Try.f6 rfl rfl rfl rfl rfl rfl rfl ⟨rfl, rfl, rfl, rfl, rfl⟩ rfl rfl rfl rfl rfl (by kernel_rfl) Try.func6 (by kernel_rfl)
    (of_decide_eq_true (by kernel_rfl)) (by unfold Func.isWrapper; first | (rw [if_pos (by decide +kernel)]; kernel_rfl) | (rw [if_neg (by decide +kernel)]; exact ⟨rfl, rfl⟩))
    (fun os started H enc _ => topMost_lifted os started H enc)
#print axioms topMost_holds
end Go.Proofs.Yteebhmhjbgehjaa
