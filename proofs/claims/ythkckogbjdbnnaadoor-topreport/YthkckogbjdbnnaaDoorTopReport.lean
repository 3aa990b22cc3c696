/- Proved: the tied card of the law TopReport: for every state she returns true and leaves her argument as it was, where the listed variables of the library hold what the program's own text lays there. -/
import Derived.Test.YthkckogbjdbnnaaDoorRMath
import Derived.Test.YthkckogbjdbnnaaDoorSameS
import Derived.Test.YthkckogbjdbnnaaDoorTLift
import Derived.Test.YthkckogbjdbnnaaDoorOpen
import Derived.Test.YthkckogbjdbnnaaDoorTie
import Derived.Test.YthkckogbjdbnnaaDoorCards
import Derived.Lib.LaidTab
import Derived.SevenTiedAt
namespace Go.Proofs.YthkckogbjdbnnaaDoor
open Go.ChangeShapes Go.WideShapes Go.ChangeAt Go.RowKit Go.Maps Go.Proofs.YthkckogbjdbnnaaDoor.K

theorem rf_len : ∀ (l : List (Int × Int)) (p : Int), p ≤ 4 → rf p l = 0 → (l.length : Int) ≤ 4 - p
  | [], p, h, _ => by simp; omega
  | q :: l, p, h, hf => by
    unfold rf at hf
    split at hf
    · omega
    · split at hf
      · omega
      · have := rf_len l q.1 (by omega) hf
        simp only [List.length_cons]; omega
theorem fault_len {g t hd : Int} {l : List (Int × Int)} (hf : fault g t hd l = 0) : l.length ≤ 4 := by
  have := rf_len l 0 (by decide) (fault_rf hf).1
  omega
theorem sok0 : SOK 0 0 0 [] := ⟨by decide, by decide, by decide, by decide, by decide, by decide, by decide, fun r hr => by cases hr⟩

set_option maxHeartbeats 8000000 in
set_option maxRecDepth 100000 in
theorem topReport_walk (g t hd : Int) (a : Option Addr) (n c : Nat) (y : Bool) (l : List (Int × Int)) (w : World) (hL : Laid w) (hr : Row w a n l) :
    Calls Tryd.prog 6 #[.agg #[.int .i64 g, .slice a n c, .int .i64 t, .int .i64 hd, .bool y]] w fun e w' => e = .returned (.bool true) ∧ Below w.heap.size w w' := by
  obtain ⟨X, hX⟩ : ∃ X, X = w.alloc (.cells #[.int .i64 g, .slice a n c, .int .i64 t, .int .i64 hd, .bool y] 44) := ⟨_, rfl⟩
  have A1 : At X w.heap.size [.int .i64 g, .slice a n c, .int .i64 t, .int .i64 hd, .bool y] 44 := by rw [hX]; exact heap_alloc_new w _
  have bX : Below w.heap.size w X := by rw [hX]; exact (Below.refl _ _).alloc (Nat.le_refl _) _
  have hrow := hr.later bX
  clear hr
  have h0 : stTxt 0 0 0 false [] = [48, 32, 48, 32, 48, 32, 103, 111, 101, 115] := by decide +kernel
  go_enter Tryd.func6, Tryd.ntmps6
  go_wp2_with fail
  rw [← hX]
  clear hX
  refine (rtext_ok 0 0 0 false Option.none 0 0 [] X (hL.later bX) (row_nil X) sok0).mono ?_
  rintro e W1 ⟨rfl, hb1⟩
  rw [h0]
  clear h0
  replace A1 := A1.later hb1 A1.lt
  replace bX := bX.trans (hb1.mono bX.size)
  replace hrow := hrow.later hb1
  clear hb1
  have HL : Hid ((Instr.loadAt 44 (.pointer (some ⟨w.heap.size, 0, Option.none⟩))).run Tryd.prog W1 = .ok (.agg [.int .i64 g, .slice a n c, .int .i64 t, .int .i64 hd, .bool y].toArray) W1) := load_st A1 rfl
  go_wp2_with (with_reducible refine wl_load HL.out rfl rfl ?_)
  clear HL
  refine (light_any g t hd a n c y W1 hrow.2.1).mono ?_
  rintro e W2 ⟨rfl, hb1⟩
  replace A1 := A1.later hb1 A1.lt
  replace bX := bX.trans (hb1.mono bX.size)
  replace hrow := hrow.later hb1
  clear hb1
  by_cases hn6 : n ≤ 6
  case neg =>
    have hn6' : decide (n ≤ 6) = false := by simpa using hn6
    go_wp2
    go_ret
    exact ⟨rfl, bX⟩
  have hn6' : decide (n ≤ 6) = true := by simpa using hn6
  have HL : Hid ((Instr.loadAt 44 (.pointer (some ⟨w.heap.size, 0, Option.none⟩))).run Tryd.prog W2 = .ok (.agg [.int .i64 g, .slice a n c, .int .i64 t, .int .i64 hd, .bool y].toArray) W2) := load_st A1 rfl
  go_wp2_with (with_reducible refine wl_load HL.out rfl rfl ?_)
  clear HL hn6'
  refine (check_any g t hd a n c y l W2 hrow).mono ?_
  rintro e W3 ⟨rfl, hb1⟩
  replace A1 := A1.later hb1 A1.lt
  replace bX := bX.trans (hb1.mono bX.size)
  replace hrow := hrow.later hb1
  clear hb1
  by_cases hf : fault g t hd l = 0
  case neg =>
    rw [errW_no hf]
    clear hf
    go_wp2
    go_ret
    exact ⟨rfl, bX⟩
  rw [hf]
  have F : SOK g t hd l := sok_of hf (fault_len hf)
  have HF : Hid (fault g t hd l = 0) := hf
  clear hf
  rw [show errV 0 = .nilIface from rfl]
  have HL : Hid ((Instr.loadAt 44 (.pointer (some ⟨w.heap.size, 0, Option.none⟩))).run Tryd.prog W3 = .ok (.agg [.int .i64 g, .slice a n c, .int .i64 t, .int .i64 hd, .bool y].toArray) W3) := load_st A1 rfl
  go_wp2_with (with_reducible refine wl_load HL.out rfl rfl ?_)
  clear HL
  refine (rtext_ok g t hd y a n c l W3 (hL.later bX) hrow F).mono ?_
  rintro e W4 ⟨rfl, hb1⟩
  replace A1 := A1.later hb1 A1.lt
  replace bX := bX.trans (hb1.mono bX.size)
  replace hrow := hrow.later hb1
  clear hb1
  have hlen := st_len60 y F
  obtain ⟨b0, b1, b2, b3, b4⟩ := st_back y F
  go_wp2_with fail
  refine (rparse_aux (stTxt g t hd y l) W4 (hL.later bX) (by omega) g t hd y l b0 b1 b2 b3 b4).mono ?_
  rintro e W5 ⟨hres, hb1⟩
  rcases hres with ⟨a', c', _, rfl, hrow'⟩ | ⟨hno, _⟩
  case inr => exact absurd ⟨HF.out, rfl⟩ hno
  replace A1 := A1.later hb1 A1.lt
  replace bX := bX.trans (hb1.mono bX.size)
  replace hrow := hrow.later hb1
  clear hb1 b0 b1 b2 b3 b4
  obtain ⟨Y, hY⟩ : ∃ Y, Y = W5.alloc (.cells #[.int .i64 g, .slice a' l.length c', .int .i64 t, .int .i64 hd, .bool y] 44) := ⟨_, rfl⟩
  have A3 : At Y W5.heap.size [.int .i64 g, .slice a' l.length c', .int .i64 t, .int .i64 hd, .bool y] 44 := by rw [hY]; exact heap_alloc_new W5 _
  have bY : Below W5.heap.size W5 Y := by rw [hY]; exact (Below.refl _ _).alloc (Nat.le_refl _) _
  replace A1 := A1.later bY A1.lt
  replace bX := bX.trans (bY.mono bX.size)
  replace hrow := hrow.later bY
  replace hrow' := hrow'.later bY
  clear bY
  have HL1 : Hid ((Instr.loadAt 44 (.pointer (some ⟨w.heap.size, 0, Option.none⟩))).run Tryd.prog Y = .ok (.agg [.int .i64 g, .slice a n c, .int .i64 t, .int .i64 hd, .bool y].toArray) Y) := load_st A1 rfl
  have HL3 : Hid ((Instr.loadAt 44 (.pointer (some ⟨W5.heap.size, 0, Option.none⟩))).run Tryd.prog Y = .ok (.agg [.int .i64 g, .slice a' l.length c', .int .i64 t, .int .i64 hd, .bool y].toArray) Y) := load_st A3 rfl
  go_upto_region 6 with fail
  rw [← hY]
  clear hY A3
  go_wp2_with (first | (with_reducible refine wl_load HL3.out rfl rfl ?_) | (with_reducible refine wl_load HL1.out rfl rfl ?_))
  clear HL1 HL3
  refine (sameState_any g t hd a' a l.length n c' c y l Y hrow' hrow).mono ?_
  rintro e W6 ⟨rfl, hb1⟩
  replace A1 := A1.later hb1 A1.lt
  replace bX := bX.trans (hb1.mono bX.size)
  replace hrow := hrow.later hb1
  clear hb1
  have HL : Hid ((Instr.loadAt 44 (.pointer (some ⟨w.heap.size, 0, Option.none⟩))).run Tryd.prog W6 = .ok (.agg [.int .i64 g, .slice a n c, .int .i64 t, .int .i64 hd, .bool y].toArray) W6) := load_st A1 rfl
  go_wp2_with (with_reducible refine wl_load HL.out rfl rfl ?_)
  clear HL
  refine (rtext_ok g t hd y a n c l W6 (hL.later bX) hrow F).mono ?_
  rintro e W7 ⟨rfl, hb1⟩
  replace bX := bX.trans (hb1.mono bX.size)
  clear hb1 A1 hrow hrow'
  have hz : (⟨(stTxt g t hd y l).toArray⟩ : ByteArray).size ≤ 60 := by rw [sz_arr]; exact hlen
  generalize (⟨(stTxt g t hd y l).toArray⟩ : ByteArray) = tx at *
  clear HF F hlen
  have hz' : decide ((tx.size : Int) ≤ 60) = true := by simp; omega
  go_wp2
  go_ret
  exact ⟨by simp, bX⟩

theorem gpowR : Tryd.prog.globalNamed "internal/strconv.uint64pow10" = some 0 := by kernel_rfl
theorem gsynR : Tryd.prog.globalNamed "strconv.ErrSyntax" = some 2 := by kernel_rfl
theorem grngR : Tryd.prog.globalNamed "strconv.ErrRange" = some 3 := by kernel_rfl
theorem laid_ofR {W : World} (h : laidMetH Tryd.prog Rows.topReportRow.laid W) (hs : W.ShapedOpen Tryd.prog) : Laid W := by
  have ht := h.filter (fun x => x.1 == "internal/strconv.uint64pow10")
  rw [show Rows.topReportRow.laid.filter (fun x => x.1 == "internal/strconv.uint64pow10") = [("internal/strconv.uint64pow10", Lib.tabData .u64 Lib.pow10Tab)] from by kernel_rfl, MakeChecks.laidMetH_plain _ _ _ (by kernel_rfl)] at ht
  have hy := h.filter (fun x => x.1 == "strconv.ErrSyntax")
  rw [show Rows.topReportRow.laid.filter (fun x => x.1 == "strconv.ErrSyntax") = [("strconv.ErrSyntax", Rows.laid_strconv_ErrSyntax)] from by kernel_rfl, MakeChecks.laidMetH_plain _ _ _ (by kernel_rfl)] at hy
  have hr := h.filter (fun x => x.1 == "strconv.ErrRange")
  rw [show Rows.topReportRow.laid.filter (fun x => x.1 == "strconv.ErrRange") = [("strconv.ErrRange", Rows.laid_strconv_ErrRange)] from by kernel_rfl, MakeChecks.laidMetH_plain _ _ _ (by kernel_rfl)] at hr
  exact ⟨Lib.tabIs_of_head gpowR (by kernel_rfl) Tryd.underlying129 Tryd.underlying111 (by kernel_rfl) (by kernel_rfl) ht, sentinel gsynR (by kernel_rfl) Tryd.underlying27 rfl hy, sentinel grngR (by kernel_rfl) Tryd.underlying27 rfl hr, maxlen hs⟩
theorem door_metR (os : Os) (args : Array Value) : laidMetH Tryd.prog Rows.topReportRow.laid ((World.doorLaid Tryd.prog 4000 os).forCall (fun _ _ => 0) ⟨#[], args, []⟩).memory :=
  laidMetH_of_parts3 (fuel := 8) (laidMet_of_run' 8 (by kernel_rfl) (by kernel_rfl)) (by kernel_rfl) (by kernel_rfl)

set_option maxRecDepth 100000 in
theorem topReport_lifted (os : Os) (started : os.Started) (H : Type) (enc : TypeId × Value → H) :
    ReturnsInHanded {} Tryd.checked os 6 .any (fun w args => (Rows.topReportSpec.pre enc Tryd.prog Tryd.f6 [] false w args ∧ laidMetH Tryd.prog Rows.topReportRow.laid w) ∧ sizedMet enc Tryd.prog Tryd.f6 (OpenSpec.ofChange Rows.topReportSpec) false w args)
      (Rows.topReportSpec.post enc Tryd.prog Tryd.f6 false true false false) := by
  refine lift_both (C := Tryd.checked) own started (by kernel_rfl) Tryd.func6
    (ChangeSpec.witness_shaped (enc := enc) (C := Tryd.checked) (os := os) (X := fun w _ => laidMetH Tryd.prog Rows.topReportRow.laid w) false (World.doorLaid Tryd.prog 4000 os) #[.agg #[.int .i64 0, .slice Option.none 0 0, .int .i64 0, .int .i64 0, .bool false]] 8 rfl (World.shaped_of_RefB (by kernel_rfl) (by kernel_rfl)) (by kernel_rfl) (by kernel_rfl) (by kernel_rfl) (door_metR os _)) ?_
  intro W base args ds gs before hval0 hW hL hsh
  have hval : ∀ (j : Nat) t v, Tryd.f6.params[j]? = some t → args[j]? = some v → Value.okWide Tryd.prog W .any base t v := hval0
  have hW' := hW
  obtain ⟨p, q, hA0, hV, rfl, hfz, hnd⟩ := hW
  have hA : DataW.TrodAll enc Tryd.prog W 0 (fun _ => true) true Tryd.f6.params.toList args.toList ds p := hA0
  rw [Tryd.params6] at hA hval
  obtain ⟨v0, d0, rfl, rfl, h0⟩ := trodAll_one hA
  obtain ⟨rfl, rfl⟩ := trodVars_none hV
  have k0 := h0
  have lt0 : ∀ x ∈ p, x.block < W.heap.size := by obtain ⟨m, hm⟩ := k0; exact DataW.trod_lt m _ _ _ hm
  obtain ⟨g0, a0, n0, c0, t0, hd0, y0, l0, rfl, row0⟩ := open_state (hval 0 44 v0 rfl rfl) h0
  clear hA0 hval0
  refine (topReport_walk g0 t0 hd0 a0 n0 c0 y0 l0 W (laid_ofR hL hsh) row0).mono fun e W' ⟨he, bel⟩ => ?_
  subst he
  exact ⟨_, rfl, _, _, _, [], _, [], hW', trodAll_mk1 (shut_bool Tryd.underlying4 _), (trodAll_cons_mk (Below.trod laidOut (by kernel_rfl) (of_decide_eq_true (by kernel_rfl)) k0 bel lt0) trodAll_mk0), rfl, bel.frame _, fun h => by cases h⟩

theorem topReport_holds : Rows.TopReportSaid :=
  OpenClaim.holds_of_wide 6 Tryd.f6 rfl rfl rfl rfl rfl rfl rfl ⟨rfl, rfl, rfl, rfl, rfl⟩ rfl rfl rfl rfl rfl (by kernel_rfl) Tryd.func6 (by kernel_rfl)
    (of_decide_eq_true (by kernel_rfl)) (by unfold Func.isWrapper; first | (rw [if_pos (by decide +kernel)]; kernel_rfl) | (rw [if_neg (by decide +kernel)]; exact ⟨rfl, rfl⟩))
    (fun os started H enc _ => topReport_lifted os started H enc)

theorem topReport_card : Rows.TopReportCardSaid :=
  Claim7.holds_tied_plain_at .later [] [.data, .data, .data, .sentinel, .sentinel] true Rows.topReportCard.stood.harness true
    topReport_holds (fun _ h => by cases h) (by kernel_rfl) (fun _ h => by cases h) topReport_row_tie rfl ⟨rfl, rfl⟩ (by kernel_rfl) rfl
    (fun f fn hf hfn => by
      obtain rfl : f = 6 := Option.some.inj ((show Tryd.prog.funcNamed Rows.topReportRow.func = some 6 by kernel_rfl).symm.trans hf) |>.symm
      obtain rfl : fn = Tryd.f6 := (Option.some.inj (Tryd.func6.symm.trans hfn)).symm
      exact ⟨by kernel_rfl, fun j t ht => by
        rw [Tryd.params6] at ht
        match j, ht with
        | 0, ht =>
          obtain rfl := Option.some.inj (show some 44 = some t from ht)
          show Tryd.prog.wantsStandIn 44 = false
          kernel_rfl
        | j + 1, ht => simp at ht⟩)
    (by kernel_rfl)
#print axioms topReport_card
end Go.Proofs.YthkckogbjdbnnaaDoor
