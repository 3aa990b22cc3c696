/- Proved: the tied card of the law TopCode: for every command she returns true and leaves her argument as it was, where the five listed variables of the library hold what the program's own text lays there. -/
import Derived.Test.YthkckogbjdbnnaaDoorTLift
import Derived.Test.YthkckogbjdbnnaaDoorTie
import Derived.Test.YthkckogbjdbnnaaDoorCards
import Derived.Lib.LaidTab
import Derived.SevenTiedAt
namespace Go.Proofs.YthkckogbjdbnnaaDoor
open Go.ChangeShapes Go.WideShapes Go.ChangeAt Go.RowKit Go.Maps Go.Proofs.YthkckogbjdbnnaaDoor.K

theorem light_cmd (c : Cmd) (w : World) (hd : c.da.size ≤ 9223372036854775807) (hw : c.wa.size ≤ 9223372036854775807) : Calls Tryd.prog 8 #[.agg #[.int .i64 c.op, .int .i64 c.who, .int .i64 c.key, .int .i64 c.new, .int .i64 c.kind, .int .i64 c.at', .bool c.st, .string c.da, .string c.wa]] w fun e w' => e = .returned (.bool (decide (c.da.size ≤ 20) && decide (c.wa.size ≤ 20))) ∧ Below w.heap.size w w' := by
  by_cases h : c.da.size ≤ 20
  · have h1 : decide ((c.da.size : Int) ≤ 20) = true := by simp; omega
    have HF : Hid ((decide (c.da.size ≤ 20) && decide (c.wa.size ≤ 20)) = decide ((c.wa.size : Int) ≤ 20)) := by
      show _ = _
      rw [show decide (c.da.size ≤ 20) = true by simpa using h, Bool.true_and, decide_eq_decide]; omega
    clear h
    go_enter Tryd.func8, Tryd.ntmps8
    go_wp2
    go_ret
    exact ⟨by rw [HF.out]; rfl, (Below.refl _ _).alloc (Nat.le_refl _) _⟩
  · have h1 : decide ((c.da.size : Int) ≤ 20) = false := by simp; omega
    have HF : Hid ((decide (c.da.size ≤ 20) && decide (c.wa.size ≤ 20)) = false) := by
      show _ = _
      rw [show decide (c.da.size ≤ 20) = false by simpa using h, Bool.false_and]
    clear h
    go_enter Tryd.func8, Tryd.ntmps8
    go_wp2
    go_ret
    exact ⟨by rw [HF.out]; rfl, (Below.refl _ _).alloc (Nat.le_refl _) _⟩
theorem assert_no (f : Int) (w : World) : (Instr.typeAssert (.iface 68 (.int .i64 f)) 27 68 true).run Tryd.prog w = .ok (.tuple #[.int .i64 f, .bool true]) w := by kernel_rfl
set_option maxRecDepth 100000 in
theorem number_of (f : Int) (w : World) : Calls Tryd.prog 18 #[.iface 68 (.int .i64 f)] w fun e w' => e = .returned (.int .i64 f) ∧ w = w' := by
  have ha := assert_no f
  go_enter Tryd.func18, Tryd.ntmps18
  go_wp2
  go_ret
  exact ⟨rfl, rfl⟩

set_option maxHeartbeats 8000000 in
set_option maxRecDepth 100000 in
theorem topCode_walk (c : Cmd) (w : World) (hL : Laid w) (hwf : (Lit.int .i64 c.op).wf = true) (hd : c.da.size ≤ 9223372036854775807) (hw : c.wa.size ≤ 9223372036854775807) :
    Calls Tryd.prog 4 #[.agg #[.int .i64 c.op, .int .i64 c.who, .int .i64 c.key, .int .i64 c.new, .int .i64 c.kind, .int .i64 c.at', .bool c.st, .string c.da, .string c.wa]] w fun e w' => e = .returned (.bool true) ∧ Below w.heap.size w w' := by
  obtain ⟨X, hX⟩ : ∃ X, X = w.alloc (.cells #[.int .i64 c.op, .int .i64 c.who, .int .i64 c.key, .int .i64 c.new, .int .i64 c.kind, .int .i64 c.at', .bool c.st, .string c.da, .string c.wa] 23) := ⟨_, rfl⟩
  have A1 : At X w.heap.size (cl c) 23 := by rw [hX]; exact heap_alloc_new w _
  have bX : Below w.heap.size w X := by rw [hX]; exact (Below.refl _ _).alloc (Nat.le_refl _) _
  have hcl : txtC ⟨7, 1, 0, 0, 0, 0, false, ⟨#[]⟩, ⟨#[]⟩⟩ = [49, 32, 114, 101, 97, 100, 32, 48] := by decide +kernel
  go_enter Tryd.func4, Tryd.ntmps4
  go_wp2_with fail
  rw [← hX]
  clear hX
  refine (text_ok 7 1 0 0 0 0 false ⟨#[]⟩ ⟨#[]⟩ (by decide) X (hL.later bX) (by decide +kernel)).mono ?_
  rintro e W1 ⟨rfl, hb1⟩
  rw [hcl]
  clear hcl
  replace A1 := A1.later hb1 A1.lt
  replace bX := bX.trans (hb1.mono bX.size)
  clear hb1
  have HL : Hid ((Instr.loadAt 23 (.pointer (some ⟨w.heap.size, 0, Option.none⟩))).run Tryd.prog W1 = .ok (.agg #[.int .i64 c.op, .int .i64 c.who, .int .i64 c.key, .int .i64 c.new, .int .i64 c.kind, .int .i64 c.at', .bool c.st, .string c.da, .string c.wa]) W1) := load_cmd A1 rfl
  go_wp2_with (with_reducible refine wl_load HL.out rfl rfl ?_)
  clear HL
  refine (light_cmd c W1 hd hw).mono ?_
  rintro e W2 ⟨rfl, hb2⟩
  replace A1 := A1.later hb2 A1.lt
  replace bX := bX.trans (hb2.mono bX.size)
  clear hb2
  cases hlt : decide (c.da.size ≤ 20) && decide (c.wa.size ≤ 20) with
  | false =>
    go_wp2
    go_ret
    exact ⟨rfl, bX⟩
  | true =>
  clear hlt
  have HL : Hid ((Instr.loadAt 23 (.pointer (some ⟨w.heap.size, 0, Option.none⟩))).run Tryd.prog W2 = .ok (.agg #[.int .i64 c.op, .int .i64 c.who, .int .i64 c.key, .int .i64 c.new, .int .i64 c.kind, .int .i64 c.at', .bool c.st, .string c.da, .string c.wa]) W2) := load_cmd A1 rfl
  go_wp2_with (with_reducible refine wl_load HL.out rfl rfl ?_)
  clear HL
  by_cases hf : c.f = 0
  case neg =>
    refine (text_no c.op c.who c.key c.new c.kind c.at' c.st c.da c.wa hwf hd hw W2 hf).mono ?_
    rintro e W3 ⟨rfl, hb3⟩
    have he : errV (cmdF c.op c.who c.key c.new c.kind c.at' c.st c.da c.wa) = .iface 68 (.int .i64 (cmdF c.op c.who c.key c.new c.kind c.at' c.st c.da c.wa)) := errV_no hf
    rw [he]
    have HE : Hid (errV (cmdF c.op c.who c.key c.new c.kind c.at' c.st c.da c.wa) = .iface 68 (.int .i64 (cmdF c.op c.who c.key c.new c.kind c.at' c.st c.da c.wa))) := he
    clear he hf
    replace A1 := A1.later hb3 A1.lt
    replace bX := bX.trans (hb3.mono bX.size)
    clear hb3
    have HL : Hid ((Instr.loadAt 23 (.pointer (some ⟨w.heap.size, 0, Option.none⟩))).run Tryd.prog W3 = .ok (.agg #[.int .i64 c.op, .int .i64 c.who, .int .i64 c.key, .int .i64 c.new, .int .i64 c.kind, .int .i64 c.at', .bool c.st, .string c.da, .string c.wa]) W3) := load_cmd A1 rfl
    go_wp2_with (with_reducible refine wl_load HL.out rfl rfl ?_)
    clear HL
    refine (check_any c.op c.who c.key c.new c.kind c.at' c.st c.da c.wa hwf hd hw W3).mono ?_
    rintro e W4 ⟨rfl, hb4⟩
    rw [HE.out]
    replace bX := bX.trans (hb4.mono bX.size)
    clear hb4 A1
    go_wp2_with fail
    refine (number_of _ W4).mono ?_
    rintro e _ ⟨rfl, rfl⟩
    go_wp2_with fail
    refine (number_of _ W4).mono ?_
    rintro e _ ⟨rfl, rfl⟩
    go_wp2
    go_ret
    exact ⟨rfl, bX⟩
  have F : Full c := full_of hf
  refine (text_ok c.op c.who c.key c.new c.kind c.at' c.st c.da c.wa hwf W2 (hL.later bX) hf).mono ?_
  rintro e W3 ⟨rfl, hb3⟩
  rw [show txtC ⟨c.op, c.who, c.key, c.new, c.kind, c.at', c.st, c.da, c.wa⟩ = txtC c from rfl]
  replace A1 := A1.later hb3 A1.lt
  replace bX := bX.trans (hb3.mono bX.size)
  clear hb3
  go_wp2_with fail
  refine (parse_any (txtC c) W3 (hL.later bX) (by have := txt_len F; omega)).mono ?_
  rintro e W4 ⟨⟨o, hop, hres⟩, hb4⟩
  have hg := guess_back F hop
  rw [hg] at hres
  rcases hres with ⟨_, _, rfl⟩ | ⟨hno, _⟩
  case inr => exact absurd ⟨hf, rfl⟩ hno
  replace A1 := A1.later hb4 A1.lt
  replace bX := bX.trans (hb4.mono bX.size)
  clear hb4 hop hg hf F
  obtain ⟨Y, hY⟩ : ∃ Y, Y = W4.alloc (.cells #[.int .i64 c.op, .int .i64 c.who, .int .i64 c.key, .int .i64 c.new, .int .i64 c.kind, .int .i64 c.at', .bool c.st, .string c.da, .string c.wa] 23) := ⟨_, rfl⟩
  have A5 : At Y W4.heap.size (cl c) 23 := by rw [hY]; exact heap_alloc_new W4 _
  have bY : Below W4.heap.size W4 Y := by rw [hY]; exact (Below.refl _ _).alloc (Nat.le_refl _) _
  replace A1 := A1.later bY A1.lt
  replace bX := bX.trans (bY.mono bX.size)
  have HL1 : Hid ((Instr.loadAt 23 (.pointer (some ⟨w.heap.size, 0, Option.none⟩))).run Tryd.prog Y = .ok (.agg #[.int .i64 c.op, .int .i64 c.who, .int .i64 c.key, .int .i64 c.new, .int .i64 c.kind, .int .i64 c.at', .bool c.st, .string c.da, .string c.wa]) Y) := load_cmd A1 rfl
  have HL5 : Hid ((Instr.loadAt 23 (.pointer (some ⟨W4.heap.size, 0, Option.none⟩))).run Tryd.prog Y = .ok (.agg #[.int .i64 c.op, .int .i64 c.who, .int .i64 c.key, .int .i64 c.new, .int .i64 c.kind, .int .i64 c.at', .bool c.st, .string c.da, .string c.wa]) Y) := load_cmd A5 rfl
  clear A1 A5 bY
  simp only [cl, cmdL]
  go_upto_region 10 with fail
  rw [← hY]
  clear hY
  go_wp2_with (first | (with_reducible refine wl_load HL5.out rfl rfl ?_) | (with_reducible refine wl_load HL1.out rfl rfl ?_))
  go_ret
  exact ⟨by simp, bX⟩

theorem gpow : Tryd.prog.globalNamed "internal/strconv.uint64pow10" = some 0 := by kernel_rfl
theorem gsyn : Tryd.prog.globalNamed "strconv.ErrSyntax" = some 2 := by kernel_rfl
theorem grng : Tryd.prog.globalNamed "strconv.ErrRange" = some 3 := by kernel_rfl
theorem laid_of {W : World} (h : laidMetH Tryd.prog Rows.topCodeRow.laid W) (hs : W.ShapedOpen Tryd.prog) : Laid W := by
  have ht := h.filter (fun x => x.1 == "internal/strconv.uint64pow10")
  rw [show Rows.topCodeRow.laid.filter (fun x => x.1 == "internal/strconv.uint64pow10") = [("internal/strconv.uint64pow10", Lib.tabData .u64 Lib.pow10Tab)] from by kernel_rfl, MakeChecks.laidMetH_plain _ _ _ (by kernel_rfl)] at ht
  have hy := h.filter (fun x => x.1 == "strconv.ErrSyntax")
  rw [show Rows.topCodeRow.laid.filter (fun x => x.1 == "strconv.ErrSyntax") = [("strconv.ErrSyntax", Rows.laid_strconv_ErrSyntax)] from by kernel_rfl, MakeChecks.laidMetH_plain _ _ _ (by kernel_rfl)] at hy
  have hr := h.filter (fun x => x.1 == "strconv.ErrRange")
  rw [show Rows.topCodeRow.laid.filter (fun x => x.1 == "strconv.ErrRange") = [("strconv.ErrRange", Rows.laid_strconv_ErrRange)] from by kernel_rfl, MakeChecks.laidMetH_plain _ _ _ (by kernel_rfl)] at hr
  exact ⟨Lib.tabIs_of_head gpow (by kernel_rfl) Tryd.underlying129 Tryd.underlying111 (by kernel_rfl) (by kernel_rfl) ht, sentinel gsyn (by kernel_rfl) Tryd.underlying27 rfl hy, sentinel grng (by kernel_rfl) Tryd.underlying27 rfl hr, maxlen hs⟩
theorem door_met (os : Os) (args : Array Value) : laidMetH Tryd.prog Rows.topCodeRow.laid ((World.doorLaid Tryd.prog 4000 os).forCall (fun _ _ => 0) ⟨#[], args, []⟩).memory :=
  laidMetH_of_parts3 (fuel := 8) (laidMet_of_run' 8 (by kernel_rfl) (by kernel_rfl)) (by kernel_rfl) (by kernel_rfl)

set_option maxRecDepth 100000 in
theorem topCode_lifted (os : Os) (started : os.Started) (H : Type) (enc : TypeId × Value → H) :
    ReturnsInHanded {} Tryd.checked os 4 .any (fun w args => (Rows.topCodeSpec.pre enc Tryd.prog Tryd.f4 [] false w args ∧ laidMetH Tryd.prog Rows.topCodeRow.laid w) ∧ sizedMet enc Tryd.prog Tryd.f4 (OpenSpec.ofChange Rows.topCodeSpec) false w args)
      (Rows.topCodeSpec.post enc Tryd.prog Tryd.f4 false true false false) := by
  refine lift_both (C := Tryd.checked) own started (by kernel_rfl) Tryd.func4
    (ChangeSpec.witness_shaped (enc := enc) (C := Tryd.checked) (os := os) (X := fun w _ => laidMetH Tryd.prog Rows.topCodeRow.laid w) false (World.doorLaid Tryd.prog 4000 os) #[.agg #[.int .i64 0, .int .i64 0, .int .i64 0, .int .i64 0, .int .i64 0, .int .i64 0, .bool false, .string ⟨#[]⟩, .string ⟨#[]⟩]] 8 rfl (World.shaped_of_RefB (by kernel_rfl) (by kernel_rfl)) (by kernel_rfl) (by kernel_rfl) (by kernel_rfl) (door_met os _)) ?_
  intro W base args ds gs before hval0 hW hL hsh
  have hval : ∀ (j : Nat) t v, Tryd.f4.params[j]? = some t → args[j]? = some v → Value.okWide Tryd.prog W .any base t v := hval0
  have hW' := hW
  obtain ⟨p, q, hA0, hV, rfl, hfz, hnd⟩ := hW
  have hA : DataW.TrodAll enc Tryd.prog W 0 (fun _ => true) true Tryd.f4.params.toList args.toList ds p := hA0
  rw [Tryd.params4] at hA hval
  obtain ⟨v0, d0, rfl, rfl, h0⟩ := trodAll_one hA
  obtain ⟨rfl, rfl⟩ := trodVars_none hV
  have k0 := h0
  have lt0 : ∀ x ∈ p, x.block < W.heap.size := by obtain ⟨m, hm⟩ := k0; exact DataW.trod_lt m _ _ _ hm
  obtain ⟨c, rfl, hwf, hd, hw⟩ := open_command (hval 0 23 v0 rfl rfl) h0
  clear hA0 hval0
  refine (topCode_walk c W (laid_of hL hsh) hwf hd hw).mono fun e W' ⟨he, bel⟩ => ?_
  subst he
  exact ⟨_, rfl, _, _, _, [], _, [], hW', trodAll_mk1 (shut_bool Tryd.underlying4 _), (trodAll_cons_mk (Below.trod laidOut (by kernel_rfl) (of_decide_eq_true (by kernel_rfl)) k0 bel lt0) trodAll_mk0), rfl, bel.frame _, fun h => by cases h⟩

theorem topCode_holds : Rows.TopCodeSaid :=
  OpenClaim.holds_of_wide 4 Tryd.f4 rfl rfl rfl rfl rfl rfl rfl ⟨rfl, rfl, rfl, rfl, rfl⟩ rfl rfl rfl rfl rfl (by kernel_rfl) Tryd.func4 (by kernel_rfl)
    (of_decide_eq_true (by kernel_rfl)) (by unfold Func.isWrapper; first | (rw [if_pos (by decide +kernel)]; kernel_rfl) | (rw [if_neg (by decide +kernel)]; exact ⟨rfl, rfl⟩))
    (fun os started H enc _ => topCode_lifted os started H enc)

theorem topCode_card : Rows.TopCodeCardSaid :=
  Claim7.holds_tied_plain_at .later [] [.data, .data, .data, .sentinel, .sentinel] true Rows.topCodeCard.stood.harness true
    topCode_holds (fun _ h => by cases h) (by kernel_rfl) (fun _ h => by cases h) topCode_row_tie rfl ⟨rfl, rfl⟩ (by kernel_rfl) rfl
    (fun f fn hf hfn => by
      obtain rfl : f = 4 := Option.some.inj ((show Tryd.prog.funcNamed Rows.topCodeRow.func = some 4 by kernel_rfl).symm.trans hf) |>.symm
      obtain rfl : fn = Tryd.f4 := (Option.some.inj (Tryd.func4.symm.trans hfn)).symm
      exact ⟨by kernel_rfl, fun j t ht => by
        rw [Tryd.params4] at ht
        match j, ht with
        | 0, ht =>
          obtain rfl := Option.some.inj (show some 23 = some t from ht)
          show Tryd.prog.wantsStandIn 23 = false
          kernel_rfl
        | j + 1, ht => simp at ht⟩)
    (by kernel_rfl)
#print axioms topCode_card
end Go.Proofs.YthkckogbjdbnnaaDoor
