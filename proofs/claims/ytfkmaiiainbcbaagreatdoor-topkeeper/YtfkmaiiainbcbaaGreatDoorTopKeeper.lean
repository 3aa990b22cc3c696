/- Proved: the tied card of the law TopKeeper: for every row of acts, fuse and word she returns true and leaves her arguments as they were, where the listed variables of the library hold what the program's own text lays there. -/
import Derived.Test.YtfkmaiiainbcbaaGreatDoorETop
import Derived.Test.YtfkmaiiainbcbaaGreatDoorKeepM
import Derived.Test.YtfkmaiiainbcbaaGreatDoorTie
import Derived.Test.YtfkmaiiainbcbaaGreatDoorCards
import Derived.Lib.LaidTab
import Derived.SevenTiedAt
import Derived.Lay
namespace Go.Proofs.YtfkmaiiainbcbaaGreatDoor
open Go.ChangeShapes Go.WideShapes Go.ChangeAt Go.RowKit Go.Maps

theorem topKeeper_met (os : Os) (args : Array Value) : laidMetH Tryz.prog Rows.topKeeperRow.laid ((World.laidAll Tryz.prog os Rows.topKeeperRow.laid).forCall (fun _ _ => 0) ⟨#[], args, []⟩).memory := by
  rw [MakeChecks.laidMetH_plain _ _ _ (by kernel_rfl)]
  exact laidMet_laidAll _ (by kernel_rfl) (by kernel_rfl)

set_option maxRecDepth 100000 in
theorem topKeeper_lifted (os : Os) (started : os.Started) (H : Type) (enc : TypeId × Value → H) :
    ReturnsInHanded {} Tryz.checked os 4 .any (fun w args => (Rows.topKeeperSpec.pre enc Tryz.prog Tryz.f4 [] false w args ∧ laidMetH Tryz.prog Rows.topKeeperRow.laid w) ∧ sizedMet enc Tryz.prog Tryz.f4 (OpenSpec.ofChange Rows.topKeeperSpec) false w args)
      (Rows.topKeeperSpec.post enc Tryz.prog Tryz.f4 false true false false) := by
  refine lift_both (C := Tryz.checked) own started (by kernel_rfl) Tryz.func4
    (ChangeSpec.witness_shaped (enc := enc) (C := Tryz.checked) (os := os) (X := fun w _ => laidMetH Tryz.prog Rows.topKeeperRow.laid w) false (World.laidAll Tryz.prog os Rows.topKeeperRow.laid) #[.slice Option.none 0 0, .int .i64 0, .int .u64 0] 8 (World.laidAll_os _ _ _) (World.shaped_of_ZipB (by kernel_rfl) (by kernel_rfl)) (by kernel_rfl) (by kernel_rfl) (by kernel_rfl) (topKeeper_met os _)) ?_
  intro W base args ds gs before hval0 hW hL hsh
  have hval : ∀ (j : Nat) t v, Tryz.f4.params[j]? = some t → args[j]? = some v → Value.okWide Tryz.prog W .any base t v := hval0
  have hW' := hW
  obtain ⟨p, q, hA0, hV, rfl, hfz, hnd⟩ := hW
  have hA : DataW.TrodAll enc Tryz.prog W 0 (fun _ => true) true Tryz.f4.params.toList args.toList ds p := hA0
  rw [Tryz.params4] at hA hval
  obtain ⟨v0, v1, v2, d0, d1, d2, p0, p1, p2, rfl, rfl, rfl, h0, h1, h2⟩ := trodAll_three hA
  obtain ⟨rfl, rfl⟩ := trodVars_none hV
  have k0 := h0
  have lt0 : ∀ x ∈ p0, x.block < W.heap.size := by obtain ⟨m, hm⟩ := k0; exact DataW.trod_lt m _ _ _ hm
  obtain ⟨a0, n0, c0, l0, rfl, row0⟩ := D.open_acts (hval 0 22 v0 rfl rfl) h0
  obtain ⟨x1, rfl, rfl, rfl, wf1⟩ := open_int Tryz.underlying3 (hval 1 3 v1 rfl rfl) h1
  obtain ⟨x2, rfl, rfl, rfl, wf2⟩ := open_int Tryz.underlying38 (hval 2 38 v2 rfl rfl) h2
  clear hA0 hval0
  refine (D.topKeeper_walk a0 n0 c0 l0 x1 x2 W (laid_any hL hsh (by kernel_rfl) (by kernel_rfl) (by kernel_rfl)) row0).mono fun e W' ⟨he, bel⟩ => ?_
  subst he
  exact ⟨_, rfl, _, _, _, [], _, [], hW', trodAll_mk1 (shut_bool Tryz.underlying4 _), (trodAll_cons_mk (Below.trod laidOut (by kernel_rfl) (of_decide_eq_true (by kernel_rfl)) k0 bel lt0) (trodAll_cons_mk (shut_int Tryz.underlying3 wf1) (trodAll_cons_mk (shut_int Tryz.underlying38 wf2) trodAll_mk0))), rfl, bel.frame _, fun h => by cases h⟩

theorem topKeeper_holds : Rows.TopKeeperSaid :=
  OpenClaim.holds_of_wide 4 Tryz.f4 rfl rfl rfl rfl rfl rfl rfl ⟨rfl, rfl, rfl, rfl, rfl⟩ rfl rfl rfl rfl rfl (by kernel_rfl) Tryz.func4 (by kernel_rfl)
    (of_decide_eq_true (by kernel_rfl)) (by unfold Func.isWrapper; first | (rw [if_pos (by decide +kernel)]; kernel_rfl) | (rw [if_neg (by decide +kernel)]; exact ⟨rfl, rfl⟩))
    (fun os started H enc _ => topKeeper_lifted os started H enc)

theorem topKeeper_card : Rows.TopKeeperCardSaid :=
  Claim7.holds_tied_plain_at .later [] [.data, .data, .data, .data, .sentinel, .sentinel, .pinned] true Rows.topKeeperCard.stood.harness true
    topKeeper_holds (fun _ h => by cases h) (by kernel_rfl) (fun _ h => by cases h) topKeeper_row_tie rfl ⟨rfl, rfl⟩ (by kernel_rfl) rfl
    (fun f fn hf hfn => by
      obtain rfl : f = 4 := Option.some.inj ((show Tryz.prog.funcNamed Rows.topKeeperRow.func = some 4 by kernel_rfl).symm.trans hf) |>.symm
      obtain rfl : fn = Tryz.f4 := (Option.some.inj (Tryz.func4.symm.trans hfn)).symm
      exact ⟨by kernel_rfl, fun j t ht => by
        rw [Tryz.params4] at ht
        match j, ht with
        | 0, ht =>
          obtain rfl := Option.some.inj (show some 22 = some t from ht)
          show Tryz.prog.wantsStandIn 22 = false
          kernel_rfl
        | 1, ht =>
          obtain rfl := Option.some.inj (show some 3 = some t from ht)
          show Tryz.prog.wantsStandIn 3 = false
          kernel_rfl
        | 2, ht =>
          obtain rfl := Option.some.inj (show some 38 = some t from ht)
          show Tryz.prog.wantsStandIn 38 = false
          kernel_rfl
        | j + 1 + 1 + 1, ht => simp at ht⟩)
    (by kernel_rfl)
#print axioms topKeeper_card
end Go.Proofs.YtfkmaiiainbcbaaGreatDoor
