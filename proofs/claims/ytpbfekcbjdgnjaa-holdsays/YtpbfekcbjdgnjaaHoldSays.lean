/- Proved: for every state, anybody and any key, the law HoldSays returns true and leaves its arguments as they were; no condition beyond the row's own. -/
import Derived.Test.YtpbfekcbjdgnjaaHMath
import Derived.Test.YtpbfekcbjdgnjaaSame
import Derived.Test.YtpbfekcbjdgnjaaOpen
import Derived.Deep.RegionHeld3
import Derived.Deep.DrawnRows
namespace Go.Proofs.Ytpbfekcbjdgnjaa
open Go.ChangeShapes Go.WideShapes Go.ChangeAt Go.RowKit Go.Deep
attribute [local go_sem ↓] Go.wp_at_zero Go.wp_at_succ

set_option maxHeartbeats 2000000 in
theorem holds_closed (w : World) : Calls Try.prog 15 #[] w fun e w' => e = .returned (.bool true) ∧ Below w.heap.size w w' := by
  have hwl : withL [] 2 7 = [(2, 7)] := by decide
  have hk7 : keyOf [(2, 7)] 2 = 7 := by decide
  have hf0 : fault 0 0 0 [(2, 7)] = 0 := by decide
  go_enter Try.func15, Try.ntmps15
  go_wp2_with fail
  refine (with_any 0 0 0 Option.none 0 0 false [] 2 7 _ (row_nil _) (by decide)).mono ?_
  rintro e w1 ⟨a1, n1, c1, rfl, hr1, hb1⟩
  rw [hwl] at hr1
  obtain rfl : n1 = 1 := hr1.1.symm
  have HR : Hid (Row w1 a1 1 [(2, 7)]) := hr1
  clear hr1 hwl
  go_wp2_with fail
  refine (key_any 0 0 0 a1 1 c1 false [(2, 7)] 2 _ (HR.out.later ((Below.refl _ _).alloc (Nat.le_refl _) _))).mono ?_
  rintro e w2 ⟨rfl, hb2⟩
  have x2 : B5 w2 w1.heap.size _ _ _ _ _ := box5 hb2
  have bw2 := hb1.trans ((box_trans hb2).mono hb1.size)
  have hr2 := HR.out.later (box_trans hb2)
  have HR2 : Hid (Row w2 a1 1 [(2, 7)]) := hr2
  clear hb2 hr2
  obtain ⟨c0, c1', c2, c3, c4⟩ := id x2
  go_wp2_with fail
  refine (check_any 0 0 0 a1 1 c1 false [(2, 7)] _ HR2.out).mono ?_
  rintro e w3 ⟨rfl, hb3⟩
  rw [hf0]
  go_wp2_with fail
  refine (same_any 0 (by decide) _).mono ?_
  rintro e w4 ⟨rfl, rfl⟩
  go_wp2
  go_ret
  exact ⟨rfl, bw2.trans (hb3.mono bw2.size)⟩

set_option maxHeartbeats 20000000 in
theorem holdSays_walk (g t h : Int) (a : Option Addr) (n c : Nat) (y : Bool) (l : List (Int × Int)) (who key : Int) (w : World) (hr : Row w a n l) :
    Calls Try.prog 6 #[.agg #[.int .i64 g, .slice a n c, .int .i64 t, .int .i64 h, .bool y], .int .i64 who, .int .i64 key] w fun e w' => e = .returned (.bool true) ∧ Below w.heap.size w w' := by
  go_enter Try.func6, Try.ntmps6
  go_wp2_with fail
  refine (holds_closed _).mono ?_
  rintro e w1 ⟨rfl, hb1⟩
  have x1 : B5 w1 w.heap.size _ _ _ _ _ := box5 hb1
  have bw1 := box_trans hb1
  clear hb1
  obtain ⟨c0, c1, c2, c3, c4⟩ := id x1
  go_wp2_with fail
  refine (light_any g t h a n c y _ hr.2.1).mono ?_
  rintro e w2 ⟨rfl, hb2⟩
  have x2 := x1.later hb2
  have bw2 := bw1.trans (hb2.mono bw1.size)
  clear hb2 x1 c0 c1 c2 c3 c4
  obtain ⟨c0, c1, c2, c3, c4⟩ := id x2
  by_cases hn6 : n ≤ 6
  case neg =>
    have hn6' : decide (n ≤ 6) = false := by simpa using hn6
    go_wp2
    go_ret
    exact ⟨rfl, bw2⟩
  have hn6' : decide (n ≤ 6) = true := by simpa using hn6
  go_wp2_with fail
  refine (stateFault_any g t h a n c y l _ (hr.later bw2)).mono ?_
  rintro e w3 ⟨rfl, hb3⟩
  have x3 := x2.later hb3
  have bw3 := bw2.trans (hb3.mono bw2.size)
  clear hb3 x2 c0 c1 c2 c3 c4
  obtain ⟨c0, c1, c2, c3, c4⟩ := id x3
  go_wp2_with fail
  refine (check_any g t h a n c y l _ (hr.later bw3)).mono ?_
  rintro e w4 ⟨rfl, hb4⟩
  have x4 := x3.later hb4
  have bw4 := bw3.trans (hb4.mono bw3.size)
  clear hb4 x3 c0 c1 c2 c3 c4
  obtain ⟨c0, c1, c2, c3, c4⟩ := id x4
  have hfn := fault_nonneg g t h l
  go_wp2_with fail
  refine (same_any (fault g t h l) hfn _).mono ?_
  rintro e w5 ⟨rfl, rfl⟩
  by_cases hf : 0 < fault g t h l
  case pos =>
    go_wp2
    go_ret
    exact ⟨rfl, bw4⟩
  have hf' : decide (0 < fault g t h l) = false := by simpa using hf
  have HF : Hid (fault g t h l = 0) := by show _ = _; omega
  by_cases hwho1 : who < 1
  case pos =>
    go_wp2
    go_ret
    exact ⟨rfl, bw4⟩
  have hwho1' : decide (who < 1) = false := by simpa using hwho1
  by_cases hwho4 : 4 < who
  case pos =>
    go_wp2
    go_ret
    exact ⟨rfl, bw4⟩
  have hwho4' : decide (4 < who) = false := by simpa using hwho4
  by_cases hkey1 : key < 0
  case pos =>
    go_wp2
    go_ret
    exact ⟨rfl, bw4⟩
  have hkey1' : decide (key < 0) = false := by simpa using hkey1
  by_cases hkey4 : 999 < key
  case pos =>
    go_wp2
    go_ret
    exact ⟨rfl, bw4⟩
  have hkey4' : decide (999 < key) = false := by simpa using hkey4
  have hhs : rholdsB t h l who = holdsB t h l who := (holds_same HF.out who).symm
  have HWL : Hid (rwith l who key = withL l who key) := (withL_eq (fault_rf HF.out).1 who key).symm
  cases h7 : (t == 7)
  · have hal : allB t = (t == 8) := by simp [allB, h7]
    go_wp2_with fail
    clear x4 hf hf' hfn hwho1 hwho1' hwho4 hwho4' hkey1 hkey1' hkey4 hkey4'
    go_region_held3 (fun w' => w'.cell? ⟨w.heap.size, 0, Option.none⟩ = some (.int .i64 g) ∧ w'.cell? ⟨w.heap.size, 1, Option.none⟩ = some (.slice a n c) ∧ w'.cell? ⟨w.heap.size, 2, Option.none⟩ = some (.int .i64 t) ∧ w'.cell? ⟨w.heap.size, 3, Option.none⟩ = some (.int .i64 h) ∧ w'.cell? ⟨w.heap.size, 4, Option.none⟩ = some (.bool y) ∧ Below w.heap.size w w')
      (first | exact ⟨c0, c1, c2, c3, c4, bw4⟩ | exact keep5 ((Below.refl _ _).drew) ⟨c0, c1, c2, c3, c4, bw4⟩ | exact keep5 (by assumption) (by assumption) | exact keep5 ((Below.refl _ _).drew) (by assumption))
      (first
      | (go_at_call 14; refine (key_any g t h a n c y l who _ (by exact hr.later (heldBelow (by assumption)))).mono ?_; rintro e v1 ⟨rfl, hc1⟩)
      | (go_at_call 17; refine (keyOf_any g t h a n c y l who _ (by exact hr.later (heldBelow (by assumption)))).mono ?_; rintro e v2 ⟨rfl, hc2⟩)
      | (go_at_call 13; refine (holds_any g t h a n c y l who _ (by exact hr.later (heldBelow (by assumption)))).mono ?_; rintro e v3 ⟨rfl, hc3⟩)
      | (go_at_call 18; refine (rholds_any g t h a n c y l who _ (by exact hr.later (heldBelow (by assumption)))).mono ?_; rintro e v4 ⟨rfl, hc4⟩)
      | (go_at_call 19; refine (all_any g t h a n c y _).mono ?_; rintro e v5 ⟨rfl, hc5⟩)
      | (go_at_call 21; refine (with_any g t h a n c y l who key _ (by exact hr.later (heldBelow (by assumption))) (by omega)).mono ?_; rintro e v6 ⟨a6, n6, k6, rfl, hr6, hc6⟩; have HR6 : Hid (Row v6 a6 n6 (withL l who key)) := hr6; clear hr6)
      | (go_at_call 22; refine (rwith_any g t h a n c y l who key _ (by exact hr.later (heldBelow (by assumption))) (by omega)).mono ?_; rintro e v7 ⟨a7, n7, k7, rfl, hr7, hc7⟩; rw [HWL.out] at hr7; have HR7 : Hid (Row v7 a7 n7 (withL l who key)) := hr7; have HR67 : Hid (Row v7 a6 n6 (withL l who key)) := HR6.out.later hc7; clear hr7)
      | (go_at_call 20; refine (sameState_any g t h a6 a7 n6 n7 k6 k7 y (withL l who key) _ HR67.out HR7.out).mono ?_; rintro e v8 ⟨rfl, hc8⟩)
      | (go_at_call 24; refine (others_any g t h a n c y l who _ (by exact hr.later (heldBelow (by assumption))) (by omega)).mono ?_; rintro e v9 ⟨a9, n9, k9, rfl, hr9, hc9⟩; have HR9 : Hid (Nums v9 a9 n9 (othersL l who)) := hr9; clear hr9)
      | (go_at_call 25; refine (rothers_any g t h a n c y l who _ (by exact hr.later (heldBelow (by assumption))) (by omega)).mono ?_; rintro e v10 ⟨a10, n10, k10, rfl, hr10, hc10⟩; have HR10 : Hid (Nums v10 a10 n10 (othersL l who)) := hr10; have HR90 : Hid (Nums v10 a9 n9 (othersL l who)) := HR9.out.later hc10; clear hr10)
      | (go_at_call 23; refine (sameNums_any a9 a10 n9 n10 k9 k10 (othersL l who) _ HR90.out HR10.out).mono ?_; rintro e v11 ⟨rfl, hc11⟩))
    go_wp2
    go_ret
    exact ⟨rfl, heldBelow (by assumption)⟩
  · have hal : allB t = true := by simp [allB, h7]
    go_wp2_with fail
    clear x4 hf hf' hfn hwho1 hwho1' hwho4 hwho4' hkey1 hkey1' hkey4 hkey4'
    go_region_held3 (fun w' => w'.cell? ⟨w.heap.size, 0, Option.none⟩ = some (.int .i64 g) ∧ w'.cell? ⟨w.heap.size, 1, Option.none⟩ = some (.slice a n c) ∧ w'.cell? ⟨w.heap.size, 2, Option.none⟩ = some (.int .i64 t) ∧ w'.cell? ⟨w.heap.size, 3, Option.none⟩ = some (.int .i64 h) ∧ w'.cell? ⟨w.heap.size, 4, Option.none⟩ = some (.bool y) ∧ Below w.heap.size w w')
      (first | exact ⟨c0, c1, c2, c3, c4, bw4⟩ | exact keep5 ((Below.refl _ _).drew) ⟨c0, c1, c2, c3, c4, bw4⟩ | exact keep5 (by assumption) (by assumption) | exact keep5 ((Below.refl _ _).drew) (by assumption))
      (first
      | (go_at_call 14; refine (key_any g t h a n c y l who _ (by exact hr.later (heldBelow (by assumption)))).mono ?_; rintro e v1 ⟨rfl, hc1⟩)
      | (go_at_call 17; refine (keyOf_any g t h a n c y l who _ (by exact hr.later (heldBelow (by assumption)))).mono ?_; rintro e v2 ⟨rfl, hc2⟩)
      | (go_at_call 13; refine (holds_any g t h a n c y l who _ (by exact hr.later (heldBelow (by assumption)))).mono ?_; rintro e v3 ⟨rfl, hc3⟩)
      | (go_at_call 18; refine (rholds_any g t h a n c y l who _ (by exact hr.later (heldBelow (by assumption)))).mono ?_; rintro e v4 ⟨rfl, hc4⟩)
      | (go_at_call 19; refine (all_any g t h a n c y _).mono ?_; rintro e v5 ⟨rfl, hc5⟩)
      | (go_at_call 21; refine (with_any g t h a n c y l who key _ (by exact hr.later (heldBelow (by assumption))) (by omega)).mono ?_; rintro e v6 ⟨a6, n6, k6, rfl, hr6, hc6⟩; have HR6 : Hid (Row v6 a6 n6 (withL l who key)) := hr6; clear hr6)
      | (go_at_call 22; refine (rwith_any g t h a n c y l who key _ (by exact hr.later (heldBelow (by assumption))) (by omega)).mono ?_; rintro e v7 ⟨a7, n7, k7, rfl, hr7, hc7⟩; rw [HWL.out] at hr7; have HR7 : Hid (Row v7 a7 n7 (withL l who key)) := hr7; have HR67 : Hid (Row v7 a6 n6 (withL l who key)) := HR6.out.later hc7; clear hr7)
      | (go_at_call 20; refine (sameState_any g t h a6 a7 n6 n7 k6 k7 y (withL l who key) _ HR67.out HR7.out).mono ?_; rintro e v8 ⟨rfl, hc8⟩)
      | (go_at_call 24; refine (others_any g t h a n c y l who _ (by exact hr.later (heldBelow (by assumption))) (by omega)).mono ?_; rintro e v9 ⟨a9, n9, k9, rfl, hr9, hc9⟩; have HR9 : Hid (Nums v9 a9 n9 (othersL l who)) := hr9; clear hr9)
      | (go_at_call 25; refine (rothers_any g t h a n c y l who _ (by exact hr.later (heldBelow (by assumption))) (by omega)).mono ?_; rintro e v10 ⟨a10, n10, k10, rfl, hr10, hc10⟩; have HR10 : Hid (Nums v10 a10 n10 (othersL l who)) := hr10; have HR90 : Hid (Nums v10 a9 n9 (othersL l who)) := HR9.out.later hc10; clear hr10)
      | (go_at_call 23; refine (sameNums_any a9 a10 n9 n10 k9 k10 (othersL l who) _ HR90.out HR10.out).mono ?_; rintro e v11 ⟨rfl, hc11⟩))
    go_wp2
    go_ret
    exact ⟨rfl, heldBelow (by assumption)⟩

set_option maxRecDepth 100000 in
theorem holdSays_lifted (os : Os) (started : os.Started) (H : Type) (enc : TypeId × Value → H) :
    ReturnsInHanded {} Try.checked os 6 .any (Rows.holdSaysSpec.pre6 enc Try.prog Try.f6 Rows.holdSaysRow.domain false) (Rows.holdSaysSpec.post enc Try.prog Try.f6 false true false false) := by
  refine returnsInHanded_of_change (C := Try.checked) own started (by kernel_rfl) Try.func6
    (ChangeSpec.witness6 (enc := enc) (C := Try.checked) false ⟨#[], #[.agg #[.int .i64 0, .slice Option.none 0 0, .int .i64 0, .int .i64 0, .bool false], .int .i64 0, .int .i64 0], []⟩ 8 (by kernel_rfl) (by kernel_rfl) (by kernel_rfl) (by kernel_rfl)) ?_
  intro W base args ds gs before hval0 hW hcnd _
  have hval : ∀ (j : Nat) t v, Try.f6.params[j]? = some t → args[j]? = some v → Value.okWide Try.prog W .any base t v := hval0
  have hW' := hW
  obtain ⟨p, q, hA0, hV, rfl, hfz, hnd⟩ := hW
  have hA : DataW.TrodAll enc Try.prog W 0 (fun _ => true) true Try.f6.params.toList args.toList ds p := hA0
  rw [Try.params6] at hA hval
  obtain ⟨v0, v1, v2, d0, d1, d2, p0, p1, p2, rfl, rfl, rfl, h0, h1, h2⟩ := trodAll_three hA
  obtain ⟨rfl, rfl⟩ := trodVars_none hV
  have k0 := h0
  have lt0 : ∀ x ∈ p0, x.block < W.heap.size := by obtain ⟨m, hm⟩ := k0; exact DataW.trod_lt m _ _ _ hm
  obtain ⟨g0, a0, n0, c0, t0, hd0, y0, l0, rfl, row0⟩ := open_state (hval 0 24 v0 rfl rfl) h0
  obtain ⟨x1, rfl, rfl, rfl, wf1⟩ := open_int Try.underlying3 (hval 1 3 v1 rfl rfl) h1
  obtain ⟨x2, rfl, rfl, rfl, wf2⟩ := open_int Try.underlying3 (hval 2 3 v2 rfl rfl) h2
  clear hA0 hval0
  refine (holdSays_walk g0 t0 hd0 a0 n0 c0 y0 l0 x1 x2 W row0).mono fun e W' ⟨he, bel⟩ => ?_
  subst he
  exact ⟨_, rfl, _, _, _, [], _, [], hW', trodAll_mk1 (shut_bool Try.underlying4 _), (trodAll_cons_mk (Below.trod laidOut (by kernel_rfl) (of_decide_eq_true (by kernel_rfl)) k0 bel lt0) (trodAll_cons_mk (shut_int Try.underlying3 wf1) (trodAll_cons_mk (shut_int Try.underlying3 wf2) trodAll_mk0))), rfl, bel.frame _, fun h => by cases h⟩

theorem holdSays_holds : Rows.HoldSaysSaid :=
  OpenClaim.holds_of_wide 6 Try.f6 rfl rfl rfl rfl rfl rfl rfl ⟨rfl, rfl, rfl, rfl, rfl⟩ rfl rfl rfl rfl rfl (by kernel_rfl) Try.func6 (by kernel_rfl)
    (of_decide_eq_true (by kernel_rfl)) (by unfold Func.isWrapper; first | (rw [if_pos (by decide +kernel)]; kernel_rfl) | (rw [if_neg (by decide +kernel)]; exact ⟨rfl, rfl⟩))
    (fun os started H enc _ => holdSays_lifted os started H enc)
#print axioms holdSays_holds
end Go.Proofs.Ytpbfekcbjdgnjaa
