/- Proved: for every state, everybody and either wish, the law RightsSays returns true and leaves its arguments as they were; no condition beyond the row's own. -/
import Derived.Test.YtpbfekcbjdgnjaaSFault
import Derived.Test.YtpbfekcbjdgnjaaFacts
import Derived.Test.YtpbfekcbjdgnjaaOpen
import Derived.Deep.RegionHeld3
namespace Go.Proofs.Ytpbfekcbjdgnjaa
open Go.ChangeShapes Go.WideShapes Go.ChangeAt Go.RowKit Go.Deep

set_option maxHeartbeats 1000000 in
theorem rightsSays_walk (g t h : Int) (a : Option Addr) (n c : Nat) (y : Bool) (l : List (Int × Int)) (who : Int) (wr : Bool) (w : World) (hr : Row w a n l) :
    Calls Try.prog 3 #[.agg #[.int .i64 g, .slice a n c, .int .i64 t, .int .i64 h, .bool y], .int .i64 who, .bool wr] w fun e w' => e = .returned (.bool true) ∧ Below w.heap.size w w' := by
  have m1 : mayB 0 0 [] 1 true = true := rfl
  have m2 : mayB 3 1 [(1, 5)] 2 false = false := rfl
  go_enter Try.func3, Try.ntmps3
  go_wp2_with fail
  refine (may_any 0 0 0 Option.none 0 0 false [] 1 true _ (row_nil _)).mono ?_
  rintro e w1 ⟨rfl, hb1⟩
  have x1 : B5 w1 w.heap.size _ _ _ _ _ := box5 hb1
  have bw1 := box_trans hb1
  clear hb1
  go_wp2_with fail
  refine (may_any 0 3 1 (some ⟨w1.heap.size, 0, Option.none⟩) 1 1 false [(1, 5)] 2 false _ (row_one w1 1 5 27)).mono ?_
  rintro e w2 ⟨rfl, hb2⟩
  have x2 := x1.later (box_trans hb2)
  have bw2 := bw1.trans ((box_trans hb2).mono bw1.size)
  clear hb2 x1
  obtain ⟨c0, c1, c2, c3, c4⟩ := id x2
  go_wp2_with fail
  refine (light_any g t h a n c y _ hr.2.1).mono ?_
  rintro e w3 ⟨rfl, hb3⟩
  have x3 := x2.later hb3
  have bw3 := bw2.trans (hb3.mono bw2.size)
  clear hb3 x2 c0 c1 c2 c3 c4
  obtain ⟨c0, c1, c2, c3, c4⟩ := id x3
  by_cases hn6 : n ≤ 6
  case neg =>
    have hn6' : decide (n ≤ 6) = false := by simpa using hn6
    go_wp2
    go_ret
    exact ⟨rfl, bw3⟩
  have hn6' : decide (n ≤ 6) = true := by simpa using hn6
  go_wp2_with fail
  refine (stateFault_any g t h a n c y l _ (hr.later bw3)).mono ?_
  rintro e w4 ⟨rfl, hb4⟩
  have x4 := x3.later hb4
  have bw4 := bw3.trans (hb4.mono bw3.size)
  clear hb4 x3 c0 c1 c2 c3 c4
  obtain ⟨c0, c1, c2, c3, c4⟩ := id x4
  by_cases hf : 0 < fault g t h l
  case pos =>
    go_wp2
    go_ret
    exact ⟨rfl, bw4⟩
  have hf' : decide (0 < fault g t h l) = false := by simpa using hf
  by_cases hw1 : who < 1
  case pos =>
    go_wp2
    go_ret
    exact ⟨rfl, bw4⟩
  have hw1' : decide (who < 1) = false := by simpa using hw1
  by_cases hw4 : 4 < who
  case pos =>
    go_wp2
    go_ret
    exact ⟨rfl, bw4⟩
  have hw4' : decide (4 < who) = false := by simpa using hw4
  have HM : Hid (mayB t h l who wr = rmayB t h l who wr) := may_same (g := g) (by have := fault_nonneg g t h l; omega) who wr
  go_wp2_with fail
  clear x4 m1 m2 hn6 hn6' hf hf' hw1 hw1' hw4 hw4'
  go_region_held3 (fun w' => w'.cell? ⟨w.heap.size, 0, Option.none⟩ = some (.int .i64 g) ∧ w'.cell? ⟨w.heap.size, 1, Option.none⟩ = some (.slice a n c) ∧ w'.cell? ⟨w.heap.size, 2, Option.none⟩ = some (.int .i64 t) ∧ w'.cell? ⟨w.heap.size, 3, Option.none⟩ = some (.int .i64 h) ∧ w'.cell? ⟨w.heap.size, 4, Option.none⟩ = some (.bool y) ∧ Below w.heap.size w w')
    (first | exact ⟨c0, c1, c2, c3, c4, bw4⟩ | exact keep5 ((Below.refl _ _).drew) ⟨c0, c1, c2, c3, c4, bw4⟩ | exact keep5 (by assumption) (by assumption) | exact keep5 ((Below.refl _ _).drew) (by assumption))
    (first
      | (go_at_call 8; refine (may_any g t h a n c y l who wr _ (by exact hr.later (heldBelow (by assumption)))).mono ?_; rintro e w5 ⟨rfl, hb5⟩)
      | (go_at_call 11; refine (rmay_any g t h a n c y l who wr _ (by exact hr.later (heldBelow (by assumption)))).mono ?_; rintro e w6 ⟨rfl, hb6⟩))
  go_wp2
  go_ret
  exact ⟨ret_bool (by rw [HM.out]; simp), heldBelow (by assumption)⟩

set_option maxRecDepth 100000 in
theorem rightsSays_lifted (os : Os) (started : os.Started) (H : Type) (enc : TypeId × Value → H) :
    ReturnsInHanded {} Try.checked os 3 .any (Rows.rightsSaysSpec.pre6 enc Try.prog Try.f3 Rows.rightsSaysRow.domain false) (Rows.rightsSaysSpec.post enc Try.prog Try.f3 false true false false) := by
  refine returnsInHanded_of_change (C := Try.checked) own started (by kernel_rfl) Try.func3
    (ChangeSpec.witness6 (enc := enc) (C := Try.checked) false ⟨#[], #[.agg #[.int .i64 0, .slice Option.none 0 0, .int .i64 0, .int .i64 0, .bool false], .int .i64 0, .bool false], []⟩ 8 (by kernel_rfl) (by kernel_rfl) (by kernel_rfl) (by kernel_rfl)) ?_
  intro W base args ds gs before hval0 hW hcnd _
  have hval : ∀ (j : Nat) t v, Try.f3.params[j]? = some t → args[j]? = some v → Value.okWide Try.prog W .any base t v := hval0
  have hW' := hW
  obtain ⟨p, q, hA0, hV, rfl, hfz, hnd⟩ := hW
  have hA : DataW.TrodAll enc Try.prog W 0 (fun _ => true) true Try.f3.params.toList args.toList ds p := hA0
  rw [Try.params3] at hA hval
  obtain ⟨v0, v1, v2, d0, d1, d2, p0, p1, p2, rfl, rfl, rfl, h0, h1, h2⟩ := trodAll_three hA
  obtain ⟨rfl, rfl⟩ := trodVars_none hV
  have k0 := h0
  have lt0 : ∀ x ∈ p0, x.block < W.heap.size := by obtain ⟨m, hm⟩ := k0; exact DataW.trod_lt m _ _ _ hm
  obtain ⟨g, a, n, c, t, hd, y, l, rfl, hrow⟩ := open_state (hval 0 24 v0 rfl rfl) h0
  obtain ⟨who, rfl, rfl, rfl, w1⟩ := open_int Try.underlying3 (hval 1 3 v1 rfl rfl) h1
  obtain ⟨b, rfl, rfl, rfl⟩ := open_bool Try.underlying4 (hval 2 4 v2 rfl rfl) h2
  clear hA0 hval0
  refine (rightsSays_walk g t hd a n c y l who b W hrow).mono fun e W' ⟨he, bel⟩ => ?_
  subst he
  exact ⟨_, rfl, _, _, _, [], _, [], hW', trodAll_mk1 (shut_bool Try.underlying4 _), (trodAll_cons_mk (Below.trod laidOut (by kernel_rfl) (of_decide_eq_true (by kernel_rfl)) k0 bel lt0) (trodAll_cons_mk (shut_int Try.underlying3 w1) (trodAll_cons_mk (shut_bool Try.underlying4 _) trodAll_mk0))), rfl, bel.frame _, fun h => by cases h⟩

theorem rightsSays_holds : Rows.RightsSaysSaid :=
  OpenClaim.holds_of_wide 3 Try.f3 rfl rfl rfl rfl rfl rfl rfl ⟨rfl, rfl, rfl, rfl, rfl⟩ rfl rfl rfl rfl rfl (by kernel_rfl) Try.func3 (by kernel_rfl)
    (of_decide_eq_true (by kernel_rfl)) (by unfold Func.isWrapper; first | (rw [if_pos (by decide +kernel)]; kernel_rfl) | (rw [if_neg (by decide +kernel)]; exact ⟨rfl, rfl⟩))
    (fun os started H enc _ => rightsSays_lifted os started H enc)
#print axioms rightsSays_holds
end Go.Proofs.Ytpbfekcbjdgnjaa
