/- Proved: for every state and any two, the law TopRights returns true and leaves its arguments as they were; no condition beyond the row's own. -/
import Derived.Test.YtpbfekcbjdgnjaaCheck
import Derived.Test.YtpbfekcbjdgnjaaOpen
namespace Go.Proofs.Ytpbfekcbjdgnjaa
open Go.ChangeShapes Go.WideShapes Go.ChangeAt Go.RowKit Go.Deep

theorem may_read {t h : Int} {l : List (Int × Int)} {who : Int} (hm : mayB t h l who true = true) : mayB t h l who false = true := by
  revert hm
  unfold mayB
  repeat (split <;> try simp_all)

/-- Who holds what one alone holds is known. -/
theorem holder_known {g t h : Int} {l : List (Int × Int)} (hf : fault g t h l = 0) (ht : t = 1 ∨ t = 3 ∨ t = 5 ∨ t = 6) : keyOf l h ≠ 0 := by
  obtain ⟨_, h2⟩ := fault_rf hf
  intro hk
  rcases ht with rfl | rfl | rfl | rfl <;> simp [tf, typeB, hk] at h2

theorem may_holds {g t h : Int} {l : List (Int × Int)} (hf : fault g t h l = 0) {who : Int} (hh : holdsB t h l who = true) : mayB t h l who true = true := by
  rcases tf_type (fault_rf hf).2 with rfl | rfl | rfl | rfl | rfl | rfl | rfl
  · rfl
  · simpa [mayB] using hh
  · simpa [mayB] using hh
  · have := holder_known hf (by decide)
    simp [holdsB, allB] at hh
    subst hh
    simpa [mayB] using this
  · have := holder_known hf (by decide)
    simp [holdsB, allB] at hh
    subst hh
    simpa [mayB] using this
  · simpa [holdsB, allB, mayB] using hh
  · simpa [holdsB, allB, mayB] using hh

theorem may_known {g t h : Int} {l : List (Int × Int)} (hf : fault g t h l = 0) {who other : Int} {wr : Bool} (hk : 0 < keyOf l who) (ho : keyOf l other = 0) (hm : mayB t h l other wr = true) : mayB t h l who wr = true := by
  have hk' : keyOf l who ≠ 0 := by omega
  rcases tf_type (fault_rf hf).2 with rfl | rfl | rfl | rfl | rfl | rfl | rfl
  · rfl
  · cases wr
    · rfl
    · simp [mayB, holdsB, allB] at hm
      subst hm
      exact absurd ho (holder_known hf (by decide))
  · simp [mayB, holdsB, allB] at hm
    subst hm
    exact absurd ho (holder_known hf (by decide))
  · simp [mayB, hk']
  · simp [mayB, hk']
  · simp [mayB, hk']
  · simp [mayB, hk']

theorem errV_0 : errV 0 = .nilIface := rfl
theorem errV_pos {f : Int} (h : f ≠ 0) : errV f = .iface 45 (.int .i64 f) := by simp [errV, h]

set_option maxHeartbeats 4000000 in
theorem topRights_walk (g t h : Int) (a : Option Addr) (n c : Nat) (y : Bool) (l : List (Int × Int)) (who other : Int) (w : World) (hr : Row w a n l) :
    Calls Try.prog 4 #[.agg #[.int .i64 g, .slice a n c, .int .i64 t, .int .i64 h, .bool y], .int .i64 who, .int .i64 other] w fun e w' => e = .returned (.bool true) ∧ Below w.heap.size w w' := by
  have m1 : mayB 0 0 [] 3 true = true := rfl
  go_enter Try.func4, Try.ntmps4
  go_wp2_with fail
  refine (may_any 0 0 0 Option.none 0 0 false [] 3 true _ (row_nil _)).mono ?_
  rintro e w1 ⟨rfl, hb1⟩
  have x1 : B5 w1 w.heap.size _ _ _ _ _ := box5 hb1
  have bw1 := box_trans hb1
  clear hb1
  obtain ⟨c0, c1, c2, c3, c4⟩ := id x1
  go_wp2_with fail
  refine (light_any g t h a n c y _ hr.2.1).mono ?_
  rintro e w2 ⟨rfl, hb2⟩
  have x2 := x1.later hb2
  have bw2 := bw1.trans (hb2.mono bw1.size)
  clear hb2 x1 c0 c1 c2 c3 c4
  obtain ⟨c0, c1, c2, c3, c4⟩ := id x2
  by_cases hn6 : n ≤ 6
  case neg =>
    have hn6' : decide (n ≤ 6) = false := by simpa using hn6
    go_wp2
    go_ret
    exact ⟨rfl, bw2⟩
  have hn6' : decide (n ≤ 6) = true := by simpa using hn6
  go_wp2_with fail
  refine (check_any g t h a n c y l _ (hr.later bw2)).mono ?_
  rintro e w3 ⟨rfl, hb3⟩
  have x3 := x2.later hb3
  have bw3 := bw2.trans (hb3.mono bw2.size)
  clear hb3 x2 c0 c1 c2 c3 c4
  obtain ⟨c0, c1, c2, c3, c4⟩ := id x3
  by_cases hf : fault g t h l = 0
  case neg =>
    have he := errV_pos hf
    clear hf
    go_wp2
    go_ret
    exact ⟨rfl, bw3⟩
  have he : errV (fault g t h l) = .nilIface := by rw [hf]; rfl
  have HF : Hid (fault g t h l = 0) := hf
  clear hf
  by_cases hwho1 : who < 1
  case pos =>
    go_wp2
    go_ret
    exact ⟨rfl, bw3⟩
  have hwho1' : decide (who < 1) = false := by simpa using hwho1
  by_cases hwho4 : 4 < who
  case pos =>
    go_wp2
    go_ret
    exact ⟨rfl, bw3⟩
  have hwho4' : decide (4 < who) = false := by simpa using hwho4
  by_cases hother1 : other < 1
  case pos =>
    go_wp2
    go_ret
    exact ⟨rfl, bw3⟩
  have hother1' : decide (other < 1) = false := by simpa using hother1
  by_cases hother4 : 4 < other
  case pos =>
    go_wp2
    go_ret
    exact ⟨rfl, bw3⟩
  have hother4' : decide (4 < other) = false := by simpa using hother4
  go_wp2_with fail
  refine (may_any g t h a n c y l who true _ (hr.later bw3)).mono ?_
  rintro e w4 ⟨rfl, hb4⟩
  have x4 := x3.later hb4
  have bw4 := bw3.trans (hb4.mono bw3.size)
  clear hb4 x3 c0 c1 c2 c3 c4
  obtain ⟨c0, c1, c2, c3, c4⟩ := id x4
  go_wp2_with fail
  refine (may_any g t h a n c y l who false _ (hr.later bw4)).mono ?_
  rintro e w5 ⟨rfl, hb5⟩
  have x5 := x4.later hb5
  have bw5 := bw4.trans (hb5.mono bw4.size)
  clear hb5 x4 c0 c1 c2 c3 c4
  obtain ⟨c0, c1, c2, c3, c4⟩ := id x5
  cases hmw : mayB t h l who true
  case true =>
    have hmr : mayB t h l who false = true := may_read hmw
    go_wp2_with fail
    refine (holds_any g t h a n c y l who _ (hr.later bw5)).mono ?_
    rintro e w6 ⟨rfl, hb6⟩
    have x6 := x5.later hb6
    have bw6 := bw5.trans (hb6.mono bw5.size)
    clear hb6 x5 c0 c1 c2 c3 c4
    obtain ⟨c0, c1, c2, c3, c4⟩ := id x6
    cases hh : holdsB t h l who
    case false =>
      cases ht0 : (t == 0)
      case false =>
        go_wp2_with fail
        refine (key_any g t h a n c y l who _ (hr.later bw6)).mono ?_
        rintro e w7 ⟨rfl, hb7⟩
        have x7 := x6.later hb7
        have bw7 := bw6.trans (hb7.mono bw6.size)
        clear hb7 x6 c0 c1 c2 c3 c4
        obtain ⟨c0, c1, c2, c3, c4⟩ := id x7
        by_cases hkw : 0 < keyOf l who
        case neg =>
          have hkw' : decide (0 < keyOf l who) = false := by simpa using hkw
          go_wp2
          go_ret
          exact ⟨rfl, bw7⟩
        go_wp2_with fail
        refine (key_any g t h a n c y l other _ (hr.later bw7)).mono ?_
        rintro e w8 ⟨rfl, hb8⟩
        have x8 := x7.later hb8
        have bw8 := bw7.trans (hb8.mono bw7.size)
        clear hb8 x7 c0 c1 c2 c3 c4
        obtain ⟨c0, c1, c2, c3, c4⟩ := id x8
        by_cases hko : (keyOf l other == 0) = true
        case neg =>
          have hko' : (keyOf l other == 0) = false := by simpa using hko
          go_wp2
          go_ret
          exact ⟨rfl, bw8⟩
        have hko0 : keyOf l other = 0 := by simpa using hko
        clear hko0
        go_wp2
        go_ret
        exact ⟨rfl, bw8⟩
      case true =>
        go_wp2_with fail
        refine (key_any g t h a n c y l who _ (hr.later bw6)).mono ?_
        rintro e w7 ⟨rfl, hb7⟩
        have x7 := x6.later hb7
        have bw7 := bw6.trans (hb7.mono bw6.size)
        clear hb7 x6 c0 c1 c2 c3 c4
        obtain ⟨c0, c1, c2, c3, c4⟩ := id x7
        by_cases hkw : 0 < keyOf l who
        case neg =>
          have hkw' : decide (0 < keyOf l who) = false := by simpa using hkw
          go_wp2
          go_ret
          exact ⟨rfl, bw7⟩
        go_wp2_with fail
        refine (key_any g t h a n c y l other _ (hr.later bw7)).mono ?_
        rintro e w8 ⟨rfl, hb8⟩
        have x8 := x7.later hb8
        have bw8 := bw7.trans (hb8.mono bw7.size)
        clear hb8 x7 c0 c1 c2 c3 c4
        obtain ⟨c0, c1, c2, c3, c4⟩ := id x8
        by_cases hko : (keyOf l other == 0) = true
        case neg =>
          have hko' : (keyOf l other == 0) = false := by simpa using hko
          go_wp2
          go_ret
          exact ⟨rfl, bw8⟩
        have hko0 : keyOf l other = 0 := by simpa using hko
        clear hko0
        go_wp2
        go_ret
        exact ⟨rfl, bw8⟩
    case true =>
      cases ht0 : (t == 0)
      case false =>
        go_wp2_with fail
        refine (key_any g t h a n c y l who _ (hr.later bw6)).mono ?_
        rintro e w7 ⟨rfl, hb7⟩
        have x7 := x6.later hb7
        have bw7 := bw6.trans (hb7.mono bw6.size)
        clear hb7 x6 c0 c1 c2 c3 c4
        obtain ⟨c0, c1, c2, c3, c4⟩ := id x7
        by_cases hkw : 0 < keyOf l who
        case neg =>
          have hkw' : decide (0 < keyOf l who) = false := by simpa using hkw
          go_wp2
          go_ret
          exact ⟨rfl, bw7⟩
        go_wp2_with fail
        refine (key_any g t h a n c y l other _ (hr.later bw7)).mono ?_
        rintro e w8 ⟨rfl, hb8⟩
        have x8 := x7.later hb8
        have bw8 := bw7.trans (hb8.mono bw7.size)
        clear hb8 x7 c0 c1 c2 c3 c4
        obtain ⟨c0, c1, c2, c3, c4⟩ := id x8
        by_cases hko : (keyOf l other == 0) = true
        case neg =>
          have hko' : (keyOf l other == 0) = false := by simpa using hko
          go_wp2
          go_ret
          exact ⟨rfl, bw8⟩
        have hko0 : keyOf l other = 0 := by simpa using hko
        clear hko0
        go_wp2
        go_ret
        exact ⟨rfl, bw8⟩
      case true =>
        go_wp2_with fail
        refine (key_any g t h a n c y l who _ (hr.later bw6)).mono ?_
        rintro e w7 ⟨rfl, hb7⟩
        have x7 := x6.later hb7
        have bw7 := bw6.trans (hb7.mono bw6.size)
        clear hb7 x6 c0 c1 c2 c3 c4
        obtain ⟨c0, c1, c2, c3, c4⟩ := id x7
        by_cases hkw : 0 < keyOf l who
        case neg =>
          have hkw' : decide (0 < keyOf l who) = false := by simpa using hkw
          go_wp2
          go_ret
          exact ⟨rfl, bw7⟩
        go_wp2_with fail
        refine (key_any g t h a n c y l other _ (hr.later bw7)).mono ?_
        rintro e w8 ⟨rfl, hb8⟩
        have x8 := x7.later hb8
        have bw8 := bw7.trans (hb8.mono bw7.size)
        clear hb8 x7 c0 c1 c2 c3 c4
        obtain ⟨c0, c1, c2, c3, c4⟩ := id x8
        by_cases hko : (keyOf l other == 0) = true
        case neg =>
          have hko' : (keyOf l other == 0) = false := by simpa using hko
          go_wp2
          go_ret
          exact ⟨rfl, bw8⟩
        have hko0 : keyOf l other = 0 := by simpa using hko
        clear hko0
        go_wp2
        go_ret
        exact ⟨rfl, bw8⟩
  case false =>
    have hh : holdsB t h l who = false := by
      cases e : holdsB t h l who
      · rfl
      · exact absurd (may_holds HF.out e) (by simp [hmw])
    have ht0 : (t == 0) = false := by
      cases e : (t == 0)
      · rfl
      · have e' : t = 0 := by simpa using e
        subst e'
        exact absurd hmw (by simp [mayB])
    cases hmr : mayB t h l who false
    case false =>
      go_wp2_with fail
      refine (holds_any g t h a n c y l who _ (hr.later bw5)).mono ?_
      rintro e w6 ⟨rfl, hb6⟩
      have x6 := x5.later hb6
      have bw6 := bw5.trans (hb6.mono bw5.size)
      clear hb6 x5 c0 c1 c2 c3 c4
      obtain ⟨c0, c1, c2, c3, c4⟩ := id x6
      go_wp2_with fail
      refine (key_any g t h a n c y l who _ (hr.later bw6)).mono ?_
      rintro e w7 ⟨rfl, hb7⟩
      have x7 := x6.later hb7
      have bw7 := bw6.trans (hb7.mono bw6.size)
      clear hb7 x6 c0 c1 c2 c3 c4
      obtain ⟨c0, c1, c2, c3, c4⟩ := id x7
      by_cases hkw : 0 < keyOf l who
      case neg =>
        have hkw' : decide (0 < keyOf l who) = false := by simpa using hkw
        go_wp2
        go_ret
        exact ⟨rfl, bw7⟩
      go_wp2_with fail
      refine (key_any g t h a n c y l other _ (hr.later bw7)).mono ?_
      rintro e w8 ⟨rfl, hb8⟩
      have x8 := x7.later hb8
      have bw8 := bw7.trans (hb8.mono bw7.size)
      clear hb8 x7 c0 c1 c2 c3 c4
      obtain ⟨c0, c1, c2, c3, c4⟩ := id x8
      by_cases hko : (keyOf l other == 0) = true
      case neg =>
        have hko' : (keyOf l other == 0) = false := by simpa using hko
        go_wp2
        go_ret
        exact ⟨rfl, bw8⟩
      have hko0 : keyOf l other = 0 := by simpa using hko
      have hmo : mayB t h l other true = false := by
        cases e : mayB t h l other true
        · rfl
        · exact absurd (may_known HF.out hkw hko0 e) (by simp [hmw])
      have hmo2 : mayB t h l other false = false := by
        cases e : mayB t h l other false
        · rfl
        · exact absurd (may_known HF.out hkw hko0 e) (by simp [hmr])
      clear hko0
      go_wp2_with fail
      refine (may_any g t h a n c y l other true _ (hr.later bw8)).mono ?_
      rintro e w9 ⟨rfl, hb9⟩
      have x9 := x8.later hb9
      have bw9 := bw8.trans (hb9.mono bw8.size)
      clear hb9 x8 c0 c1 c2 c3 c4
      obtain ⟨c0, c1, c2, c3, c4⟩ := id x9
      go_wp2_with fail
      refine (may_any g t h a n c y l other false _ (hr.later bw9)).mono ?_
      rintro e w10 ⟨rfl, hb10⟩
      have x10 := x9.later hb10
      have bw10 := bw9.trans (hb10.mono bw9.size)
      clear hb10 x9 c0 c1 c2 c3 c4
      obtain ⟨c0, c1, c2, c3, c4⟩ := id x10
      go_wp2
      go_ret
      exact ⟨rfl, bw10⟩
    case true =>
      go_wp2_with fail
      refine (holds_any g t h a n c y l who _ (hr.later bw5)).mono ?_
      rintro e w6 ⟨rfl, hb6⟩
      have x6 := x5.later hb6
      have bw6 := bw5.trans (hb6.mono bw5.size)
      clear hb6 x5 c0 c1 c2 c3 c4
      obtain ⟨c0, c1, c2, c3, c4⟩ := id x6
      go_wp2_with fail
      refine (key_any g t h a n c y l who _ (hr.later bw6)).mono ?_
      rintro e w7 ⟨rfl, hb7⟩
      have x7 := x6.later hb7
      have bw7 := bw6.trans (hb7.mono bw6.size)
      clear hb7 x6 c0 c1 c2 c3 c4
      obtain ⟨c0, c1, c2, c3, c4⟩ := id x7
      by_cases hkw : 0 < keyOf l who
      case neg =>
        have hkw' : decide (0 < keyOf l who) = false := by simpa using hkw
        go_wp2
        go_ret
        exact ⟨rfl, bw7⟩
      go_wp2_with fail
      refine (key_any g t h a n c y l other _ (hr.later bw7)).mono ?_
      rintro e w8 ⟨rfl, hb8⟩
      have x8 := x7.later hb8
      have bw8 := bw7.trans (hb8.mono bw7.size)
      clear hb8 x7 c0 c1 c2 c3 c4
      obtain ⟨c0, c1, c2, c3, c4⟩ := id x8
      by_cases hko : (keyOf l other == 0) = true
      case neg =>
        have hko' : (keyOf l other == 0) = false := by simpa using hko
        go_wp2
        go_ret
        exact ⟨rfl, bw8⟩
      have hko0 : keyOf l other = 0 := by simpa using hko
      have hmo : mayB t h l other true = false := by
        cases e : mayB t h l other true
        · rfl
        · exact absurd (may_known HF.out hkw hko0 e) (by simp [hmw])
      clear hko0
      go_wp2_with fail
      refine (may_any g t h a n c y l other true _ (hr.later bw8)).mono ?_
      rintro e w9 ⟨rfl, hb9⟩
      have x9 := x8.later hb9
      have bw9 := bw8.trans (hb9.mono bw8.size)
      clear hb9 x8 c0 c1 c2 c3 c4
      obtain ⟨c0, c1, c2, c3, c4⟩ := id x9
      go_wp2
      go_ret
      exact ⟨rfl, bw9⟩

set_option maxRecDepth 100000 in
theorem topRights_lifted (os : Os) (started : os.Started) (H : Type) (enc : TypeId × Value → H) :
    ReturnsInHanded {} Try.checked os 4 .any (Rows.topRightsSpec.pre6 enc Try.prog Try.f4 Rows.topRightsRow.domain false) (Rows.topRightsSpec.post enc Try.prog Try.f4 false true false false) := by
  refine returnsInHanded_of_change (C := Try.checked) own started (by kernel_rfl) Try.func4
    (ChangeSpec.witness6 (enc := enc) (C := Try.checked) false ⟨#[], #[.agg #[.int .i64 0, .slice Option.none 0 0, .int .i64 0, .int .i64 0, .bool false], .int .i64 0, .int .i64 0], []⟩ 8 (by kernel_rfl) (by kernel_rfl) (by kernel_rfl) (by kernel_rfl)) ?_
  intro W base args ds gs before hval0 hW hcnd _
  have hval : ∀ (j : Nat) t v, Try.f4.params[j]? = some t → args[j]? = some v → Value.okWide Try.prog W .any base t v := hval0
  have hW' := hW
  obtain ⟨p, q, hA0, hV, rfl, hfz, hnd⟩ := hW
  have hA : DataW.TrodAll enc Try.prog W 0 (fun _ => true) true Try.f4.params.toList args.toList ds p := hA0
  rw [Try.params4] at hA hval
  obtain ⟨v0, v1, v2, d0, d1, d2, p0, p1, p2, rfl, rfl, rfl, h0, h1, h2⟩ := trodAll_three hA
  obtain ⟨rfl, rfl⟩ := trodVars_none hV
  have k0 := h0
  have lt0 : ∀ x ∈ p0, x.block < W.heap.size := by obtain ⟨m, hm⟩ := k0; exact DataW.trod_lt m _ _ _ hm
  obtain ⟨g, a, n, c, t, hd, y, l, rfl, hrow⟩ := open_state (hval 0 24 v0 rfl rfl) h0
  obtain ⟨who, rfl, rfl, rfl, w1⟩ := open_int Try.underlying3 (hval 1 3 v1 rfl rfl) h1
  obtain ⟨other, rfl, rfl, rfl, w2⟩ := open_int Try.underlying3 (hval 2 3 v2 rfl rfl) h2
  clear hA0 hval0
  refine (topRights_walk g t hd a n c y l who other W hrow).mono fun e W' ⟨he, bel⟩ => ?_
  subst he
  exact ⟨_, rfl, _, _, _, [], _, [], hW', trodAll_mk1 (shut_bool Try.underlying4 _), (trodAll_cons_mk (Below.trod laidOut (by kernel_rfl) (of_decide_eq_true (by kernel_rfl)) k0 bel lt0) (trodAll_cons_mk (shut_int Try.underlying3 w1) (trodAll_cons_mk (shut_int Try.underlying3 w2) trodAll_mk0))), rfl, bel.frame _, fun h => by cases h⟩

theorem topRights_holds : Rows.TopRightsSaid :=
  OpenClaim.holds_of_wide 4 Try.f4 rfl rfl rfl rfl rfl rfl rfl ⟨rfl, rfl, rfl, rfl, rfl⟩ rfl rfl rfl rfl rfl (by kernel_rfl) Try.func4 (by kernel_rfl)
    (of_decide_eq_true (by kernel_rfl)) (by unfold Func.isWrapper; first | (rw [if_pos (by decide +kernel)]; kernel_rfl) | (rw [if_neg (by decide +kernel)]; exact ⟨rfl, rfl⟩))
    (fun os started H enc _ => topRights_lifted os started H enc)
#print axioms topRights_holds
end Go.Proofs.Ytpbfekcbjdgnjaa
