/- Proved: for every state the law TopAlone returns true and leaves its argument as it was; no condition beyond the row's own. -/
import Derived.Test.YtpbfekcbjdgnjaaTopRights
namespace Go.Proofs.Ytpbfekcbjdgnjaa
open Go.ChangeShapes Go.WideShapes Go.ChangeAt Go.RowKit Go.Deep

/-- How many of 1 to k may. -/
def cnt (wr : Bool) (t h : Int) (l : List (Int × Int)) : Nat → Int
  | 0 => 0
  | k + 1 => cnt wr t h l k + (if mayB t h l (k + 1) wr = true then 1 else 0)
theorem cnt_bd (wr : Bool) (t h : Int) (l : List (Int × Int)) : ∀ k, 0 ≤ cnt wr t h l k ∧ cnt wr t h l k ≤ k
  | 0 => by simp [cnt]
  | k + 1 => by have := cnt_bd wr t h l k; unfold cnt; split <;> omega
theorem cnt_yes {wr : Bool} {t h : Int} {l : List (Int × Int)} {k : Nat} (e : mayB t h l (k + 1) wr = true) : cnt wr t h l (k + 1) = cnt wr t h l k + 1 := by rw [cnt, if_pos e]
theorem cnt_no {wr : Bool} {t h : Int} {l : List (Int × Int)} {k : Nat} (e : mayB t h l (k + 1) wr = false) : cnt wr t h l (k + 1) = cnt wr t h l k := by rw [cnt, if_neg (by simp [e])]; omega

/-- How many of 1 to 4. -/
def four (f : Int → Bool) : Int := (if f 1 = true then 1 else 0) + (if f 2 = true then 1 else 0) + (if f 3 = true then 1 else 0) + (if f 4 = true then 1 else 0)
theorem cnt_four (wr : Bool) (t h : Int) (l : List (Int × Int)) : cnt wr t h l 4 = four (fun who => mayB t h l who wr) := by
  simp [cnt, four]
theorem four_all {f : Int → Bool} (h : ∀ i, f i = true) : four f = 4 := by simp [four, h]
theorem four_one {f : Int → Bool} {x : Int} (h1 : 1 ≤ x) (h4 : x ≤ 4) (h : ∀ i, f i = (x == i)) : four f = 1 := by
  have : x = 1 ∨ x = 2 ∨ x = 3 ∨ x = 4 := by omega
  rcases this with rfl | rfl | rfl | rfl <;> simp [four, h]
theorem four_more {f f' : Int → Bool} {x : Int} (h1 : 1 ≤ x) (h4 : x ≤ 4) (hx : f x = false) (hx' : f' x = true) (h : ∀ i, i ≠ x → f' i = f i) : four f' = four f + 1 := by
  have : x = 1 ∨ x = 2 ∨ x = 3 ∨ x = 4 := by omega
  rcases this with rfl | rfl | rfl | rfl
  · rw [four, four, hx, hx', h 2 (by decide), h 3 (by decide), h 4 (by decide)]; simp; omega
  · rw [four, four, hx, hx', h 1 (by decide), h 3 (by decide), h 4 (by decide)]; simp; omega
  · rw [four, four, hx, hx', h 1 (by decide), h 2 (by decide), h 4 (by decide)]; simp; omega
  · rw [four, four, hx, hx', h 1 (by decide), h 2 (by decide), h 3 (by decide)]; simp

theorem rf_below : ∀ (l : List (Int × Int)) (p who : Int), rf p l = 0 → who ≤ p → keyOf l who = 0
  | [], _, _, _, _ => rfl
  | r :: l, p, who, h, hw => by
    unfold rf at h
    split at h
    · omega
    · split at h
      · omega
      · unfold keyOf
        rw [if_neg (by omega)]
        exact rf_below l _ who h (by omega)

theorem four_keys : ∀ (l : List (Int × Int)) (p : Int), rf p l = 0 → four (fun who => keyOf l who != 0) = l.length
  | [], _, _ => by simp [four, keyOf]
  | r :: l, p, h => by
    unfold rf at h
    split at h
    · omega
    · split at h
      · omega
      · have ih := four_keys l _ h
        have hz := rf_below l _ r.1 h (Int.le_refl _)
        have : four (fun who => keyOf (r :: l) who != 0) = four (fun who => keyOf l who != 0) + 1 := by
          refine four_more (x := r.1) (by omega) (by omega) (by simp [hz]) (by simp [keyOf]; omega) (fun i hi => ?_)
          simp [keyOf, Ne.symm hi]
        rw [this, ih]; simp

theorem key_in {l : List (Int × Int)} {p who : Int} (h : rf p l = 0) (hk : keyOf l who ≠ 0) : 1 ≤ who ∧ who ≤ 4 := by
  rcases keyOf_or l who with h0 | ⟨r, hr, e, _⟩
  · exact absurd h0 hk
  · have := rf_all l p h r hr; omega

/-- Who may write what is held is known. -/
theorem may_key {g t h : Int} {l : List (Int × Int)} (hf : fault g t h l = 0) {who : Int} (ht : 0 < t) (hm : mayB t h l who true = true) : keyOf l who ≠ 0 := by
  rcases tf_type (fault_rf hf).2 with rfl | rfl | rfl | rfl | rfl | rfl | rfl
  · omega
  · simp [mayB, holdsB, allB] at hm; subst hm; exact holder_known hf (by decide)
  · simp [mayB, holdsB, allB] at hm; subst hm; exact holder_known hf (by decide)
  all_goals (simpa [mayB] using hm)

theorem n_1 {g h : Int} {l : List (Int × Int)} (hf : fault g 1 h l = 0) : cnt true 1 h l 4 = 1 := by
  rw [cnt_four]; have := key_in (fault_rf hf).1 (holder_known hf (by decide)); exact four_one this.1 this.2 (fun i => by simp [mayB, holdsB, allB])
theorem n_3 {g h : Int} {l : List (Int × Int)} (wr : Bool) (hf : fault g 3 h l = 0) : cnt wr 3 h l 4 = 1 := by
  rw [cnt_four]; have := key_in (fault_rf hf).1 (holder_known hf (by decide)); exact four_one this.1 this.2 (fun i => by simp [mayB, holdsB, allB])
theorem n_0 (wr : Bool) (h : Int) (l : List (Int × Int)) : cnt wr 0 h l 4 = 4 := by rw [cnt_four]; exact four_all (fun i => rfl)
theorem m_all (t h : Int) (l : List (Int × Int)) (ht : t = 1 ∨ t = 5 ∨ t = 7) : cnt false t h l 4 = 4 := by
  rw [cnt_four]; rcases ht with rfl | rfl | rfl <;> exact four_all (fun i => rfl)
theorem n_57 {g t h : Int} {l : List (Int × Int)} (hf : fault g t h l = 0) (ht : t = 5 ∨ t = 7) : cnt true t h l 4 = l.length := by
  rw [cnt_four, ← four_keys l 0 (fault_rf hf).1]; rcases ht with rfl | rfl <;> simp [mayB, four]
theorem n_68 {g t h : Int} {l : List (Int × Int)} (wr : Bool) (hf : fault g t h l = 0) (ht : t = 6 ∨ t = 8) : cnt wr t h l 4 = l.length := by
  rw [cnt_four, ← four_keys l 0 (fault_rf hf).1]; rcases ht with rfl | rfl <;> simp [mayB, four]

theorem one_start (w : World) (v0 v1 v2 v3 v4 : Value) :
    Below w.heap.size w (((w.alloc (.cells #[v0, v1, v2, v3, v4] 24)).alloc (.cells #[.int .i64 2, .int .i64 5] 27)).alloc (.cells #[.int .i64 0, .slice (some ⟨w.heap.size + 1, 0, Option.none⟩) 1 1, .int .i64 3, .int .i64 2, .bool false] 24)) ∧
    B5 (((w.alloc (.cells #[v0, v1, v2, v3, v4] 24)).alloc (.cells #[.int .i64 2, .int .i64 5] 27)).alloc (.cells #[.int .i64 0, .slice (some ⟨w.heap.size + 1, 0, Option.none⟩) 1 1, .int .i64 3, .int .i64 2, .bool false] 24)) w.heap.size v0 v1 v2 v3 v4 ∧
    B5 (((w.alloc (.cells #[v0, v1, v2, v3, v4] 24)).alloc (.cells #[.int .i64 2, .int .i64 5] 27)).alloc (.cells #[.int .i64 0, .slice (some ⟨w.heap.size + 1, 0, Option.none⟩) 1 1, .int .i64 3, .int .i64 2, .bool false] 24)) (w.heap.size + 1 + 1) (.int .i64 0) (.slice (some ⟨w.heap.size + 1, 0, Option.none⟩) 1 1) (.int .i64 3) (.int .i64 2) (.bool false) ∧
    Row (((w.alloc (.cells #[v0, v1, v2, v3, v4] 24)).alloc (.cells #[.int .i64 2, .int .i64 5] 27)).alloc (.cells #[.int .i64 0, .slice (some ⟨w.heap.size + 1, 0, Option.none⟩) 1 1, .int .i64 3, .int .i64 2, .bool false] 24)) (some ⟨w.heap.size + 1, 0, Option.none⟩) 1 [(2, 5)] := by
  refine ⟨(((Below.refl _ _).alloc (Nat.le_refl _) _).alloc (by simp) _).alloc (by simp; omega) _, ?_, ?_, rfl, by decide, fun _ => ⟨_, _, rfl, fun i hi => ?_⟩⟩
  · refine ⟨?_, ?_, ?_, ?_, ?_⟩ <;> simp [go_sem]
  · refine ⟨?_, ?_, ?_, ?_, ?_⟩ <;> simp [go_sem]
  · have : i = 0 := by simpa using hi
    subst this
    simp [go_sem]

set_option maxHeartbeats 4000000 in
theorem topAlone_walk (g t h : Int) (a : Option Addr) (n c : Nat) (y : Bool) (l : List (Int × Int)) (w : World) (hr : Row w a n l) :
    Calls Try.prog 5 #[.agg #[.int .i64 g, .slice a n c, .int .i64 t, .int .i64 h, .bool y]] w fun e w' => e = .returned (.bool true) ∧ Below w.heap.size w w' := by
  have m1 : mayB 3 2 [(2, 5)] 2 true = true := rfl
  have m2 : mayB 3 2 [(2, 5)] 1 false = false := rfl
  obtain ⟨sb, s5, so, srow⟩ := one_start w (.int .i64 g) (.slice a n c) (.int .i64 t) (.int .i64 h) (.bool y)
  go_enter Try.func5, Try.ntmps5
  go_wp2_with fail
  refine (may_any 0 3 2 (some ⟨w.heap.size + 1, 0, Option.none⟩) 1 1 false [(2, 5)] 2 true _ srow).mono ?_
  rintro e w1 ⟨rfl, hb1⟩
  have x1 := s5.later hb1
  have o1 := so.later hb1
  have r1 := srow.later hb1
  have bw1 := sb.trans (hb1.mono sb.size)
  clear hb1 s5 so srow sb
  obtain ⟨d0, d1, d2, d3, d4⟩ := id o1
  go_wp2_with fail
  refine (may_any 0 3 2 (some ⟨w.heap.size + 1, 0, Option.none⟩) 1 1 false [(2, 5)] 1 false _ r1).mono ?_
  rintro e w2 ⟨rfl, hb2⟩
  have x2 := x1.later hb2
  have bw2 := bw1.trans (hb2.mono bw1.size)
  clear hb2 x1 o1 r1 d0 d1 d2 d3 d4
  obtain ⟨c0, c1, c2, c3, c4⟩ := id x2
  go_wp2_with fail
  refine (light_any g t h a n c y _ hr.2.1).mono ?_
  rintro e w3 ⟨rfl, hb3⟩
  have x3 := x2.later hb3
  have bw3 := bw2.trans (hb3.mono bw2.size)
  clear hb3 x2 c0 c1 c2 c3 c4
  obtain ⟨c0, c1, c2, c3, c4⟩ := id x3
  by_cases hn6 : n ≤ 6
  case neg =>
    have hn6' : decide (n ≤ 6) = false := by simpa using hn6
    go_wp2
    go_ret
    exact ⟨rfl, bw3⟩
  have hn6' : decide (n ≤ 6) = true := by simpa using hn6
  go_wp2_with fail
  refine (check_any g t h a n c y l _ (hr.later bw3)).mono ?_
  rintro e w4 ⟨rfl, hb4⟩
  have x4 := x3.later hb4
  have bw4 := bw3.trans (hb4.mono bw3.size)
  clear hb4 x3 c0 c1 c2 c3 c4
  obtain ⟨c0, c1, c2, c3, c4⟩ := id x4
  by_cases hf : fault g t h l = 0
  case neg =>
    have he := errV_pos hf
    clear hf
    go_wp2
    go_ret
    exact ⟨rfl, bw4⟩
  have he : errV (fault g t h l) = .nilIface := by rw [hf]; rfl
  have HF : Hid (fault g t h l = 0) := hf
  clear hf m1 m2
  go_wp2
  go_loopw [4, 5, 6] (fun u v i wr => ∃ k : Nat, k ≤ 4 ∧ u = .int .i64 (cnt true t h l k) ∧ v = .int .i64 (cnt false t h l k) ∧ i = .int .i64 ((k : Int) + 1) ∧ B5 wr w.heap.size (.int .i64 g) (.slice a n c) (.int .i64 t) (.int .i64 h) (.bool y) ∧ Below w.heap.size w wr) (fun _ _ i _ => 5 - (intOf i).toNat)
  case atStart => exact ⟨0, by decide, rfl, rfl, rfl, x4, bw4⟩
  case round =>
    clear c0 c1 c2 c3 c4 x4 bw4
    obtain ⟨k, hk, rfl, rfl, rfl, x5, bw5⟩ := hrel
    have bd1 := cnt_bd true t h l k
    have bd2 := cnt_bd false t h l k
    obtain ⟨c0, c1, c2, c3, c4⟩ := id x5
    by_cases hlt : k < 4
    · have hle : decide ((k : Int) + 1 ≤ 4) = true := by simp; omega
      go_wp2_with fail
      refine (may_any g t h a n c y l ((k : Int) + 1) true _ (hr.later bw5)).mono ?_
      rintro e w6 ⟨rfl, hb6⟩
      have x6 := x5.later hb6
      have bw6 := bw5.trans (hb6.mono bw5.size)
      clear hb6 x5 c0 c1 c2 c3 c4
      obtain ⟨c0, c1, c2, c3, c4⟩ := id x6
      cases hmw : mayB t h l ((k : Int) + 1) true
      case false =>
        go_wp2_with fail
        refine (may_any g t h a n c y l ((k : Int) + 1) false _ (hr.later bw6)).mono ?_
        rintro e w7 ⟨rfl, hb7⟩
        have x7 := x6.later hb7
        have bw7 := bw6.trans (hb7.mono bw6.size)
        clear hb7 x6 c0 c1 c2 c3 c4
        obtain ⟨c0, c1, c2, c3, c4⟩ := id x7
        cases hmr : mayB t h l ((k : Int) + 1) false
        case false =>
          have HW : Hid _ := cnt_no hmw
          have HR : Hid _ := cnt_no hmr
          go_wp2
          go_roundw
          case rel => exact ⟨k + 1, by omega, by rw [HW.out], by rw [HR.out], by go_num, x7, bw7⟩
          case measure => simp [intOf]; omega
        case true =>
          have HW : Hid _ := cnt_no hmw
          have HR : Hid _ := cnt_yes hmr
          go_wp2
          go_roundw
          case rel => exact ⟨k + 1, by omega, by rw [HW.out], by rw [HR.out], by go_num, x7, bw7⟩
          case measure => simp [intOf]; omega
      case true =>
        by_cases ht : 0 < t
        case neg =>
          have ht' : decide (0 < t) = false := by simpa using ht
          go_wp2_with fail
          refine (may_any g t h a n c y l ((k : Int) + 1) false _ (hr.later bw6)).mono ?_
          rintro e w7 ⟨rfl, hb7⟩
          have x7 := x6.later hb7
          have bw7 := bw6.trans (hb7.mono bw6.size)
          clear hb7 x6 c0 c1 c2 c3 c4
          obtain ⟨c0, c1, c2, c3, c4⟩ := id x7
          cases hmr : mayB t h l ((k : Int) + 1) false
          case false =>
            have HW : Hid _ := cnt_yes hmw
            have HR : Hid _ := cnt_no hmr
            go_wp2
            go_roundw
            case rel => exact ⟨k + 1, by omega, by rw [HW.out], by rw [HR.out], by go_num, x7, bw7⟩
            case measure => simp [intOf]; omega
          case true =>
            have HW : Hid _ := cnt_yes hmw
            have HR : Hid _ := cnt_yes hmr
            go_wp2
            go_roundw
            case rel => exact ⟨k + 1, by omega, by rw [HW.out], by rw [HR.out], by go_num, x7, bw7⟩
            case measure => simp [intOf]; omega
        case pos =>
          have hk0 : (keyOf l ((k : Int) + 1) == 0) = false := by simpa using may_key HF.out ht hmw
          go_wp2_with fail
          refine (key_any g t h a n c y l ((k : Int) + 1) _ (hr.later bw6)).mono ?_
          rintro e w7 ⟨rfl, hb7⟩
          have x7 := x6.later hb7
          have bw7 := bw6.trans (hb7.mono bw6.size)
          clear hb7 x6 c0 c1 c2 c3 c4
          obtain ⟨c0, c1, c2, c3, c4⟩ := id x7
          go_wp2_with fail
          refine (may_any g t h a n c y l ((k : Int) + 1) false _ (hr.later bw7)).mono ?_
          rintro e w8 ⟨rfl, hb8⟩
          have x8 := x7.later hb8
          have bw8 := bw7.trans (hb8.mono bw7.size)
          clear hb8 x7 c0 c1 c2 c3 c4
          obtain ⟨c0, c1, c2, c3, c4⟩ := id x8
          cases hmr : mayB t h l ((k : Int) + 1) false
          case false =>
            have HW : Hid _ := cnt_yes hmw
            have HR : Hid _ := cnt_no hmr
            go_wp2
            go_roundw
            case rel => exact ⟨k + 1, by omega, by rw [HW.out], by rw [HR.out], by go_num, x8, bw8⟩
            case measure => simp [intOf]; omega
          case true =>
            have HW : Hid _ := cnt_yes hmw
            have HR : Hid _ := cnt_yes hmr
            go_wp2
            go_roundw
            case rel => exact ⟨k + 1, by omega, by rw [HW.out], by rw [HR.out], by go_num, x8, bw8⟩
            case measure => simp [intOf]; omega
    · have hk4 : k = 4 := by omega
      subst hk4
      have hl := hr.1
      have hle : decide (((4 : Nat) : Int) + 1 ≤ 4) = false := by decide
      rcases tf_type (fault_rf HF.out).2 with rfl | rfl | rfl | rfl | rfl | rfl | rfl
      · have e1 : cnt true 0 h l 4 = 4 := by rw [n_0 true h l]
        have e2 : cnt false 0 h l 4 = 4 := by rw [n_0 false h l]
        clear bd1 bd2 hl
        go_wp2
        go_ret
        exact ⟨rfl, bw5⟩
      · have e1 : cnt true 1 h l 4 = 1 := by rw [n_1 HF.out]
        have e2 : cnt false 1 h l 4 = 4 := by rw [m_all 1 h l (by decide)]
        clear bd1 bd2 hl
        go_wp2
        go_ret
        exact ⟨rfl, bw5⟩
      · have e1 : cnt true 3 h l 4 = 1 := by rw [n_3 true HF.out]
        have e2 : cnt false 3 h l 4 = 1 := by rw [n_3 false HF.out]
        clear bd1 bd2 hl
        go_wp2
        go_ret
        exact ⟨rfl, bw5⟩
      · have e1 : cnt true 5 h l 4 = n := by rw [n_57 HF.out (by decide)]; exact_mod_cast hl
        have e2 : cnt false 5 h l 4 = 4 := by rw [m_all 5 h l (by decide)]
        clear bd1 bd2 hl
        go_wp2
        go_ret
        exact ⟨rfl, bw5⟩
      · have e1 : cnt true 6 h l 4 = n := by rw [n_68 true HF.out (by decide)]; exact_mod_cast hl
        have e2 : cnt false 6 h l 4 = n := by rw [n_68 false HF.out (by decide)]; exact_mod_cast hl
        clear bd1 bd2 hl
        go_wp2
        go_ret
        exact ⟨rfl, bw5⟩
      · have e1 : cnt true 7 h l 4 = n := by rw [n_57 HF.out (by decide)]; exact_mod_cast hl
        have e2 : cnt false 7 h l 4 = 4 := by rw [m_all 7 h l (by decide)]
        clear bd1 bd2 hl
        go_wp2
        go_ret
        exact ⟨rfl, bw5⟩
      · have e1 : cnt true 8 h l 4 = n := by rw [n_68 true HF.out (by decide)]; exact_mod_cast hl
        have e2 : cnt false 8 h l 4 = n := by rw [n_68 false HF.out (by decide)]; exact_mod_cast hl
        clear bd1 bd2 hl
        go_wp2
        go_ret
        exact ⟨rfl, bw5⟩

set_option maxRecDepth 100000 in
theorem topAlone_lifted (os : Os) (started : os.Started) (H : Type) (enc : TypeId × Value → H) :
    ReturnsInHanded {} Try.checked os 5 .any (Rows.topAloneSpec.pre6 enc Try.prog Try.f5 Rows.topAloneRow.domain false) (Rows.topAloneSpec.post enc Try.prog Try.f5 false true false false) := by
  refine returnsInHanded_of_change (C := Try.checked) own started (by kernel_rfl) Try.func5
    (ChangeSpec.witness6 (enc := enc) (C := Try.checked) false ⟨#[], #[.agg #[.int .i64 0, .slice Option.none 0 0, .int .i64 0, .int .i64 0, .bool false]], []⟩ 8 (by kernel_rfl) (by kernel_rfl) (by kernel_rfl) (by kernel_rfl)) ?_
  intro W base args ds gs before hval0 hW hcnd _
  have hval : ∀ (j : Nat) t v, Try.f5.params[j]? = some t → args[j]? = some v → Value.okWide Try.prog W .any base t v := hval0
  have hW' := hW
  obtain ⟨p, q, hA0, hV, rfl, hfz, hnd⟩ := hW
  have hA : DataW.TrodAll enc Try.prog W 0 (fun _ => true) true Try.f5.params.toList args.toList ds p := hA0
  rw [Try.params5] at hA hval
  obtain ⟨v0, d0, rfl, rfl, h0⟩ := trodAll_one hA
  obtain ⟨rfl, rfl⟩ := trodVars_none hV
  have k0 := h0
  have lt0 : ∀ x ∈ p, x.block < W.heap.size := by obtain ⟨m, hm⟩ := k0; exact DataW.trod_lt m _ _ _ hm
  obtain ⟨g0, a0, n0, c0, t0, hd0, y0, l0, rfl, row0⟩ := open_state (hval 0 24 v0 rfl rfl) h0
  clear hA0 hval0
  refine (topAlone_walk g0 t0 hd0 a0 n0 c0 y0 l0 W row0).mono fun e W' ⟨he, bel⟩ => ?_
  subst he
  exact ⟨_, rfl, _, _, _, [], _, [], hW', trodAll_mk1 (shut_bool Try.underlying4 _), (trodAll_cons_mk (Below.trod laidOut (by kernel_rfl) (of_decide_eq_true (by kernel_rfl)) k0 bel lt0) trodAll_mk0), rfl, bel.frame _, fun h => by cases h⟩

theorem topAlone_holds : Rows.TopAloneSaid :=
  OpenClaim.holds_of_wide 5 Try.f5 rfl rfl rfl rfl rfl rfl rfl ⟨rfl, rfl, rfl, rfl, rfl⟩ rfl rfl rfl rfl rfl (by kernel_rfl) Try.func5 (by kernel_rfl)
    (of_decide_eq_true (by kernel_rfl)) (by unfold Func.isWrapper; first | (rw [if_pos (by decide +kernel)]; kernel_rfl) | (rw [if_neg (by decide +kernel)]; exact ⟨rfl, rfl⟩))
    (fun os started H enc _ => topAlone_lifted os started H enc)
#print axioms topAlone_holds
end Go.Proofs.Ytpbfekcbjdgnjaa
