/- Proved: for every state, any two and any key, the law TopKnown returns true and leaves its arguments as they were; no condition beyond the row's own. -/
import Derived.Test.YtpbfekcbjdgnjaaKMath
import Derived.Test.YtpbfekcbjdgnjaaSame
import Derived.Test.YtpbfekcbjdgnjaaOpen
import Derived.Test.YtpbfekcbjdgnjaaTopRights
import Derived.Deep.RegionHeld3
import Derived.Deep.RegionWith
import Derived.Deep.DrawnRows
namespace Go.Proofs.Ytpbfekcbjdgnjaa
open Go.ChangeShapes Go.WideShapes Go.ChangeAt Go.RowKit Go.Deep
attribute [local go_sem ↓] Go.wp_at_zero Go.wp_at_succ

theorem withL_len (l : List (Int × Int)) (who key : Int) : (withL l who key).length ≤ l.length + 1 := by
  unfold withL
  have := kept_le who l
  split
  · omega
  · rw [put_length _ _ _ (pl_le _ _)]; omega

/-- A world that is later than w. -/
structure LW (w : World) where
  val : World
  ok : Below w.heap.size w val
theorem Calls.quiet_lw {P : Program} {f : FuncId} {args : Array Value} {wr : World} {p : LW wr} {v : Value} (h : Calls P f args p.val fun e w' => e = .returned v ∧ Below p.val.heap.size p.val w') : Calls P f args p.val fun e w'' => e = .returned v ∧ ∃ q : LW wr, w'' = q.val :=
  h.mono fun _ w' ⟨he, hb⟩ => ⟨he, ⟨w', p.ok.trans (hb.mono p.ok.size)⟩, rfl⟩
theorem wp_region_lw {P : Program} {id : Nat} {Q : Exit → Act → World → Prop} {a : Act} {w : World} {l : List Oper} (hm : P.follows .mixedOrders = true) (hB : Region.lexB .any l.toArray = true)
    (h : wpQuiet P l.toArray (fun w' => ∃ p : LW w, w' = p.val) (fun a' => ∀ w', (∃ p : LW w, w' = p.val) → Q .normal a' w') l a) : (Code.region id l.toArray true).wp P Q a w :=
  wp_region_quiet (C := fun w' => ∃ p : LW w, w' = p.val) hm hB ⟨⟨w.drew, (Below.refl _ _).drew⟩, rfl⟩ (by simpa using h)
theorem rowLW {w wr : World} {a : Option Addr} {n : Nat} {l : List (Int × Int)} (hr : Row w a n l) (bw : Below w.heap.size w wr) (p : LW wr) : Row p.val a n l := hr.later (bw.trans (p.ok.mono bw.size))

/-- Two boxed states, and that nothing older has turned. -/
theorem keep10 {w1 w2 W : World} {k m : Nat} {v0 v1 v2 v3 v4 u0 u1 u2 u3 u4 : Value} (hb : Below w1.heap.size w1 w2)
    (h : w1.cell? ⟨k, 0, Option.none⟩ = some (v0) ∧ w1.cell? ⟨k, 1, Option.none⟩ = some (v1) ∧ w1.cell? ⟨k, 2, Option.none⟩ = some (v2) ∧ w1.cell? ⟨k, 3, Option.none⟩ = some (v3) ∧ w1.cell? ⟨k, 4, Option.none⟩ = some (v4) ∧ w1.cell? ⟨m, 0, Option.none⟩ = some (u0) ∧ w1.cell? ⟨m, 1, Option.none⟩ = some (u1) ∧ w1.cell? ⟨m, 2, Option.none⟩ = some (u2) ∧ w1.cell? ⟨m, 3, Option.none⟩ = some (u3) ∧ w1.cell? ⟨m, 4, Option.none⟩ = some (u4) ∧ Below W.heap.size W w1) :
    w2.cell? ⟨k, 0, Option.none⟩ = some (v0) ∧ w2.cell? ⟨k, 1, Option.none⟩ = some (v1) ∧ w2.cell? ⟨k, 2, Option.none⟩ = some (v2) ∧ w2.cell? ⟨k, 3, Option.none⟩ = some (v3) ∧ w2.cell? ⟨k, 4, Option.none⟩ = some (v4) ∧ w2.cell? ⟨m, 0, Option.none⟩ = some (u0) ∧ w2.cell? ⟨m, 1, Option.none⟩ = some (u1) ∧ w2.cell? ⟨m, 2, Option.none⟩ = some (u2) ∧ w2.cell? ⟨m, 3, Option.none⟩ = some (u3) ∧ w2.cell? ⟨m, 4, Option.none⟩ = some (u4) ∧ Below W.heap.size W w2 := by
  obtain ⟨a0, a1, a2, a3, a4, b0, b1, b2, b3, b4, hW⟩ := h
  exact ⟨cell_later hb a0, cell_later hb a1, cell_later hb a2, cell_later hb a3, cell_later hb a4, cell_later hb b0, cell_later hb b1, cell_later hb b2, cell_later hb b3, cell_later hb b4, hW.trans (hb.mono hW.size)⟩
theorem later7 {w w7 wx : World} {a : Option Addr} {n : Nat} {l : List (Int × Int)} (hr : Row w a n l) (b7 : Below w.heap.size w w7) (hb : Below w7.heap.size w7 wx) : Row wx a n l := hr.later (b7.trans (hb.mono b7.size))
theorem heldBelow10 {p0 p1 p2 p3 p4 q0 q1 q2 q3 q4 b : Prop} (h : p0 ∧ p1 ∧ p2 ∧ p3 ∧ p4 ∧ q0 ∧ q1 ∧ q2 ∧ q3 ∧ q4 ∧ b) : b := h.2.2.2.2.2.2.2.2.2.2
theorem held10 {w1 W : World} {k m : Nat} {v0 v1 v2 v3 v4 u0 u1 u2 u3 u4 : Value}
    (h : w1.cell? ⟨k, 0, Option.none⟩ = some (v0) ∧ w1.cell? ⟨k, 1, Option.none⟩ = some (v1) ∧ w1.cell? ⟨k, 2, Option.none⟩ = some (v2) ∧ w1.cell? ⟨k, 3, Option.none⟩ = some (v3) ∧ w1.cell? ⟨k, 4, Option.none⟩ = some (v4) ∧ w1.cell? ⟨m, 0, Option.none⟩ = some (u0) ∧ w1.cell? ⟨m, 1, Option.none⟩ = some (u1) ∧ w1.cell? ⟨m, 2, Option.none⟩ = some (u2) ∧ w1.cell? ⟨m, 3, Option.none⟩ = some (u3) ∧ w1.cell? ⟨m, 4, Option.none⟩ = some (u4) ∧ Below W.heap.size W w1) : B5 w1 k v0 v1 v2 v3 v4 ∧ B5 w1 m u0 u1 u2 u3 u4 ∧ Below W.heap.size W w1 := by
  obtain ⟨a0, a1, a2, a3, a4, b0, b1, b2, b3, b4, hW⟩ := h
  exact ⟨⟨a0, a1, a2, a3, a4⟩, ⟨b0, b1, b2, b3, b4⟩, hW⟩


set_option maxHeartbeats 20000000 in
theorem topKnown_walk (g t h : Int) (a : Option Addr) (n c : Nat) (y : Bool) (l : List (Int × Int)) (who key other : Int) (w : World) (hr : Row w a n l) :
    Calls Try.prog 7 #[.agg #[.int .i64 g, .slice a n c, .int .i64 t, .int .i64 h, .bool y], .int .i64 who, .int .i64 key, .int .i64 other] w fun e w' => e = .returned (.bool true) ∧ Below w.heap.size w w' := by
  have hwl : withL [] 2 7 = [(2, 7)] := by decide
  have hwl0 : withL [(2, 7)] 2 0 = [] := by decide
  have hk7 : keyOf [(2, 7)] 2 = 7 := by decide
  have hk0 : keyOf [] 2 = 0 := by decide
  have HW1 : Hid (withL [] 2 7 = [(2, 7)]) := hwl
  have HW2 : Hid (withL [(2, 7)] 2 0 = []) := hwl0
  clear hwl hwl0
  go_enter Try.func7, Try.ntmps7
  go_wp2_with fail
  refine (with_any 0 0 0 Option.none 0 0 false [] 2 7 _ (row_nil _) (by decide)).mono ?_
  rintro e w1 ⟨a1, n1, k1, rfl, hr1, hb1⟩
  rw [HW1.out] at hr1
  obtain rfl : n1 = 1 := hr1.1.symm
  have x1 : B5 w1 w.heap.size _ _ _ _ _ := box5 hb1
  have bw1 := box_trans hb1
  have HR1 : Hid (Row w1 a1 1 [(2, 7)]) := hr1
  clear hr1 hb1
  go_wp2_with fail
  refine (key_any 0 0 0 a1 1 k1 false [(2, 7)] 2 _ (HR1.out.later ((Below.refl _ _).alloc (Nat.le_refl _) _))).mono ?_
  rintro e w2 ⟨rfl, hb2⟩
  have o2 : B5 w2 w1.heap.size _ _ _ _ _ := box5 hb2
  have x2 := x1.later (box_trans hb2)
  have bw2 := bw1.trans ((box_trans hb2).mono bw1.size)
  have hr2 := HR1.out.later (box_trans hb2)
  have HR2 : Hid (Row w2 a1 1 [(2, 7)]) := hr2
  clear hb2 x1 hr2
  obtain ⟨d0, d1, d2, d3, d4⟩ := id o2
  go_wp2_with fail
  refine (with_any 0 0 0 a1 1 k1 false [(2, 7)] 2 0 _ HR2.out (by decide)).mono ?_
  rintro e w3 ⟨a3, n3, k3, rfl, hr3, hb3⟩
  rw [HW2.out] at hr3
  obtain rfl : n3 = 0 := hr3.1.symm
  have x3 := x2.later hb3
  have bw3 := bw2.trans (hb3.mono bw2.size)
  have HR3 : Hid (Row w3 a3 0 []) := hr3
  clear hr3 hb3 x2 o2 d0 d1 d2 d3 d4
  go_wp2_with fail
  refine (key_any 0 0 0 a3 0 k3 false [] 2 _ HR3.out).mono ?_
  rintro e w4 ⟨rfl, hb4⟩
  have x4 := x3.later hb4
  have bw4 := bw3.trans (hb4.mono bw3.size)
  clear hb4 x3
  obtain ⟨c0, c1, c2, c3, c4⟩ := id x4
  go_wp2_with fail
  refine (light_any g t h a n c y _ hr.2.1).mono ?_
  rintro e w5 ⟨rfl, hb5⟩
  have x5 := x4.later hb5
  have bw5 := bw4.trans (hb5.mono bw4.size)
  clear hb5 x4 c0 c1 c2 c3 c4
  obtain ⟨c0, c1, c2, c3, c4⟩ := id x5
  by_cases hn6 : n ≤ 6
  case neg =>
    have hn6' : decide (n ≤ 6) = false := by simpa using hn6
    go_wp2
    go_ret
    exact ⟨rfl, bw5⟩
  have hn6' : decide (n ≤ 6) = true := by simpa using hn6
  go_wp2_with fail
  refine (check_any g t h a n c y l _ (hr.later bw5)).mono ?_
  rintro e w6 ⟨rfl, hb6⟩
  have x6 := x5.later hb6
  have bw6 := bw5.trans (hb6.mono bw5.size)
  clear hb6 x5 c0 c1 c2 c3 c4
  obtain ⟨c0, c1, c2, c3, c4⟩ := id x6
  by_cases hf : fault g t h l = 0
  case neg =>
    have he := errV_pos hf
    clear hf
    go_wp2
    go_ret
    exact ⟨rfl, bw6⟩
  have he : errV (fault g t h l) = .nilIface := by rw [hf]; rfl
  have HF : Hid (fault g t h l = 0) := hf
  clear hf
  by_cases hwho1 : who < 1
  case pos =>
    go_wp2
    go_ret
    exact ⟨rfl, bw6⟩
  have hwho1' : decide (who < 1) = false := by simpa using hwho1
  by_cases hwho4 : 4 < who
  case pos =>
    go_wp2
    go_ret
    exact ⟨rfl, bw6⟩
  have hwho4' : decide (4 < who) = false := by simpa using hwho4
  by_cases hkey1 : key < 0
  case pos =>
    go_wp2
    go_ret
    exact ⟨rfl, bw6⟩
  have hkey1' : decide (key < 0) = false := by simpa using hkey1
  by_cases hkey4 : 999 < key
  case pos =>
    go_wp2
    go_ret
    exact ⟨rfl, bw6⟩
  have hkey4' : decide (999 < key) = false := by simpa using hkey4
  by_cases how : (other == who) = true
  case pos =>
    go_wp2
    go_ret
    exact ⟨rfl, bw6⟩
  have how' : (other == who) = false := by simpa using how
  have hne : other ≠ who := by simpa using how
  have hrf := (fault_rf HF.out).1
  have hlen := withL_len l who key
  have hln := hr.1
  go_wp2_with fail
  refine (with_any g t h a n c y l who key _ (hr.later bw6) (by omega)).mono ?_
  rintro e w7 ⟨aT, nT, cT, rfl, hr7, hb7⟩
  have x7 := x6.later hb7
  have bw7 := bw6.trans (hb7.mono bw6.size)
  have hlT := hr7.1
  have HRT : Hid (Row w7 aT nT (withL l who key)) := hr7
  clear hb7 x6 c0 c1 c2 c3 c4 hr7 how
  obtain ⟨c0, c1, c2, c3, c4⟩ := id (x7.later ((Below.refl _ _).alloc (Nat.le_refl _) (.cells #[.int .i64 g, .slice aT nT cT, .int .i64 t, .int .i64 h, .bool y] 24)))
  have hX : Below w7.heap.size w7 (w7.alloc (.cells #[.int .i64 g, .slice aT nT cT, .int .i64 t, .int .i64 h, .bool y] 24)) := (Below.refl _ _).alloc (Nat.le_refl _) _
  obtain ⟨d0, d1, d2, d3, d4⟩ := box5 (Below.refl (w7.alloc (.cells #[.int .i64 g, .slice aT nT cT, .int .i64 t, .int .i64 h, .bool y] 24)).heap.size (w7.alloc (.cells #[.int .i64 g, .slice aT nT cT, .int .i64 t, .int .i64 h, .bool y] 24)))
  have k1e : keyOf (withL l who key) who = key := with_key hrf who key
  have k2e : keyOf (withL l who key) other = keyOf l other := with_other hrf who key other hne
  have HBK : Hid (withL (withL l who key) who (keyOf l who) = l) := with_back hrf who key
  obtain ⟨O, hO⟩ : ∃ O, O = othersL l who := ⟨_, rfl⟩
  have HOE : Hid (othersL (withL l who key) who = O) := by show _ = _; rw [hO]; exact with_others hrf who key
  have HOF : Hid (∀ (i : Nat) (hi : i < O.length), O[i] ≠ who ∧ keyOf l O[i] ≠ 0) := by subst hO; exact fun i hi => others_facts hrf who i hi
  have HOR : Hid (∀ (i j : Nat) (hj : j < O.length) (hij : i < j), O[i] < O[j]) := by subst hO; exact fun i j hj hij => others_rise hrf who i j hj hij
  have HOO : Hid (othersL l who = O) := hO.symm
  clear hO
  generalize hm : withL l who key = m at *
  have HM : Hid (withL l who key = m) := hm
  clear hm
  go_wp2_with fail
  clear hwho1 hwho1' hwho4 hwho4' hkey1 hkey1' hkey4 hkey4' he hk7 hk0 HW1 HW2 HR1 HR2 HR3 hne hrf how' hn6'
  go_region_held3 (fun w' => w'.cell? ⟨w.heap.size, 0, Option.none⟩ = some (.int .i64 g) ∧ w'.cell? ⟨w.heap.size, 1, Option.none⟩ = some (.slice a n c) ∧ w'.cell? ⟨w.heap.size, 2, Option.none⟩ = some (.int .i64 t) ∧ w'.cell? ⟨w.heap.size, 3, Option.none⟩ = some (.int .i64 h) ∧ w'.cell? ⟨w.heap.size, 4, Option.none⟩ = some (.bool y) ∧ w'.cell? ⟨w7.heap.size, 0, Option.none⟩ = some (.int .i64 g) ∧ w'.cell? ⟨w7.heap.size, 1, Option.none⟩ = some (.slice aT nT cT) ∧ w'.cell? ⟨w7.heap.size, 2, Option.none⟩ = some (.int .i64 t) ∧ w'.cell? ⟨w7.heap.size, 3, Option.none⟩ = some (.int .i64 h) ∧ w'.cell? ⟨w7.heap.size, 4, Option.none⟩ = some (.bool y) ∧ Below w7.heap.size w7 w')
    (first | exact ⟨c0, c1, c2, c3, c4, d0, d1, d2, d3, d4, hX⟩ | exact keep10 ((Below.refl _ _).drew) ⟨c0, c1, c2, c3, c4, d0, d1, d2, d3, d4, hX⟩ | exact keep10 (by assumption) (by assumption) | exact keep10 ((Below.refl _ _).drew) (by assumption))
    (first
      | (go_at_call_of 14 (#[Value.agg #[.int .i64 g, .slice aT nT cT, .int .i64 t, .int .i64 h, .bool y], Value.int .i64 who]); refine (key_any g t h aT nT cT y m who _ (by exact HRT.out.later (heldBelow10 (by assumption)))).mono ?_; rintro e v1 ⟨rfl, hc1⟩)
      | (go_at_call_of 14 (#[Value.agg #[.int .i64 g, .slice aT nT cT, .int .i64 t, .int .i64 h, .bool y], Value.int .i64 other]); refine (key_any g t h aT nT cT y m other _ (by exact HRT.out.later (heldBelow10 (by assumption)))).mono ?_; rintro e v2 ⟨rfl, hc2⟩)
      | (go_at_call_of 14 (#[Value.agg #[.int .i64 g, .slice a n c, .int .i64 t, .int .i64 h, .bool y], Value.int .i64 other]); refine (key_any g t h a n c y l other _ (by exact later7 hr bw7 (heldBelow10 (by assumption)))).mono ?_; rintro e v3 ⟨rfl, hc3⟩)
      | (go_at_call_of 14 (#[Value.agg #[.int .i64 g, .slice a n c, .int .i64 t, .int .i64 h, .bool y], Value.int .i64 who]); refine (key_any g t h a n c y l who _ (by exact later7 hr bw7 (heldBelow10 (by assumption)))).mono ?_; rintro e v4 ⟨rfl, hc4⟩)
      | (go_at_call 21; refine (with_any g t h aT nT cT y m who (keyOf l who) _ (by exact HRT.out.later (heldBelow10 (by assumption))) (by omega)).mono ?_; rintro e v5 ⟨aB, nB, cB, rfl, hr5, hc5⟩; rw [HBK.out] at hr5; have HRB : Hid (Row v5 aB nB l) := hr5; clear hr5)
      | (go_at_call 20; refine (sameState_any g t h aB a nB n cB c y l _ HRB.out (by exact later7 hr bw7 (heldBelow10 (by assumption)))).mono ?_; rintro e v6 ⟨rfl, hc6⟩))
  obtain ⟨xs6, xt6, hw6⟩ := held10 (w1 := v6) (W := w7) (k := w.heap.size) (m := w7.heap.size) (by assumption)
  clear c0 c1 c2 c3 c4 d0 d1 d2 d3 d4 hX
  obtain ⟨d0, d1, d2, d3, d4⟩ := id xt6
  go_wp2_with fail
  refine (others_any g t h aT nT cT y m who _ (HRT.out.later hw6) (by omega)).mono ?_
  rintro e w9 ⟨aO, nO, cO, rfl, hrO, hb9⟩
  rw [HOE.out] at hrO
  have x9 := xs6.later hb9
  have bw6' := bw7.trans (hw6.mono bw7.size)
  have bw9 := bw6'.trans (hb9.mono bw6'.size)
  have HRO : Hid (Nums w9 aO nO O) := hrO
  have hOn := hrO.1
  have hOm := hrO.2.1
  clear hrO hb9 bw6' xs6 xt6 d0 d1 d2 d3 d4 HOE k1e k2e
  go_wp2
  go_loopw [12] (fun i wr => ∃ k : Nat, k ≤ nO ∧ i = .int .i64 k ∧ Below w9.heap.size w9 wr) (fun i _ => nO - (intOf i).toNat)
  case atStart => exact ⟨0, Nat.zero_le _, rfl, Below.refl _ _⟩
  case round =>
    obtain ⟨k, hk, rfl, bwr⟩ := hrel
    have xr := x9.later bwr
    obtain ⟨c0, c1, c2, c3, c4⟩ := id xr
    by_cases hlt : k < nO
    · obtain ⟨bO, oO, rfl, hcO⟩ := (HRO.out.later bwr).2.2 (by omega)
      have hk0 := hcO k (by omega)
      obtain ⟨f1, f2⟩ := HOF.out k (by omega)
      have f1' : (O[k] == who) = false := by simpa using f1
      have f2' : (keyOf l O[k] == 0) = false := by simpa using f2
      have hki : (k : Int) < (nO : Int) := by omega
      rcases Nat.eq_zero_or_pos k with rfl | hpos
      · simp only [Nat.add_zero] at hk0
        clear hcO f1 f2
        go_wp2_with fail
        have bwx := bw9.trans (bwr.mono bw9.size)
        have q0 : ∀ p : LW wr, p.val.cell? ⟨w.heap.size, 0, Option.none⟩ = some (.int .i64 g) := fun p => cell_later p.ok c0
        have q1 : ∀ p : LW wr, p.val.cell? ⟨w.heap.size, 1, Option.none⟩ = some (.slice a n c) := fun p => cell_later p.ok c1
        have q2 : ∀ p : LW wr, p.val.cell? ⟨w.heap.size, 2, Option.none⟩ = some (.int .i64 t) := fun p => cell_later p.ok c2
        have q3 : ∀ p : LW wr, p.val.cell? ⟨w.heap.size, 3, Option.none⟩ = some (.int .i64 h) := fun p => cell_later p.ok c3
        have q4 : ∀ p : LW wr, p.val.cell? ⟨w.heap.size, 4, Option.none⟩ = some (.bool y) := fun p => cell_later p.ok c4
        have qk : ∀ p : LW wr, p.val.cell? ⟨bO, oO, Option.none⟩ = some (.int .i64 O[0]) := fun p => cell_later p.ok hk0
        clear c0 c1 c2 c3 c4 hk0
        have hinh : Nonempty (LW wr) := ⟨⟨wr, Below.refl _ _⟩⟩
        refine wp_region_lw (by kernel_rfl) (by kernel_rfl) ?_
        repeat (go_big_quiet_step ((go_at_call 14; exact Calls.quiet_lw (key_any g t h a n c y l O[0] _ (rowLW hr bwx _)))))
        refine wpQuiet_nil ?_
        rintro _ ⟨⟨wq, hbq⟩, rfl⟩
        go_wp2
        go_roundw
        case rel => exact ⟨1, by omega, by go_num, bwr.trans (hbq.mono bwr.size)⟩
        case measure => simp [intOf]; omega
      · obtain ⟨j, rfl⟩ : ∃ j, k = j + 1 := ⟨k - 1, by omega⟩
        have hkp := hcO j (by omega)
        have f3 := HOR.out j (j + 1) (by omega) (by omega)
        have f3' : decide (O[j + 1] ≤ O[j]) = false := by simp; omega
        clear hcO f1 f2
        go_wp2_with fail
        have bwx := bw9.trans (bwr.mono bw9.size)
        have q0 : ∀ p : LW wr, p.val.cell? ⟨w.heap.size, 0, Option.none⟩ = some (.int .i64 g) := fun p => cell_later p.ok c0
        have q1 : ∀ p : LW wr, p.val.cell? ⟨w.heap.size, 1, Option.none⟩ = some (.slice a n c) := fun p => cell_later p.ok c1
        have q2 : ∀ p : LW wr, p.val.cell? ⟨w.heap.size, 2, Option.none⟩ = some (.int .i64 t) := fun p => cell_later p.ok c2
        have q3 : ∀ p : LW wr, p.val.cell? ⟨w.heap.size, 3, Option.none⟩ = some (.int .i64 h) := fun p => cell_later p.ok c3
        have q4 : ∀ p : LW wr, p.val.cell? ⟨w.heap.size, 4, Option.none⟩ = some (.bool y) := fun p => cell_later p.ok c4
        have qk : ∀ p : LW wr, p.val.cell? ⟨bO, oO + (j + 1), Option.none⟩ = some (.int .i64 O[j + 1]) := fun p => cell_later p.ok hk0
        have qp : ∀ p : LW wr, p.val.cell? ⟨bO, oO + j, Option.none⟩ = some (.int .i64 O[j]) := fun p => cell_later p.ok hkp
        clear c0 c1 c2 c3 c4 hk0 hkp
        have hinh : Nonempty (LW wr) := ⟨⟨wr, Below.refl _ _⟩⟩
        refine wp_region_lw (by kernel_rfl) (by kernel_rfl) ?_
        repeat (go_big_quiet_step ((go_at_call 14; exact Calls.quiet_lw (key_any g t h a n c y l O[j + 1] _ (rowLW hr bwx _)))))
        refine wpQuiet_nil ?_
        rintro _ ⟨⟨wq, hbq⟩, rfl⟩
        go_wp2
        go_roundw
        case rel => exact ⟨j + 1 + 1, by omega, by go_num, bwr.trans (hbq.mono bwr.size)⟩
        case measure => simp [intOf]; omega
    · have hlt' : decide ((k : Int) < (nO : Int)) = false := by simp; omega
      have bw10 := bw9.trans (bwr.mono bw9.size)
      go_wp2_with fail
      refine (others_any g t h a n c y l who _ (hr.later bw10) (by omega)).mono ?_
      rintro e w11 ⟨aP, nP, cP, rfl, hrP, hb11⟩
      rw [HOO.out] at hrP
      have HRP : Hid (Nums w11 aP nP O) := hrP
      have bw11 := bw10.trans (hb11.mono bw10.size)
      have HRO2 : Hid (Nums w11 aO nO O) := (HRO.out.later bwr).later hb11
      clear hrP
      go_wp2_with fail
      refine (sameNums_any aO aP nO nP cO cP O _ HRO2.out HRP.out).mono ?_
      rintro e w12 ⟨rfl, hb12⟩
      go_wp2
      go_ret
      exact ⟨rfl, bw11.trans (hb12.mono bw11.size)⟩

set_option maxRecDepth 100000 in
theorem topKnown_lifted (os : Os) (started : os.Started) (H : Type) (enc : TypeId × Value → H) :
    ReturnsInHanded {} Try.checked os 7 .any (Rows.topKnownSpec.pre6 enc Try.prog Try.f7 Rows.topKnownRow.domain false) (Rows.topKnownSpec.post enc Try.prog Try.f7 false true false false) := by
  refine returnsInHanded_of_change (C := Try.checked) own started (by kernel_rfl) Try.func7
    (ChangeSpec.witness6 (enc := enc) (C := Try.checked) false ⟨#[], #[.agg #[.int .i64 0, .slice Option.none 0 0, .int .i64 0, .int .i64 0, .bool false], .int .i64 0, .int .i64 0, .int .i64 0], []⟩ 8 (by kernel_rfl) (by kernel_rfl) (by kernel_rfl) (by kernel_rfl)) ?_
  intro W base args ds gs before hval0 hW hcnd _
  have hval : ∀ (j : Nat) t v, Try.f7.params[j]? = some t → args[j]? = some v → Value.okWide Try.prog W .any base t v := hval0
  have hW' := hW
  obtain ⟨p, q, hA0, hV, rfl, hfz, hnd⟩ := hW
  have hA : DataW.TrodAll enc Try.prog W 0 (fun _ => true) true Try.f7.params.toList args.toList ds p := hA0
  rw [Try.params7] at hA hval
  obtain ⟨v0, v1, v2, v3, d0, d1, d2, d3, p0, p1, p2, p3, rfl, rfl, rfl, h0, h1, h2, h3⟩ := trodAll_four hA
  obtain ⟨rfl, rfl⟩ := trodVars_none hV
  have k0 := h0
  have lt0 : ∀ x ∈ p0, x.block < W.heap.size := by obtain ⟨m, hm⟩ := k0; exact DataW.trod_lt m _ _ _ hm
  obtain ⟨g0, a0, n0, c0, t0, hd0, y0, l0, rfl, row0⟩ := open_state (hval 0 24 v0 rfl rfl) h0
  obtain ⟨x1, rfl, rfl, rfl, wf1⟩ := open_int Try.underlying3 (hval 1 3 v1 rfl rfl) h1
  obtain ⟨x2, rfl, rfl, rfl, wf2⟩ := open_int Try.underlying3 (hval 2 3 v2 rfl rfl) h2
  obtain ⟨x3, rfl, rfl, rfl, wf3⟩ := open_int Try.underlying3 (hval 3 3 v3 rfl rfl) h3
  clear hA0 hval0
  refine (topKnown_walk g0 t0 hd0 a0 n0 c0 y0 l0 x1 x2 x3 W row0).mono fun e W' ⟨he, bel⟩ => ?_
  subst he
  exact ⟨_, rfl, _, _, _, [], _, [], hW', trodAll_mk1 (shut_bool Try.underlying4 _), (trodAll_cons_mk (Below.trod laidOut (by kernel_rfl) (of_decide_eq_true (by kernel_rfl)) k0 bel lt0) (trodAll_cons_mk (shut_int Try.underlying3 wf1) (trodAll_cons_mk (shut_int Try.underlying3 wf2) (trodAll_cons_mk (shut_int Try.underlying3 wf3) trodAll_mk0)))), rfl, bel.frame _, fun h => by cases h⟩

theorem topKnown_holds : Rows.TopKnownSaid :=
  OpenClaim.holds_of_wide 7 Try.f7 rfl rfl rfl rfl rfl rfl rfl ⟨rfl, rfl, rfl, rfl, rfl⟩ rfl rfl rfl rfl rfl (by kernel_rfl) Try.func7 (by kernel_rfl)
    (of_decide_eq_true (by kernel_rfl)) (by unfold Func.isWrapper; first | (rw [if_pos (by decide +kernel)]; kernel_rfl) | (rw [if_neg (by decide +kernel)]; exact ⟨rfl, rfl⟩))
    (fun os started H enc _ => topKnown_lifted os started H enc)
#print axioms topKnown_holds
end Go.Proofs.Ytpbfekcbjdgnjaa
