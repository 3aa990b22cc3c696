/- Proved: for any two states and every command, the law OrderSays returns true and leaves its arguments as they were; no condition beyond the row's own. -/
import Derived.Test.YtokjacbipmfjkaaORdAll
import Derived.Test.YtokjacbipmfjkaaOLessR
import Derived.Test.YtokjacbipmfjkaaOTop
import Derived.Test.YtokjacbipmfjkaaCFault
namespace Go.Proofs.Ytokjacbipmfjkaa
open Go.ChangeShapes Go.WideShapes Go.ChangeAt Go.RowKit Go.Deep

theorem chk_nonneg (n : Int) (has : Bool) (most : Int) : 0 ≤ K.chkN n has most := by unfold K.chkN; repeat' split; all_goals omega
theorem cmdF_nonneg (op who key new kind at' : Int) (st : Bool) (da wa : ByteArray) : 0 ≤ K.cmdF op who key new kind at' st da wa := by
  have hn : 0 ≤ K.numsF (K.hasKey op) (K.hasNew op) (K.hasAt op) key new at' := by
    unfold K.numsF
    split
    · exact chk_nonneg _ _ _
    · split
      · exact chk_nonneg _ _ _
      · exact chk_nonneg _ _ _
  unfold K.cmdF
  repeat' split
  all_goals first | exact hn | omega
theorem do_f (g t h : Int) (y : Bool) (l : List (Int × Int)) (op who key new kind : Int) (st : Bool) : 0 ≤ (doF g t h y l op who key new kind st).f := by
  unfold doF registerF reserveF releaseF clearF preemptF
  repeat' split
  all_goals first | exact Int.le_refl 0 | (show (0 : Int) ≤ 4; decide) | (show (0 : Int) ≤ 5; decide) | (show (0 : Int) ≤ 2; decide)

set_option maxHeartbeats 4000000 in
theorem orders_any (w : World) : Calls Try.prog 8 #[] w fun e w' => e = .returned (.bool true) ∧ Below w.heap.size w w' := by
  go_enter Try.func8, Try.ntmps8
  go_wp2_with fail
  refine (do_any 0 0 0 Option.none 0 0 false [] 1 1 0 5 0 0 false _ _ w (row_nil _) (by decide) (by decide)).mono ?_
  rintro e w1 ⟨⟨a2, n2, k2, a3, n3, k3, rfl, hrx, hry, hnx, hny⟩, hb1⟩
  rw [do_one] at hrx hry ⊢
  obtain rfl : n2 = 1 := hrx.1.symm
  obtain rfl : n3 = 0 := hry.1.symm
  clear hrx hry hnx hny
  go_wp2_with fail
  refine (same_any 0 (by decide) _).mono ?_
  rintro e w2 ⟨rfl, rfl⟩
  go_wp2
  go_ret
  exact ⟨rfl, hb1.alloc hb1.size _⟩

/-- The three blocks that a function of two states and a command lays first. -/
theorem laidSTC (w : World) (g : Int) (a : Option Addr) (n c : Nat) (t h : Int) (y : Bool) (g' : Int) (a' : Option Addr) (n' c' : Nat) (t' h' : Int) (y' : Bool) (op who key new kind at' : Int) (st : Bool) (da wa : ByteArray) :
    ∃ X, X = ((w.alloc (.cells #[.int .i64 g, .slice a n c, .int .i64 t, .int .i64 h, .bool y] 24)).alloc (.cells #[.int .i64 g', .slice a' n' c', .int .i64 t', .int .i64 h', .bool y'] 24)).alloc (.cells #[.int .i64 op, .int .i64 who, .int .i64 key, .int .i64 new, .int .i64 kind, .int .i64 at', .bool st, .string da, .string wa] 26) ∧
      Below w.heap.size w X ∧ X.heap.size = w.heap.size + 3 ∧ StB X w.heap.size g a n c t h y ∧ StB X (w.heap.size + 1) g' a' n' c' t' h' y' ∧ CmB X (w.heap.size + 2) op who key new kind at' st da wa := by
  obtain ⟨X, hX, bX, sX, S0, T0⟩ := laidStates w g a n c t h y g' a' n' c' t' h' y'
  have hb : Below X.heap.size X (X.alloc (.cells #[.int .i64 op, .int .i64 who, .int .i64 key, .int .i64 new, .int .i64 kind, .int .i64 at', .bool st, .string da, .string wa] 26)) := (Below.refl _ _).alloc (Nat.le_refl _) _
  refine ⟨_, by rw [← hX], bX.trans (hb.mono bX.size), by simp; omega, S0.later hb (by omega), T0.later hb (by omega), ?_⟩
  unfold CmB
  rw [← sX]
  exact heap_alloc_new X _

theorem Calls.eq_lw {P : Program} {f : FuncId} {args : Array Value} {wr : World} {p : LW wr} {v : Value} (h : Calls P f args p.val fun e w' => e = .returned v ∧ p.val = w') : Calls P f args p.val fun e w'' => e = .returned v ∧ ∃ q : LW wr, w'' = q.val :=
  Calls.quiet_lw (h.mono fun _ _ ⟨h1, h2⟩ => ⟨h1, h2 ▸ Below.refl _ _⟩)

set_option maxRecDepth 100000 in
set_option maxHeartbeats 8000000 in
theorem orderSays_walk (g t h : Int) (a : Option Addr) (n c : Nat) (y : Bool) (l : List (Int × Int)) (g' t' h' : Int) (a' : Option Addr) (n' c' : Nat) (y' : Bool) (l' : List (Int × Int)) (op who key new kind at' : Int) (st : Bool) (da wa : ByteArray) (w : World) (hr : Row w a n l) (hr' : Row w a' n' l') (hd : da.size ≤ 9223372036854775807) (hw : wa.size ≤ 9223372036854775807) :
    Calls Try.prog 3 #[stV g a n c t h y, stV g' a' n' c' t' h' y', cmV op who key new kind at' st da wa] w fun e w' => e = .returned (.bool true) ∧ Below w.heap.size w w' := by
  obtain ⟨X, hX, bX, sX, S0, T0, C0⟩ := laidSTC w g a n c t h y g' a' n' c' t' h' y' op who key new kind at' st da wa
  go_enter Try.func3, Try.ntmps3
  go_wp2_with fail
  rw [← hX]
  clear hX
  refine (orders_any X).mono ?_
  rintro e w1 ⟨rfl, hb1⟩
  have bw := bX.trans (hb1.mono bX.size)
  have S := S0.later hb1 (by omega)
  have T := T0.later hb1 (by omega)
  have C := C0.later hb1 (by omega)
  have hs1 := hb1.size
  have hn := hr.2.1
  have hn' := hr'.2.1
  clear S0 T0 C0 hb1 bX
  obtain ⟨⟨c0, c1, c2, c3, c4⟩, _⟩ := S.cells
  obtain ⟨⟨b0, b1, b2, b3, b4⟩, _⟩ := T.cells
  obtain ⟨d0, d1, d2, d3, d4, d5, d6, d7, d8⟩ := C.cells
  go_wp2_with fail
  clear c0 c1 c2 c3 c4 b0 b1 b2 b3 b4 d0 d1 d2 d3 d4 d5 d6 d7 d8
  refine (light_any g t h a n c y _ hn).mono ?_
  rintro e w2 ⟨rfl, hbn⟩
  have bw := bw.trans (hbn.mono bw.size)
  have hsn := hbn.size
  have S := S.later hbn S.lt
  have T := T.later hbn T.lt
  have C := C.later hbn (by omega)
  clear hbn
  by_cases hk : n ≤ 6
  case neg =>
    have hk1 : decide (n ≤ 6) = false := by simpa using hk
    clear hk
    go_wp2
    go_ret
    exact ⟨rfl, bw⟩
  have hk1 : decide (n ≤ 6) = true := by simpa using hk
  have H6 : Hid (n ≤ 6) := hk
  clear hk
  obtain ⟨⟨c0, c1, c2, c3, c4⟩, _⟩ := S.cells
  obtain ⟨⟨b0, b1, b2, b3, b4⟩, _⟩ := T.cells
  obtain ⟨d0, d1, d2, d3, d4, d5, d6, d7, d8⟩ := C.cells
  go_wp2_with fail
  clear c0 c1 c2 c3 c4 b0 b1 b2 b3 b4 d0 d1 d2 d3 d4 d5 d6 d7 d8
  refine (light_any g' t' h' a' n' c' y' _ hn').mono ?_
  rintro e w3 ⟨rfl, hbn⟩
  have bw := bw.trans (hbn.mono bw.size)
  have hsn := hbn.size
  have S := S.later hbn S.lt
  have T := T.later hbn T.lt
  have C := C.later hbn (by omega)
  clear hbn
  by_cases hk : n' ≤ 6
  case neg =>
    have hk2 : decide (n' ≤ 6) = false := by simpa using hk
    clear hk
    go_wp2
    go_ret
    exact ⟨rfl, bw⟩
  have hk2 : decide (n' ≤ 6) = true := by simpa using hk
  clear hk
  obtain ⟨⟨c0, c1, c2, c3, c4⟩, _⟩ := S.cells
  obtain ⟨⟨b0, b1, b2, b3, b4⟩, _⟩ := T.cells
  obtain ⟨d0, d1, d2, d3, d4, d5, d6, d7, d8⟩ := C.cells
  go_wp2_with fail
  clear c0 c1 c2 c3 c4 b0 b1 b2 b3 b4 d0 d1 d2 d3 d4 d5 d6 d7 d8
  refine (lightCmd_any op who key new kind at' st da wa _ hd hw).mono ?_
  rintro e w4 ⟨rfl, hbn⟩
  have bw := bw.trans (hbn.mono bw.size)
  have hsn := hbn.size
  have S := S.later hbn S.lt
  have T := T.later hbn T.lt
  have C := C.later hbn (by omega)
  clear hbn
  by_cases hk : da.size ≤ 20 ∧ wa.size ≤ 20
  case neg =>
    rw [decide_eq_false hk]
    clear hk
    go_wp2
    go_ret
    exact ⟨rfl, bw⟩
  rw [decide_eq_true hk]
  clear hk
  obtain ⟨⟨c0, c1, c2, c3, c4⟩, _⟩ := S.cells
  obtain ⟨⟨b0, b1, b2, b3, b4⟩, _⟩ := T.cells
  obtain ⟨d0, d1, d2, d3, d4, d5, d6, d7, d8⟩ := C.cells
  go_wp2_with fail
  clear c0 c1 c2 c3 c4 b0 b1 b2 b3 b4 d0 d1 d2 d3 d4 d5 d6 d7 d8
  refine (stateFault_any g t h a n c y l _ (hr.later bw)).mono ?_
  rintro e w5 ⟨rfl, hbn⟩
  have bw := bw.trans (hbn.mono bw.size)
  have hsn := hbn.size
  have S := S.later hbn S.lt
  have T := T.later hbn T.lt
  have C := C.later hbn (by omega)
  clear hbn
  by_cases hk : fault g t h l = 0
  case neg =>
    have hk3 : decide (0 < fault g t h l) = true := by have := fault_nonneg g t h l; simp; omega
    clear hk
    go_wp2
    go_ret
    exact ⟨rfl, bw⟩
  rw [hk]
  have HF : Hid (fault g t h l = 0) := hk
  clear hk
  obtain ⟨⟨c0, c1, c2, c3, c4⟩, _⟩ := S.cells
  obtain ⟨⟨b0, b1, b2, b3, b4⟩, _⟩ := T.cells
  obtain ⟨d0, d1, d2, d3, d4, d5, d6, d7, d8⟩ := C.cells
  go_wp2_with fail
  clear c0 c1 c2 c3 c4 b0 b1 b2 b3 b4 d0 d1 d2 d3 d4 d5 d6 d7 d8
  refine (stateFault_any g' t' h' a' n' c' y' l' _ (hr'.later bw)).mono ?_
  rintro e w6 ⟨rfl, hbn⟩
  have bw := bw.trans (hbn.mono bw.size)
  have hsn := hbn.size
  have S := S.later hbn S.lt
  have T := T.later hbn T.lt
  have C := C.later hbn (by omega)
  clear hbn
  by_cases hk : fault g' t' h' l' = 0
  case neg =>
    have hk3 : decide (0 < fault g' t' h' l') = true := by have := fault_nonneg g' t' h' l'; simp; omega
    clear hk
    go_wp2
    go_ret
    exact ⟨rfl, bw⟩
  rw [hk]
  have HF' : Hid (fault g' t' h' l' = 0) := hk
  clear hk
  obtain ⟨⟨c0, c1, c2, c3, c4⟩, _⟩ := S.cells
  obtain ⟨⟨b0, b1, b2, b3, b4⟩, _⟩ := T.cells
  obtain ⟨d0, d1, d2, d3, d4, d5, d6, d7, d8⟩ := C.cells
  go_wp2_with fail
  clear c0 c1 c2 c3 c4 b0 b1 b2 b3 b4 d0 d1 d2 d3 d4 d5 d6 d7 d8
  refine (K.fault_any op who key new kind at' st da wa hd hw _).mono ?_
  rintro e w7 ⟨rfl, hbn⟩
  have bw := bw.trans (hbn.mono bw.size)
  have hsn := hbn.size
  have S := S.later hbn S.lt
  have T := T.later hbn T.lt
  have C := C.later hbn (by omega)
  clear hbn
  by_cases hk : K.cmdF op who key new kind at' st da wa = 0
  case neg =>
    have hk3 : decide (0 < K.cmdF op who key new kind at' st da wa) = true := by have := cmdF_nonneg op who key new kind at' st da wa; simp; omega
    clear hk
    go_wp2
    go_ret
    exact ⟨rfl, bw⟩
  rw [hk]
  have HC : Hid (CmdOk op who key new kind) := cmd_ok hk
  clear hk
  have hn9 : n ≤ 900 := by have := H6.out; omega
  obtain ⟨⟨c0, c1, c2, c3, c4⟩, _⟩ := S.cells
  obtain ⟨⟨b0, b1, b2, b3, b4⟩, _⟩ := T.cells
  obtain ⟨d0, d1, d2, d3, d4, d5, d6, d7, d8⟩ := C.cells
  go_wp2_with fail
  clear c0 c1 c2 c3 c4 b0 b1 b2 b3 b4 d0 d1 d2 d3 d4 d5 d6 d7 d8
  refine (do_any g t h a n c y l op who key new kind at' st da wa _ (hr.later bw) hn9 (fault_g HF.out)).mono ?_
  rintro e w8 ⟨⟨a2, n2, k2, a3, n3, k3, rfl, hrx, hry, _, _⟩, hbn⟩
  have bw := bw.trans (hbn.mono bw.size)
  have hsn := hbn.size
  have S := S.later hbn S.lt
  have T := T.later hbn T.lt
  have C := C.later hbn (by omega)
  clear hbn
  obtain ⟨oo, hoo⟩ : ∃ oo, oo = doF g t h y l op who key new kind st := ⟨_, rfl⟩
  rw [← hoo] at hrx hry ⊢
  have HOO : Hid (oo = doF g t h y l op who key new kind st) := hoo
  have HOF : Hid (0 ≤ oo.f) := by show 0 ≤ _; rw [hoo]; exact do_f _ _ _ _ _ _ _ _ _ _ _
  clear hoo
  obtain ⟨V, hV⟩ : ∃ V, V = w8.alloc (.cells #[.int .i64 oo.g, .slice a2 n2 k2, .int .i64 oo.t, .int .i64 oo.h, .bool oo.y] 24) := ⟨_, rfl⟩
  have P : StB V w8.heap.size oo.g a2 n2 k2 oo.t oo.h oo.y := by rw [hV]; exact heap_alloc_new w8 _
  have hbn : Below w8.heap.size w8 V := by rw [hV]; exact (Below.refl _ _).alloc (Nat.le_refl _) _
  have hrx := hrx.later hbn
  have hry := hry.later hbn
  go_upto_region 5 with fail
  rw [← hV]
  clear hV
  have bw := bw.trans (hbn.mono bw.size)
  have hsn := hbn.size
  have S := S.later hbn S.lt
  have T := T.later hbn T.lt
  have C := C.later hbn (by omega)
  clear hbn
  obtain ⟨⟨c0, c1, c2, c3, c4⟩, _⟩ := S.cells
  obtain ⟨⟨b0, b1, b2, b3, b4⟩, _⟩ := T.cells
  obtain ⟨d0, d1, d2, d3, d4, d5, d6, d7, d8⟩ := C.cells
  go_wp2_with fail
  clear c0 c1 c2 c3 c4 b0 b1 b2 b3 b4 d0 d1 d2 d3 d4 d5 d6 d7 d8
  refine (rordered_any g t h a n c y l op who key new kind at' st da wa _ (hr.later bw) hn9 HF.out HC.out).mono ?_
  rintro e w9 ⟨⟨a4, n4, k4, a5, n5, k5, rfl, hrz, hrw⟩, hbn⟩
  rw [← HOO.out] at hrz hrw ⊢
  have hrx := hrx.later hbn
  have hry := hry.later hbn
  have P := P.later hbn P.lt
  have bw := bw.trans (hbn.mono bw.size)
  have hsn := hbn.size
  have S := S.later hbn S.lt
  have T := T.later hbn T.lt
  have C := C.later hbn (by omega)
  clear hbn
  obtain ⟨V2, hV⟩ : ∃ V, V = w9.alloc (.cells #[.int .i64 oo.g, .slice a4 n4 k4, .int .i64 oo.t, .int .i64 oo.h, .bool oo.y] 24) := ⟨_, rfl⟩
  have Q : StB V2 w9.heap.size oo.g a4 n4 k4 oo.t oo.h oo.y := by rw [hV]; exact heap_alloc_new w9 _
  have hbn : Below w9.heap.size w9 V2 := by rw [hV]; exact (Below.refl _ _).alloc (Nat.le_refl _) _
  go_upto_region 6 with fail
  rw [← hV]
  clear hV
  have hrx := hrx.later hbn
  have hry := hry.later hbn
  have hrz := hrz.later hbn
  have hrw := hrw.later hbn
  have P := P.later hbn P.lt
  have bw := bw.trans (hbn.mono bw.size)
  have hsn := hbn.size
  have S := S.later hbn S.lt
  have T := T.later hbn T.lt
  have C := C.later hbn (by omega)
  clear hbn
  obtain ⟨bb, hbb⟩ : ∃ bb, bb = decide (LessP t h l t' h' l') := ⟨_, rfl⟩
  have hbr : decide (RLessP t h l t' h' l') = bb := by rw [hbb]; exact (decide_eq_decide.2 (less_iff HF.out HF'.out)).symm
  have HBB : Hid (decide (LessP t h l t' h' l') = bb) := hbb.symm
  have HBR : Hid (decide (RLessP t h l t' h' l') = bb) := hbr
  clear hbb hbr
  obtain ⟨⟨c0, c1, c2, c3, c4⟩, _⟩ := S.cells
  obtain ⟨⟨b0, b1, b2, b3, b4⟩, _⟩ := T.cells
  obtain ⟨d0, d1, d2, d3, d4, d5, d6, d7, d8⟩ := C.cells
  obtain ⟨⟨e0, e1, e2, e3, e4⟩, _⟩ := P.cells
  obtain ⟨⟨f0, f1, f2, f3, f4⟩, _⟩ := Q.cells
  have q0 : ∀ p : LW V2, p.val.cell? ⟨w.heap.size, 0, Option.none⟩ = some (.int .i64 g) := fun p => cell_later p.ok c0
  have q1 : ∀ p : LW V2, p.val.cell? ⟨w.heap.size, 1, Option.none⟩ = some (.slice a n c) := fun p => cell_later p.ok c1
  have q2 : ∀ p : LW V2, p.val.cell? ⟨w.heap.size, 2, Option.none⟩ = some (.int .i64 t) := fun p => cell_later p.ok c2
  have q3 : ∀ p : LW V2, p.val.cell? ⟨w.heap.size, 3, Option.none⟩ = some (.int .i64 h) := fun p => cell_later p.ok c3
  have q4 : ∀ p : LW V2, p.val.cell? ⟨w.heap.size, 4, Option.none⟩ = some (.bool y) := fun p => cell_later p.ok c4
  have q5 : ∀ p : LW V2, p.val.cell? ⟨w.heap.size + 1, 0, Option.none⟩ = some (.int .i64 g') := fun p => cell_later p.ok b0
  have q6 : ∀ p : LW V2, p.val.cell? ⟨w.heap.size + 1, 1, Option.none⟩ = some (.slice a' n' c') := fun p => cell_later p.ok b1
  have q7 : ∀ p : LW V2, p.val.cell? ⟨w.heap.size + 1, 2, Option.none⟩ = some (.int .i64 t') := fun p => cell_later p.ok b2
  have q8 : ∀ p : LW V2, p.val.cell? ⟨w.heap.size + 1, 3, Option.none⟩ = some (.int .i64 h') := fun p => cell_later p.ok b3
  have q9 : ∀ p : LW V2, p.val.cell? ⟨w.heap.size + 1, 4, Option.none⟩ = some (.bool y') := fun p => cell_later p.ok b4
  have q10 : ∀ p : LW V2, p.val.cell? ⟨w8.heap.size, 0, Option.none⟩ = some (.int .i64 oo.g) := fun p => cell_later p.ok e0
  have q11 : ∀ p : LW V2, p.val.cell? ⟨w8.heap.size, 1, Option.none⟩ = some (.slice a2 n2 k2) := fun p => cell_later p.ok e1
  have q12 : ∀ p : LW V2, p.val.cell? ⟨w8.heap.size, 2, Option.none⟩ = some (.int .i64 oo.t) := fun p => cell_later p.ok e2
  have q13 : ∀ p : LW V2, p.val.cell? ⟨w8.heap.size, 3, Option.none⟩ = some (.int .i64 oo.h) := fun p => cell_later p.ok e3
  have q14 : ∀ p : LW V2, p.val.cell? ⟨w8.heap.size, 4, Option.none⟩ = some (.bool oo.y) := fun p => cell_later p.ok e4
  have q15 : ∀ p : LW V2, p.val.cell? ⟨w9.heap.size, 0, Option.none⟩ = some (.int .i64 oo.g) := fun p => cell_later p.ok f0
  have q16 : ∀ p : LW V2, p.val.cell? ⟨w9.heap.size, 1, Option.none⟩ = some (.slice a4 n4 k4) := fun p => cell_later p.ok f1
  have q17 : ∀ p : LW V2, p.val.cell? ⟨w9.heap.size, 2, Option.none⟩ = some (.int .i64 oo.t) := fun p => cell_later p.ok f2
  have q18 : ∀ p : LW V2, p.val.cell? ⟨w9.heap.size, 3, Option.none⟩ = some (.int .i64 oo.h) := fun p => cell_later p.ok f3
  have q19 : ∀ p : LW V2, p.val.cell? ⟨w9.heap.size, 4, Option.none⟩ = some (.bool oo.y) := fun p => cell_later p.ok f4
  have hinh : Nonempty (LW V2) := ⟨⟨V2, Below.refl _ _⟩⟩
  have C1 : Hid (∀ p : LW V2, Calls Try.prog 15 #[errV oo.f, .int .i64 oo.f] p.val fun e w'' => e = .returned (.bool true) ∧ ∃ q : LW V2, w'' = q.val) := fun p => Calls.eq_lw (same_any oo.f HOF.out p.val)
  have C2 : Hid (∀ p : LW V2, Calls Try.prog 16 #[stV oo.g a2 n2 k2 oo.t oo.h oo.y, stV oo.g a4 n4 k4 oo.t oo.h oo.y] p.val fun e w'' => e = .returned (.bool true) ∧ ∃ q : LW V2, w'' = q.val) := fun p => Calls.quiet_lw (sameState_any oo.g oo.t oo.h a2 a4 n2 n4 k2 k4 oo.y oo.l p.val (hrx.later p.ok) (hrz.later p.ok))
  have C3 : Hid (∀ p : LW V2, Calls Try.prog 17 #[.slice a3 n3 k3, .slice a5 n5 k5] p.val fun e w'' => e = .returned (.bool true) ∧ ∃ q : LW V2, w'' = q.val) := fun p => Calls.quiet_lw (sameTells_any a3 a5 n3 n5 k3 k5 oo.tl p.val (hry.later p.ok) (hrw.later p.ok))
  have C4 : Hid (∀ p : LW V2, Calls Try.prog 18 #[stV g a n c t h y, stV g' a' n' c' t' h' y', .func (.func 19) #[] #[]] p.val fun e w'' => e = .returned (.bool bb) ∧ ∃ q : LW V2, w'' = q.val) := fun p => by
    have := less_any g t h a n c y l g' t' h' a' n' c' y' l' p.val (hr.later (bw.trans (p.ok.mono bw.size))) (hr'.later (bw.trans (p.ok.mono bw.size)))
    rw [HBB.out] at this
    exact Calls.quiet_lw this
  have C5 : Hid (∀ p : LW V2, Calls Try.prog 20 #[stV g a n c t h y, stV g' a' n' c' t' h' y'] p.val fun e w'' => e = .returned (.bool bb) ∧ ∃ q : LW V2, w'' = q.val) := fun p => by
    have := lessened_any g t h a n c y l g' t' h' a' n' c' y' l' p.val (hr.later (bw.trans (p.ok.mono bw.size))) (hr'.later (bw.trans (p.ok.mono bw.size)))
    rw [HBR.out] at this
    exact Calls.quiet_lw this
  clear c0 c1 c2 c3 c4 b0 b1 b2 b3 b4 d0 d1 d2 d3 d4 d5 d6 d7 d8 e0 e1 e2 e3 e4 f0 f1 f2 f3 f4 S T C P Q hrx hry hrz hrw HBB HBR
  have hbeq : (bb == bb) = true := by simp
  refine wp_region_lw (by kernel_rfl) (by kernel_rfl) ?_
  repeat (go_big_quiet_step ((first | (go_at_call 15; exact C1.out _) | (go_at_call 16; exact C2.out _) | (go_at_call 17; exact C3.out _) | (go_at_call 18; exact C4.out _) | (go_at_call 20; exact C5.out _))))
  refine wpQuiet_nil ?_
  rintro w10 ⟨⟨_, hbq⟩, rfl⟩
  go_wp2
  go_ret
  exact ⟨ret_bool (by simp), bw.trans (hbq.mono bw.size)⟩

set_option maxRecDepth 100000 in
theorem orderSays_lifted (os : Os) (started : os.Started) (H : Type) (enc : TypeId × Value → H) :
    ReturnsInHanded {} Try.checked os 3 .any (Rows.orderSaysSpec.pre6 enc Try.prog Try.f3 Rows.orderSaysRow.domain false) (Rows.orderSaysSpec.post enc Try.prog Try.f3 false true false false) := by
  refine returnsInHanded_of_change (C := Try.checked) own started (by kernel_rfl) Try.func3
    (ChangeSpec.witness6 (enc := enc) (C := Try.checked) false ⟨#[], #[stV 0 Option.none 0 0 0 0 false, stV 0 Option.none 0 0 0 0 false, cmV 0 0 0 0 0 0 false ⟨#[]⟩ ⟨#[]⟩], []⟩ 8 (by kernel_rfl) (by kernel_rfl) (by kernel_rfl) (by kernel_rfl)) ?_
  intro W base args ds gs before hval0 hW hcnd _
  have hval : ∀ (j : Nat) t v, Try.f3.params[j]? = some t → args[j]? = some v → Value.okWide Try.prog W .any base t v := hval0
  have hW' := hW
  obtain ⟨p, q, hA0, hV, rfl, hfz, hnd⟩ := hW
  have hA : DataW.TrodAll enc Try.prog W 0 (fun _ => true) true Try.f3.params.toList args.toList ds p := hA0
  rw [Try.params3] at hA hval
  obtain ⟨v0, v1, v2, d0, d1, d2, p0, p1, p2, rfl, rfl, rfl, h0, h1, h2⟩ := trodAll_three hA
  obtain ⟨rfl, rfl⟩ := trodVars_none hV
  have k0 := h0
  have k1 := h1
  have k2 := h2
  have lt0 : ∀ x ∈ p0, x.block < W.heap.size := by obtain ⟨m, hm⟩ := k0; exact DataW.trod_lt m _ _ _ hm
  have lt1 : ∀ x ∈ p1, x.block < W.heap.size := by obtain ⟨m, hm⟩ := k1; exact DataW.trod_lt m _ _ _ hm
  have lt2 : ∀ x ∈ p2, x.block < W.heap.size := by obtain ⟨m, hm⟩ := k2; exact DataW.trod_lt m _ _ _ hm
  obtain ⟨g0, a0, n0, c0, t0, hd0, y0, l0, rfl, row0⟩ := open_state (hval 0 24 v0 rfl rfl) h0
  obtain ⟨g1, a1, n1, c1, t1, hd1, y1, l1, rfl, row1⟩ := open_state (hval 1 24 v1 rfl rfl) h1
  obtain ⟨op, who, key, new, kind, at', st, da, wa, rfl, _, hd, hw⟩ := open_command (hval 2 26 v2 rfl rfl) h2
  clear hA0 hval0
  refine (orderSays_walk g0 t0 hd0 a0 n0 c0 y0 l0 g1 t1 hd1 a1 n1 c1 y1 l1 op who key new kind at' st da wa W row0 row1 hd hw).mono fun e W' ⟨he, bel⟩ => ?_
  subst he
  exact ⟨_, rfl, _, _, _, [], _, [], hW', trodAll_mk1 (shut_bool Try.underlying4 _), (trodAll_cons_mk (Below.trod laidOut (by kernel_rfl) (of_decide_eq_true (by kernel_rfl)) k0 bel lt0) (trodAll_cons_mk (Below.trod laidOut (by kernel_rfl) (of_decide_eq_true (by kernel_rfl)) k1 bel lt1) (trodAll_cons_mk (Below.trod laidOut (by kernel_rfl) (of_decide_eq_true (by kernel_rfl)) k2 bel lt2) trodAll_mk0))), rfl, bel.frame _, fun h => by cases h⟩

theorem orderSays_holds : Rows.OrderSaysSaid :=
  OpenClaim.holds_of_wide 3 Try.f3 rfl rfl rfl rfl rfl rfl rfl ⟨rfl, rfl, rfl, rfl, rfl⟩ rfl rfl rfl rfl rfl (by kernel_rfl) Try.func3 (by kernel_rfl)
    (of_decide_eq_true (by kernel_rfl)) (by unfold Func.isWrapper; first | (rw [if_pos (by decide +kernel)]; kernel_rfl) | (rw [if_neg (by decide +kernel)]; exact ⟨rfl, rfl⟩))
    (fun os started H enc _ => orderSays_lifted os started H enc)
#print axioms orderSays_holds
end Go.Proofs.Ytokjacbipmfjkaa
