/- Proved: the tied card of the law ReportSays: for every state and every text she returns true and leaves her arguments as they were, where the listed variables of the library hold what the program's own text lays there. -/
import Derived.Test.YthkckogbjdbnnaaDoorRStOf
import Derived.Test.YthkckogbjdbnnaaDoorSameS
import Derived.Test.YthkckogbjdbnnaaDoorNumsSame
import Derived.Test.YthkckogbjdbnnaaDoorTLift
import Derived.Test.YthkckogbjdbnnaaDoorOpen
import Derived.Test.YthkckogbjdbnnaaDoorTie
import Derived.Test.YthkckogbjdbnnaaDoorCards
import Derived.Lib.LaidTab
import Derived.SevenTiedAt
namespace Go.Proofs.YthkckogbjdbnnaaDoor
open Go.ChangeShapes Go.WideShapes Go.ChangeAt Go.RowKit Go.Maps Go.Deep Go.Proofs.YthkckogbjdbnnaaDoor.K

theorem sok0 : SOK 0 0 0 [] := ⟨by decide, by decide, by decide, by decide, by decide, by decide, by decide, fun r hr => by cases hr⟩
set_option maxHeartbeats 8000000 in
set_option maxRecDepth 100000 in
theorem reports_any (w : World) (hL : Laid w) : Calls Tryd.prog 19 #[] w fun e w' => e = .returned (.bool true) ∧ Below w.heap.size w w' := by
  have hf : fault 3 1 2 [(2, 7)] = 0 := by decide
  have F : SOK 3 1 2 [(2, 7)] := sok_of hf (by decide)
  have hx : stTxt 3 1 2 true [(2, 7)] = [51, 32, 49, 32, 50, 32, 115, 116, 97, 121, 115, 32, 50, 58, 55] := by decide +kernel
  obtain ⟨b0, b1, b2, b3, b4⟩ := st_back true F
  rw [hx] at b0 b1 b2 b3 b4
  have HF : Hid (fault 3 1 2 [(2, 7)] = 0) := hf
  have HX : Hid (stTxt 3 1 2 true [(2, 7)] = [51, 32, 49, 32, 50, 32, 115, 116, 97, 121, 115, 32, 50, 58, 55]) := hx
  clear hf hx
  go_enter Tryd.func19, Tryd.ntmps19
  go_wp2_with fail
  refine (rparse_aux [51, 32, 49, 32, 50, 32, 115, 116, 97, 121, 115, 32, 50, 58, 55] w hL (by decide) 3 1 2 true [(2, 7)] b0 b1 b2 b3 b4).mono ?_
  rintro e W1 ⟨hres, hb1⟩
  rcases hres with ⟨a, c, _, rfl, hrow⟩ | ⟨hno, _⟩
  case inr => exact absurd ⟨HF.out, HX.out⟩ hno
  have bX := hb1
  have HR : Hid (Row W1 a 1 [(2, 7)]) := hrow
  clear hb1 b0 b1 b2 b3 b4 hrow
  obtain ⟨Y, hY⟩ : ∃ Y, Y = W1.alloc (.cells #[.int .i64 3, .slice a 1 c, .int .i64 1, .int .i64 2, .bool true] 44) := ⟨_, rfl⟩
  have A3 : At Y W1.heap.size [.int .i64 3, .slice a 1 c, .int .i64 1, .int .i64 2, .bool true] 44 := by rw [hY]; exact heap_alloc_new W1 _
  have bY : Below W1.heap.size W1 Y := by rw [hY]; exact (Below.refl _ _).alloc (Nat.le_refl _) _
  have HRY : Hid (Row Y a 1 [(2, 7)]) := HR.out.later bY
  replace bX := bX.trans (bY.mono bX.size)
  have e0 : Y.cell? ⟨W1.heap.size, 0, Option.none⟩ = some (.int .i64 3) := A3.cell 0
  have e3 : Y.cell? ⟨W1.heap.size, 3, Option.none⟩ = some (.int .i64 2) := A3.cell 3
  have HL3 : Hid ((Instr.loadAt 44 (.pointer (some ⟨W1.heap.size, 0, Option.none⟩))).run Tryd.prog Y = .ok (.agg [.int .i64 3, .slice a 1 c, .int .i64 1, .int .i64 2, .bool true].toArray) Y) := load_st A3 rfl
  clear bY A3 HR
  go_upto_region 2 with fail
  rw [← hY]
  clear hY
  go_wp2_with fail
  refine (same_any 0 (by decide) Y).mono ?_
  rintro e _ ⟨rfl, rfl⟩
  go_wp2_with (with_reducible refine wl_load HL3.out rfl rfl ?_)
  clear HL3
  refine (rtext_ok 3 1 2 true a 1 c [(2, 7)] Y (hL.later bX) HRY.out F).mono ?_
  rintro e W3 ⟨rfl, hb3⟩
  rw [HX.out]
  replace bX := bX.trans (hb3.mono bX.size)
  clear hb3 e0 e3 F
  go_wp2
  go_ret
  exact ⟨by simp, bX⟩

/-- Six facts of a boxed state hold on. -/
theorem s5_later {W1 W W' : World} {b : Nat} {v0 v1 v2 v3 v4 : Value} (hb : Below W.heap.size W W') (h : W.cell? ⟨b, 0, Option.none⟩ = some v0 ∧ W.cell? ⟨b, 1, Option.none⟩ = some v1 ∧ W.cell? ⟨b, 2, Option.none⟩ = some v2 ∧ W.cell? ⟨b, 3, Option.none⟩ = some v3 ∧ W.cell? ⟨b, 4, Option.none⟩ = some v4 ∧ Below W1.heap.size W1 W) :
    W'.cell? ⟨b, 0, Option.none⟩ = some v0 ∧ W'.cell? ⟨b, 1, Option.none⟩ = some v1 ∧ W'.cell? ⟨b, 2, Option.none⟩ = some v2 ∧ W'.cell? ⟨b, 3, Option.none⟩ = some v3 ∧ W'.cell? ⟨b, 4, Option.none⟩ = some v4 ∧ Below W1.heap.size W1 W' :=
  ⟨cell_later hb h.1, cell_later hb h.2.1, cell_later hb h.2.2.1, cell_later hb h.2.2.2.1, cell_later hb h.2.2.2.2.1, h.2.2.2.2.2.trans (hb.mono h.2.2.2.2.2.size)⟩
theorem s5_below {W1 W : World} {p0 p1 p2 p3 p4 : Prop} (h : p0 ∧ p1 ∧ p2 ∧ p3 ∧ p4 ∧ Below W1.heap.size W1 W) : Below W1.heap.size W1 W := h.2.2.2.2.2

set_option maxHeartbeats 8000000 in
set_option maxRecDepth 100000 in
theorem reportSays_walk (g t hd : Int) (a : Option Addr) (n c : Nat) (y : Bool) (l : List (Int × Int)) (tl : List UInt8) (w : World) (hL : Laid w) (hr : Row w a n l) (htl : tl.length ≤ 9223372036854775807) :
    Calls Tryd.prog 5 #[.agg #[.int .i64 g, .slice a n c, .int .i64 t, .int .i64 hd, .bool y], .string ⟨tl.toArray⟩] w fun e w' => e = .returned (.bool true) ∧ Below w.heap.size w w' := by
  obtain ⟨X, hX⟩ : ∃ X, X = w.alloc (.cells #[.int .i64 g, .slice a n c, .int .i64 t, .int .i64 hd, .bool y] 44) := ⟨_, rfl⟩
  have A1 : At X w.heap.size [.int .i64 g, .slice a n c, .int .i64 t, .int .i64 hd, .bool y] 44 := by rw [hX]; exact heap_alloc_new w _
  have bX : Below w.heap.size w X := by rw [hX]; exact (Below.refl _ _).alloc (Nat.le_refl _) _
  have hrow := hr.later bX
  clear hr
  go_enter Tryd.func5, Tryd.ntmps5
  go_wp2_with fail
  rw [← hX]
  clear hX
  refine (reports_any X (hL.later bX)).mono ?_
  rintro e W1 ⟨rfl, hb1⟩
  replace A1 := A1.later hb1 A1.lt
  replace bX := bX.trans (hb1.mono bX.size)
  replace hrow := hrow.later hb1
  clear hb1
  have HL : Hid ((Instr.loadAt 44 (.pointer (some ⟨w.heap.size, 0, Option.none⟩))).run Tryd.prog W1 = .ok (.agg [.int .i64 g, .slice a n c, .int .i64 t, .int .i64 hd, .bool y].toArray) W1) := load_st A1 rfl
  go_wp2_with (with_reducible refine wl_load HL.out rfl rfl ?_)
  clear HL
  refine (light_any g t hd a n c y W1 hrow.2.1).mono ?_
  rintro e W2 ⟨rfl, hb1⟩
  replace A1 := A1.later hb1 A1.lt
  replace bX := bX.trans (hb1.mono bX.size)
  replace hrow := hrow.later hb1
  clear hb1
  by_cases hn6 : n ≤ 6
  case neg =>
    have hn6' : decide (n ≤ 6) = false := by simpa using hn6
    go_wp2
    go_ret
    exact ⟨rfl, bX⟩
  have hn6' : decide (n ≤ 6) = true := by simpa using hn6
  have hsz : (⟨tl.toArray⟩ : ByteArray).size = tl.length := sz_arr tl
  by_cases h100 : 100 < tl.length
  case pos =>
    have h100' : (100 : Int) < ((⟨tl.toArray⟩ : ByteArray).size : Int) := by omega
    have h100n : 100 < (⟨tl.toArray⟩ : ByteArray).size := by omega
    go_wp2
    go_ret
    exact ⟨rfl, bX⟩
  have h100' : decide ((100 : Int) < ((⟨tl.toArray⟩ : ByteArray).size : Int)) = false := by simp; omega
  have h100n : ¬ 100 < (⟨tl.toArray⟩ : ByteArray).size := by omega
  clear hsz
  go_wp2_with fail
  clear hn6' h100'
  refine (rparse_aux tl W2 (hL.later bX) (by omega) _ _ _ _ _ rfl rfl rfl rfl rfl).mono ?_
  rintro e W3 ⟨hres, hb1⟩
  replace A1 := A1.later hb1 A1.lt
  replace bX := bX.trans (hb1.mono bX.size)
  replace hrow := hrow.later hb1
  clear hb1
  generalize hG : numOf ⟨(nxW 0 tl).toArray⟩ = pg at hres
  generalize hT : numOf ⟨(nxW 1 tl).toArray⟩ = pt at hres
  generalize hD : numOf ⟨(nxW 2 tl).toArray⟩ = pd at hres
  generalize hYY : (nxW 3 tl == (staysT true).toList) = py at hres
  generalize hLL : regsG 4 tl = pl at hres
  have HGU : Hid (numOf ⟨(nxW 0 tl).toArray⟩ = pg ∧ numOf ⟨(nxW 1 tl).toArray⟩ = pt ∧ numOf ⟨(nxW 2 tl).toArray⟩ = pd ∧ (nxW 3 tl == (staysT true).toList) = py ∧ regsG 4 tl = pl) := ⟨hG, hT, hD, hYY, hLL⟩
  clear hG hT hD hYY hLL
  have HUN : Hid (∀ g' t' hd' y' L', fault g' t' hd' L' = 0 → stTxt g' t' hd' y' L' = tl → g' = pg ∧ t' = pt ∧ hd' = pd ∧ y' = py ∧ L' = pl) := by
    intro g' t' hd' y' L' hf' hx'
    have hb := st_back y' (sok_of hf' (fault_lenS hf'))
    rw [hx'] at hb
    obtain ⟨h0, h1, h2, h3, h4⟩ := hb
    obtain ⟨k0, k1, k2, k3, k4⟩ := HGU.out
    exact ⟨h0.symm.trans k0, h1.symm.trans k1, h2.symm.trans k2, h3.symm.trans k3, h4.symm.trans k4⟩
  have HA : Hid (At W3 w.heap.size [.int .i64 g, .slice a n c, .int .i64 t, .int .i64 hd, .bool y] 44) := A1
  have HRO : Hid (Row W3 a n l) := hrow
  clear A1 hrow HGU
  rcases hres with ⟨a1, c1, ⟨hf1, hx1⟩, rfl, hrow1⟩ | ⟨hno, rfl⟩
  · have HF1 : Hid (fault pg pt pd pl = 0) := hf1
    have HX1 : Hid (stTxt pg pt pd py pl = tl) := hx1
    have HR1 : Hid (Row W3 a1 pl.length pl) := hrow1
    clear hf1 hx1 hrow1
    obtain ⟨Y, hY⟩ : ∃ Y, Y = W3.alloc (.cells #[.int .i64 pg, .slice a1 pl.length c1, .int .i64 pt, .int .i64 pd, .bool py] 44) := ⟨_, rfl⟩
    have A6 : At Y W3.heap.size [.int .i64 pg, .slice a1 pl.length c1, .int .i64 pt, .int .i64 pd, .bool py] 44 := by rw [hY]; exact heap_alloc_new W3 _
    have bY : Below W3.heap.size W3 Y := by rw [hY]; exact (Below.refl _ _).alloc (Nat.le_refl _) _
    have A1 := HA.out.later bY HA.out.lt
    have hrow := HRO.out.later bY
    have hr1 := HR1.out.later bY
    replace bX := bX.trans (bY.mono bX.size)
    clear bY HA HRO HR1
    go_upto_region 5 with fail
    rw [← hY]
    clear hY
    go_wp2_with fail
    refine (stOf_any tl (by omega) Y).mono ?_
    rintro e W5 ⟨hres, hb1⟩
    replace A1 := A1.later hb1 A1.lt
    replace A6 := A6.later hb1 A6.lt
    replace bX := bX.trans (hb1.mono bX.size)
    replace hrow := hrow.later hb1
    replace hr1 := hr1.later hb1
    clear hb1
    rcases hres with ⟨g', t', hd', y', L', a2, c2, ⟨hf2, hx2⟩, rfl, hr2⟩ | ⟨hno, _⟩
    case inr => exact absurd HX1.out (hno pg pt pd py pl HF1.out)
    have heq := HUN.out g' t' hd' y' L' hf2 hx2
    clear hf2 hx2 HUN HF1 HX1
    obtain ⟨e1, e2, e3, e4, e5⟩ := heq
    subst e1 e2 e3 e4 e5
    obtain ⟨Y2, hY⟩ : ∃ Y, Y = W5.alloc (.cells #[.int .i64 g', .slice a2 L'.length c2, .int .i64 t', .int .i64 hd', .bool y'] 44) := ⟨_, rfl⟩
    have A8 : At Y2 W5.heap.size [.int .i64 g', .slice a2 L'.length c2, .int .i64 t', .int .i64 hd', .bool y'] 44 := by rw [hY]; exact heap_alloc_new W5 _
    have bY : Below W5.heap.size W5 Y2 := by rw [hY]; exact (Below.refl _ _).alloc (Nat.le_refl _) _
    replace A1 := A1.later bY A1.lt
    replace A6 := A6.later bY A6.lt
    replace bX := bX.trans (bY.mono bX.size)
    replace hrow := hrow.later bY
    replace hr1 := hr1.later bY
    replace hr2 := hr2.later bY
    clear bY
    go_upto_region 6 with fail
    rw [← hY]
    clear hY
    go_wp2_with fail
    refine (same_any 0 (by decide) Y2).mono ?_
    rintro e _ ⟨rfl, rfl⟩
    have HL6 : Hid ((Instr.loadAt 44 (.pointer (some ⟨W3.heap.size, 0, Option.none⟩))).run Tryd.prog Y2 = .ok (.agg [.int .i64 g', .slice a1 L'.length c1, .int .i64 t', .int .i64 hd', .bool y'].toArray) Y2) := load_st A6 rfl
    have HL8 : Hid ((Instr.loadAt 44 (.pointer (some ⟨W5.heap.size, 0, Option.none⟩))).run Tryd.prog Y2 = .ok (.agg [.int .i64 g', .slice a2 L'.length c2, .int .i64 t', .int .i64 hd', .bool y'].toArray) Y2) := load_st A8 rfl
    go_wp2_with (first | (with_reducible refine wl_load HL6.out rfl rfl ?_) | (with_reducible refine wl_load HL8.out rfl rfl ?_))
    clear HL6 HL8 A6 A8
    refine (sameState_any g' t' hd' a1 a2 L'.length L'.length c1 c2 y' L' Y2 hr1 hr2).mono ?_
    rintro e W6 ⟨rfl, hb1⟩
    clear hr1 hr2
    replace A1 := A1.later hb1 A1.lt
    replace bX := bX.trans (hb1.mono bX.size)
    replace hrow := hrow.later hb1
    clear hb1
    have HB : Hid (Below w.heap.size w W6) := bX
    have c0 : W6.cell? ⟨w.heap.size, 0, Option.none⟩ = some (.int .i64 g) := A1.cell 0
    have c1' : W6.cell? ⟨w.heap.size, 1, Option.none⟩ = some (.slice a n c) := A1.cell 1
    have c2' : W6.cell? ⟨w.heap.size, 2, Option.none⟩ = some (.int .i64 t) := A1.cell 2
    have c3 : W6.cell? ⟨w.heap.size, 3, Option.none⟩ = some (.int .i64 hd) := A1.cell 3
    have c4 : W6.cell? ⟨w.heap.size, 4, Option.none⟩ = some (.bool y) := A1.cell 4
    have HR6 : Hid (Row W6 a n l) := hrow
    have HL6 : Hid (Laid W6) := hL.later bX
    clear A1 bX hrow hL
    go_upto_region 8 with fail
    by_cases hf : 0 < fault g t hd l
    · have q0 : ∀ p : LW W6, p.val.cell? ⟨w.heap.size, 0, Option.none⟩ = some (.int .i64 g) := fun p => cell_later p.ok c0
      have q1 : ∀ p : LW W6, p.val.cell? ⟨w.heap.size, 1, Option.none⟩ = some (.slice a n c) := fun p => cell_later p.ok c1'
      have q2 : ∀ p : LW W6, p.val.cell? ⟨w.heap.size, 2, Option.none⟩ = some (.int .i64 t) := fun p => cell_later p.ok c2'
      have q3 : ∀ p : LW W6, p.val.cell? ⟨w.heap.size, 3, Option.none⟩ = some (.int .i64 hd) := fun p => cell_later p.ok c3
      have q4 : ∀ p : LW W6, p.val.cell? ⟨w.heap.size, 4, Option.none⟩ = some (.bool y) := fun p => cell_later p.ok c4
      have hinh : Nonempty (LW W6) := ⟨⟨W6, Below.refl _ _⟩⟩
      have hft : decide (0 < fault g t hd l) = true := by simpa using hf
      clear c0 c1' c2' c3 c4
      refine wp_region_lw (by kernel_rfl) (by kernel_rfl) ?_
      repeat (go_big_quiet_step ((go_at_call 24; with_reducible exact Calls.quiet_lw (stateFault_any g t hd a n c y l _ (HR6.out.later (LW.ok _))))))
      refine wpQuiet_nil ?_
      rintro w2 ⟨p, hp⟩
      have hbq : Below W6.heap.size W6 w2 := by rw [hp]; exact p.ok
      have bZ := HB.out.trans (hbq.mono HB.out.size)
      clear hp p q0 q1 q2 q3 q4 hinh hbq
      go_wp2
      go_ret
      exact ⟨by simp, bZ⟩
    · have hf0 : fault g t hd l = 0 := by have := fault_nonneg g t hd l; omega
      have F : SOK g t hd l := sok_of hf0 (fault_lenS hf0)
      have HKS : Hid (keysL l = keysT l 999) := keys_same (fun r hr => (F.reg r hr).2)
      have hn1 : n ≤ 1000000 := by omega
      obtain ⟨TX, hTX⟩ : ∃ TX, TX = txP g t hd y l := ⟨_, rfl⟩
      have HT1 : Hid (∀ W, Below W6.heap.size W6 W → Calls Tryd.prog 25 #[.agg #[.int .i64 g, .slice a n c, .int .i64 t, .int .i64 hd, .bool y]] W fun e w' => e = .returned (.string TX) ∧ Below W.heap.size W w') := fun W hb => by rw [hTX]; exact rtext_ok g t hd y a n c l W (HL6.out.later hb) (HR6.out.later hb) F
      have HT2 : Hid (∀ W, Below W6.heap.size W6 W → Calls Tryd.prog 26 #[.agg #[.int .i64 g, .slice a n c, .int .i64 t, .int .i64 hd, .bool y]] W fun e w' => e = .returned (.string TX) ∧ Below W.heap.size W w') := fun W hb => by rw [hTX]; exact stateTextR_ok g t hd y a n c l W (HR6.out.later hb) F
      clear hTX
      have hft : decide (0 < fault g t hd l) = false := by simpa using hf
      clear hf F
      go_region_held3 (fun w' => w'.cell? ⟨w.heap.size, 0, Option.none⟩ = some (.int .i64 g) ∧ w'.cell? ⟨w.heap.size, 1, Option.none⟩ = some (.slice a n c) ∧ w'.cell? ⟨w.heap.size, 2, Option.none⟩ = some (.int .i64 t) ∧ w'.cell? ⟨w.heap.size, 3, Option.none⟩ = some (.int .i64 hd) ∧ w'.cell? ⟨w.heap.size, 4, Option.none⟩ = some (.bool y) ∧ Below W6.heap.size W6 w')
        ((first | with_reducible exact s5_later ((Below.refl _ _).drew) ⟨c0, c1', c2', c3, c4, Below.refl _ _⟩ | with_reducible exact s5_later (by assumption) (by assumption) | with_reducible assumption))
        (first
          | (go_at_call 24; with_reducible refine (stateFault_any g t hd a n c y l _ (HR6.out.later (s5_below (by assumption)))).mono ?_; rintro e wa ⟨rfl, hba⟩)
          | (go_at_call 25; with_reducible refine (HT1.out _ (s5_below (by assumption))).mono ?_; rintro e wb ⟨rfl, hbb⟩)
          | (go_at_call 26; with_reducible refine (HT2.out _ (s5_below (by assumption))).mono ?_; rintro e wc ⟨rfl, hbc⟩)
          | (go_at_call 28; with_reducible refine (rkeys_any g t hd a n c y l _ (HR6.out.later (s5_below (by assumption))) hn1).mono ?_; rintro e wd ⟨a5, n5, c5, rfl, hn5, hbd⟩)
          | (go_at_call 29; with_reducible refine (rkeysR_any g t hd a n c y l _ (HR6.out.later (s5_below (by assumption))) hn1).mono ?_; rintro e we ⟨a7, n7, c7, rfl, hn7, hbe⟩)
          | (go_at_call 27; with_reducible refine (sameNums_any a5 a7 n5 n7 c5 c7 (keysT l 999) _ (by rw [← HKS.out]; exact hn5.later hbe) hn7).mono ?_; rintro e wf ⟨rfl, hbf⟩))
      all_goals
        go_wp2
        go_ret
        exact ⟨by simp, HB.out.trans (Below.mono (s5_below (by assumption)) HB.out.size)⟩
  · have HNO : Hid (¬ (fault pg pt pd pl = 0 ∧ stTxt pg pt pd py pl = tl)) := hno
    clear hno
    obtain ⟨Y, hY⟩ : ∃ Y, Y = W3.alloc (.cells #[.int .i64 0, .slice Option.none 0 0, .int .i64 0, .int .i64 0, .bool false] 44) := ⟨_, rfl⟩
    have A6 : At Y W3.heap.size [.int .i64 0, .slice Option.none 0 0, .int .i64 0, .int .i64 0, .bool false] 44 := by rw [hY]; exact heap_alloc_new W3 _
    have bY : Below W3.heap.size W3 Y := by rw [hY]; exact (Below.refl _ _).alloc (Nat.le_refl _) _
    have A1 := HA.out.later bY HA.out.lt
    have hrow := HRO.out.later bY
    replace bX := bX.trans (bY.mono bX.size)
    clear bY HA HRO
    go_upto_region 5 with fail
    rw [← hY]
    clear hY
    go_wp2_with fail
    refine (stOf_any tl (by omega) Y).mono ?_
    rintro e W5 ⟨hres, hb1⟩
    replace A1 := A1.later hb1 A1.lt
    replace A6 := A6.later hb1 A6.lt
    replace bX := bX.trans (hb1.mono bX.size)
    replace hrow := hrow.later hb1
    clear hb1
    rcases hres with ⟨g', t', hd', y', L', a2, c2, ⟨hf2, hx2⟩, rfl, hr2⟩ | ⟨_, rfl⟩
    case inl =>
      obtain ⟨rfl, rfl, rfl, rfl, rfl⟩ := HUN.out g' t' hd' y' L' hf2 hx2
      exact absurd ⟨hf2, hx2⟩ HNO.out
    clear HUN HNO
    obtain ⟨Y2, hY⟩ : ∃ Y, Y = W5.alloc (.cells #[.int .i64 0, .slice Option.none 0 0, .int .i64 0, .int .i64 0, .bool false] 44) := ⟨_, rfl⟩
    have A8 : At Y2 W5.heap.size [.int .i64 0, .slice Option.none 0 0, .int .i64 0, .int .i64 0, .bool false] 44 := by rw [hY]; exact heap_alloc_new W5 _
    have bY : Below W5.heap.size W5 Y2 := by rw [hY]; exact (Below.refl _ _).alloc (Nat.le_refl _) _
    replace A1 := A1.later bY A1.lt
    replace A6 := A6.later bY A6.lt
    replace bX := bX.trans (bY.mono bX.size)
    replace hrow := hrow.later bY
    clear bY
    go_upto_region 6 with fail
    rw [← hY]
    clear hY
    go_wp2_with fail
    refine (same_any 3 (by decide) Y2).mono ?_
    rintro e _ ⟨rfl, rfl⟩
    have HL6 : Hid ((Instr.loadAt 44 (.pointer (some ⟨W3.heap.size, 0, Option.none⟩))).run Tryd.prog Y2 = .ok (.agg [.int .i64 0, .slice Option.none 0 0, .int .i64 0, .int .i64 0, .bool false].toArray) Y2) := load_st A6 rfl
    have HL8 : Hid ((Instr.loadAt 44 (.pointer (some ⟨W5.heap.size, 0, Option.none⟩))).run Tryd.prog Y2 = .ok (.agg [.int .i64 0, .slice Option.none 0 0, .int .i64 0, .int .i64 0, .bool false].toArray) Y2) := load_st A8 rfl
    go_wp2_with (first | (with_reducible refine wl_load HL6.out rfl rfl ?_) | (with_reducible refine wl_load HL8.out rfl rfl ?_))
    clear HL6 HL8 A6 A8
    refine (sameState_any 0 0 0 Option.none Option.none 0 0 0 0 false [] Y2 (row_nil _) (row_nil _)).mono ?_
    rintro e W6 ⟨rfl, hb1⟩
    replace A1 := A1.later hb1 A1.lt
    replace bX := bX.trans (hb1.mono bX.size)
    replace hrow := hrow.later hb1
    clear hb1
    have HB : Hid (Below w.heap.size w W6) := bX
    have c0 : W6.cell? ⟨w.heap.size, 0, Option.none⟩ = some (.int .i64 g) := A1.cell 0
    have c1' : W6.cell? ⟨w.heap.size, 1, Option.none⟩ = some (.slice a n c) := A1.cell 1
    have c2' : W6.cell? ⟨w.heap.size, 2, Option.none⟩ = some (.int .i64 t) := A1.cell 2
    have c3 : W6.cell? ⟨w.heap.size, 3, Option.none⟩ = some (.int .i64 hd) := A1.cell 3
    have c4 : W6.cell? ⟨w.heap.size, 4, Option.none⟩ = some (.bool y) := A1.cell 4
    have HR6 : Hid (Row W6 a n l) := hrow
    have HL6 : Hid (Laid W6) := hL.later bX
    clear A1 bX hrow hL
    go_upto_region 8 with fail
    by_cases hf : 0 < fault g t hd l
    · have q0 : ∀ p : LW W6, p.val.cell? ⟨w.heap.size, 0, Option.none⟩ = some (.int .i64 g) := fun p => cell_later p.ok c0
      have q1 : ∀ p : LW W6, p.val.cell? ⟨w.heap.size, 1, Option.none⟩ = some (.slice a n c) := fun p => cell_later p.ok c1'
      have q2 : ∀ p : LW W6, p.val.cell? ⟨w.heap.size, 2, Option.none⟩ = some (.int .i64 t) := fun p => cell_later p.ok c2'
      have q3 : ∀ p : LW W6, p.val.cell? ⟨w.heap.size, 3, Option.none⟩ = some (.int .i64 hd) := fun p => cell_later p.ok c3
      have q4 : ∀ p : LW W6, p.val.cell? ⟨w.heap.size, 4, Option.none⟩ = some (.bool y) := fun p => cell_later p.ok c4
      have hinh : Nonempty (LW W6) := ⟨⟨W6, Below.refl _ _⟩⟩
      have hft : decide (0 < fault g t hd l) = true := by simpa using hf
      clear c0 c1' c2' c3 c4
      refine wp_region_lw (by kernel_rfl) (by kernel_rfl) ?_
      repeat (go_big_quiet_step ((go_at_call 24; with_reducible exact Calls.quiet_lw (stateFault_any g t hd a n c y l _ (HR6.out.later (LW.ok _))))))
      refine wpQuiet_nil ?_
      rintro w2 ⟨p, hp⟩
      have hbq : Below W6.heap.size W6 w2 := by rw [hp]; exact p.ok
      have bZ := HB.out.trans (hbq.mono HB.out.size)
      clear hp p q0 q1 q2 q3 q4 hinh hbq
      go_wp2
      go_ret
      exact ⟨by simp, bZ⟩
    · have hf0 : fault g t hd l = 0 := by have := fault_nonneg g t hd l; omega
      have F : SOK g t hd l := sok_of hf0 (fault_lenS hf0)
      have HKS : Hid (keysL l = keysT l 999) := keys_same (fun r hr => (F.reg r hr).2)
      have hn1 : n ≤ 1000000 := by omega
      obtain ⟨TX, hTX⟩ : ∃ TX, TX = txP g t hd y l := ⟨_, rfl⟩
      have HT1 : Hid (∀ W, Below W6.heap.size W6 W → Calls Tryd.prog 25 #[.agg #[.int .i64 g, .slice a n c, .int .i64 t, .int .i64 hd, .bool y]] W fun e w' => e = .returned (.string TX) ∧ Below W.heap.size W w') := fun W hb => by rw [hTX]; exact rtext_ok g t hd y a n c l W (HL6.out.later hb) (HR6.out.later hb) F
      have HT2 : Hid (∀ W, Below W6.heap.size W6 W → Calls Tryd.prog 26 #[.agg #[.int .i64 g, .slice a n c, .int .i64 t, .int .i64 hd, .bool y]] W fun e w' => e = .returned (.string TX) ∧ Below W.heap.size W w') := fun W hb => by rw [hTX]; exact stateTextR_ok g t hd y a n c l W (HR6.out.later hb) F
      clear hTX
      have hft : decide (0 < fault g t hd l) = false := by simpa using hf
      clear hf F
      go_region_held3 (fun w' => w'.cell? ⟨w.heap.size, 0, Option.none⟩ = some (.int .i64 g) ∧ w'.cell? ⟨w.heap.size, 1, Option.none⟩ = some (.slice a n c) ∧ w'.cell? ⟨w.heap.size, 2, Option.none⟩ = some (.int .i64 t) ∧ w'.cell? ⟨w.heap.size, 3, Option.none⟩ = some (.int .i64 hd) ∧ w'.cell? ⟨w.heap.size, 4, Option.none⟩ = some (.bool y) ∧ Below W6.heap.size W6 w')
        ((first | with_reducible exact s5_later ((Below.refl _ _).drew) ⟨c0, c1', c2', c3, c4, Below.refl _ _⟩ | with_reducible exact s5_later (by assumption) (by assumption) | with_reducible assumption))
        (first
          | (go_at_call 24; with_reducible refine (stateFault_any g t hd a n c y l _ (HR6.out.later (s5_below (by assumption)))).mono ?_; rintro e wa ⟨rfl, hba⟩)
          | (go_at_call 25; with_reducible refine (HT1.out _ (s5_below (by assumption))).mono ?_; rintro e wb ⟨rfl, hbb⟩)
          | (go_at_call 26; with_reducible refine (HT2.out _ (s5_below (by assumption))).mono ?_; rintro e wc ⟨rfl, hbc⟩)
          | (go_at_call 28; with_reducible refine (rkeys_any g t hd a n c y l _ (HR6.out.later (s5_below (by assumption))) hn1).mono ?_; rintro e wd ⟨a5, n5, c5, rfl, hn5, hbd⟩)
          | (go_at_call 29; with_reducible refine (rkeysR_any g t hd a n c y l _ (HR6.out.later (s5_below (by assumption))) hn1).mono ?_; rintro e we ⟨a7, n7, c7, rfl, hn7, hbe⟩)
          | (go_at_call 27; with_reducible refine (sameNums_any a5 a7 n5 n7 c5 c7 (keysT l 999) _ (by rw [← HKS.out]; exact hn5.later hbe) hn7).mono ?_; rintro e wf ⟨rfl, hbf⟩))
      all_goals
        go_wp2
        go_ret
        exact ⟨by simp, HB.out.trans (Below.mono (s5_below (by assumption)) HB.out.size)⟩

section
variable {H : Type} {enc : TypeId × Value → H}
set_option maxRecDepth 100000 in
theorem open_str {W : World} {base : Nat} {v : Value} {d : DataW H} {ps : List MemPlace} (hv : Value.okWide Tryd.prog W .any base 9 v) (h : DataW.Trod enc Tryd.prog W 0 (fun _ => true) true 9 v d ps) : ∃ s : ByteArray, v = .string s ∧ s.size ≤ 9223372036854775807 := by
  have hml : maxLen ≤ 9223372036854775807 := by unfold maxLen; decide
  obtain ⟨s, rfl, _, _, hs⟩ := Go.ChangeMaps.open_string Tryd.underlying9 hv h
  exact ⟨s, rfl, Nat.le_trans hs hml⟩
end

theorem gpowS : Tryd.prog.globalNamed "internal/strconv.uint64pow10" = some 0 := by kernel_rfl
theorem gsynS : Tryd.prog.globalNamed "strconv.ErrSyntax" = some 2 := by kernel_rfl
theorem grngS : Tryd.prog.globalNamed "strconv.ErrRange" = some 3 := by kernel_rfl
theorem laid_ofS {W : World} (h : laidMetH Tryd.prog Rows.reportSaysRow.laid W) (hs : W.ShapedOpen Tryd.prog) : Laid W := by
  have ht := h.filter (fun x => x.1 == "internal/strconv.uint64pow10")
  rw [show Rows.reportSaysRow.laid.filter (fun x => x.1 == "internal/strconv.uint64pow10") = [("internal/strconv.uint64pow10", Lib.tabData .u64 Lib.pow10Tab)] from by kernel_rfl, MakeChecks.laidMetH_plain _ _ _ (by kernel_rfl)] at ht
  have hy := h.filter (fun x => x.1 == "strconv.ErrSyntax")
  rw [show Rows.reportSaysRow.laid.filter (fun x => x.1 == "strconv.ErrSyntax") = [("strconv.ErrSyntax", Rows.laid_strconv_ErrSyntax)] from by kernel_rfl, MakeChecks.laidMetH_plain _ _ _ (by kernel_rfl)] at hy
  have hr := h.filter (fun x => x.1 == "strconv.ErrRange")
  rw [show Rows.reportSaysRow.laid.filter (fun x => x.1 == "strconv.ErrRange") = [("strconv.ErrRange", Rows.laid_strconv_ErrRange)] from by kernel_rfl, MakeChecks.laidMetH_plain _ _ _ (by kernel_rfl)] at hr
  exact ⟨Lib.tabIs_of_head gpowS (by kernel_rfl) Tryd.underlying129 Tryd.underlying111 (by kernel_rfl) (by kernel_rfl) ht, sentinel gsynS (by kernel_rfl) Tryd.underlying27 rfl hy, sentinel grngS (by kernel_rfl) Tryd.underlying27 rfl hr, maxlen hs⟩
theorem door_metS (os : Os) (args : Array Value) : laidMetH Tryd.prog Rows.reportSaysRow.laid ((World.doorLaid Tryd.prog 4000 os).forCall (fun _ _ => 0) ⟨#[], args, []⟩).memory :=
  laidMetH_of_parts3 (fuel := 8) (laidMet_of_run' 8 (by kernel_rfl) (by kernel_rfl)) (by kernel_rfl) (by kernel_rfl)

set_option maxRecDepth 100000 in
theorem reportSays_lifted (os : Os) (started : os.Started) (H : Type) (enc : TypeId × Value → H) :
    ReturnsInHanded {} Tryd.checked os 5 .any (fun w args => (Rows.reportSaysSpec.pre enc Tryd.prog Tryd.f5 [] false w args ∧ laidMetH Tryd.prog Rows.reportSaysRow.laid w) ∧ sizedMet enc Tryd.prog Tryd.f5 (OpenSpec.ofChange Rows.reportSaysSpec) false w args)
      (Rows.reportSaysSpec.post enc Tryd.prog Tryd.f5 false true false false) := by
  refine lift_both (C := Tryd.checked) own started (by kernel_rfl) Tryd.func5
    (ChangeSpec.witness_shaped (enc := enc) (C := Tryd.checked) (os := os) (X := fun w _ => laidMetH Tryd.prog Rows.reportSaysRow.laid w) false (World.doorLaid Tryd.prog 4000 os) #[.agg #[.int .i64 0, .slice Option.none 0 0, .int .i64 0, .int .i64 0, .bool false], .string ⟨#[]⟩] 8 rfl (World.shaped_of_RefB (by kernel_rfl) (by kernel_rfl)) (by kernel_rfl) (by kernel_rfl) (by kernel_rfl) (door_metS os _)) ?_
  intro W base args ds gs before hval0 hW hL hsh
  have hval : ∀ (j : Nat) t v, Tryd.f5.params[j]? = some t → args[j]? = some v → Value.okWide Tryd.prog W .any base t v := hval0
  have hW' := hW
  obtain ⟨p, q, hA0, hV, rfl, hfz, hnd⟩ := hW
  have hA : DataW.TrodAll enc Tryd.prog W 0 (fun _ => true) true Tryd.f5.params.toList args.toList ds p := hA0
  rw [Tryd.params5] at hA hval
  obtain ⟨v0, v1, d0, d1, p0, p1, rfl, rfl, rfl, h0, h1⟩ := trodAll_two hA
  obtain ⟨rfl, rfl⟩ := trodVars_none hV
  have k0 := h0
  have k1 := h1
  have lt0 : ∀ x ∈ p0, x.block < W.heap.size := by obtain ⟨m, hm⟩ := k0; exact DataW.trod_lt m _ _ _ hm
  have lt1 : ∀ x ∈ p1, x.block < W.heap.size := by obtain ⟨m, hm⟩ := k1; exact DataW.trod_lt m _ _ _ hm
  obtain ⟨g0, a0, n0, c0, t0, hd0, y0, l0, rfl, row0⟩ := open_state (hval 0 44 v0 rfl rfl) h0
  obtain ⟨sb, rfl, hsb⟩ := open_str (hval 1 9 v1 rfl rfl) h1
  obtain ⟨tl, rfl⟩ : ∃ tl : List UInt8, sb = ⟨tl.toArray⟩ := ⟨sb.data.toList, by simp⟩
  clear hA0 hval0
  refine (reportSays_walk g0 t0 hd0 a0 n0 c0 y0 l0 tl W (laid_ofS hL hsh) row0 (by rw [sz_arr] at hsb; exact hsb)).mono fun e W' ⟨he, bel⟩ => ?_
  subst he
  exact ⟨_, rfl, _, _, _, [], _, [], hW', trodAll_mk1 (shut_bool Tryd.underlying4 _), (trodAll_cons_mk (Below.trod laidOut (by kernel_rfl) (of_decide_eq_true (by kernel_rfl)) k0 bel lt0) (trodAll_cons_mk (Below.trod laidOut (by kernel_rfl) (of_decide_eq_true (by kernel_rfl)) k1 bel lt1) trodAll_mk0)), rfl, bel.frame _, fun h => by cases h⟩

theorem reportSays_holds : Rows.ReportSaysSaid :=
  OpenClaim.holds_of_wide 5 Tryd.f5 rfl rfl rfl rfl rfl rfl rfl ⟨rfl, rfl, rfl, rfl, rfl⟩ rfl rfl rfl rfl rfl (by kernel_rfl) Tryd.func5 (by kernel_rfl)
    (of_decide_eq_true (by kernel_rfl)) (by unfold Func.isWrapper; first | (rw [if_pos (by decide +kernel)]; kernel_rfl) | (rw [if_neg (by decide +kernel)]; exact ⟨rfl, rfl⟩))
    (fun os started H enc _ => reportSays_lifted os started H enc)

theorem reportSays_card : Rows.ReportSaysCardSaid :=
  Claim7.holds_tied_plain_at .later [] [.data, .data, .data, .sentinel, .sentinel] true Rows.reportSaysCard.stood.harness true
    reportSays_holds (fun _ h => by cases h) (by kernel_rfl) (fun _ h => by cases h) reportSays_row_tie rfl ⟨rfl, rfl⟩ (by kernel_rfl) rfl
    (fun f fn hf hfn => by
      obtain rfl : f = 5 := Option.some.inj ((show Tryd.prog.funcNamed Rows.reportSaysRow.func = some 5 by kernel_rfl).symm.trans hf) |>.symm
      obtain rfl : fn = Tryd.f5 := (Option.some.inj (Tryd.func5.symm.trans hfn)).symm
      exact ⟨by kernel_rfl, fun j t ht => by
        rw [Tryd.params5] at ht
        match j, ht with
        | 0, ht =>
          obtain rfl := Option.some.inj (show some 44 = some t from ht)
          show Tryd.prog.wantsStandIn 44 = false
          kernel_rfl
        | 1, ht =>
          obtain rfl := Option.some.inj (show some 9 = some t from ht)
          show Tryd.prog.wantsStandIn 9 = false
          kernel_rfl
        | j + 2, ht => simp at ht⟩)
    (by kernel_rfl)
#print axioms reportSays_card
end Go.Proofs.YthkckogbjdbnnaaDoor
