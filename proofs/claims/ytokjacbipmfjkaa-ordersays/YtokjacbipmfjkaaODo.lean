/- What order.Do answers, for every state and command. No statement of the seat is proved here. -/
import Derived.Test.YtokjacbipmfjkaaOPre
import Derived.Test.YtokjacbipmfjkaaORes
import Derived.Test.YtokjacbipmfjkaaORel
namespace Go.Proofs.Ytokjacbipmfjkaa
open Go.ChangeShapes Go.WideShapes Go.ChangeAt Go.RowKit Go.Deep

/-- D1 to D4. -/
def doF (g t h : Int) (y : Bool) (l : List (Int × Int)) (op who key new kind : Int) (st : Bool) : Out :=
  if op = 1 ∨ op = 2 then registerF g t h l op who key new st
  else if op = 3 then reserveF g t h y l who key kind
  else if op = 4 then releaseF g t h y l who key kind
  else if op = 5 then clearF g y l who key
  else if op = 6 then preemptF g t h y l who key new kind
  else refused 2

theorem StB.set1 {X : World} {K : Nat} {g : Int} {a a' : Option Addr} {n c n' c' : Nat} {t h : Int} {y : Bool} (hb : StB X K g a n c t h y) : StB (X.setCell ⟨K, 1, Option.none⟩ (.slice a' n' c')) K g a' n' c' t h y := by
  unfold StB at hb ⊢
  have := heap_setCell_same _ K 1 _ _ (.slice a' n' c') hb
  simpa using this

set_option maxRecDepth 100000 in
set_option maxHeartbeats 8000000 in
theorem do_any (g t h : Int) (a : Option Addr) (n c : Nat) (y : Bool) (l : List (Int × Int)) (op who key new kind at' : Int) (st : Bool) (da wa : ByteArray) (w : World) (hr : Row w a n l) (hn : n ≤ 900) (hg : 0 ≤ g ∧ g ≤ 1000000000) :
    Calls Try.prog 13 #[stV g a n c t h y, cmV op who key new kind at' st da wa] w fun e w' => OutIs (doF g t h y l op who key new kind st) w.heap.size Option.none 0 e w' ∧ Below w.heap.size w w' := by
  obtain ⟨X, hX, bX, sX, S0, C0, R0⟩ := laidThree w g a n c t h y op who key new kind at' st da wa
  obtain ⟨⟨c0, c1, c2, c3, c4⟩, _⟩ := S0.cells
  go_enter Try.func13, Try.ntmps13
  go_wp2_with fail
  rw [← hX]
  clear hX c0 c1 c2 c3 c4
  refine (clone_any a n c l X (hr.later bX) (by omega)).mono ?_
  rintro e w1 ⟨v1, rfl, ho1, hb1⟩
  have hs1 := hb1.size
  obtain ⟨a1, n1, k1, rfl, hr1⟩ := ho1.row
  have hf1 := ho1.far
  have bw := bX.trans (hb1.mono bX.size)
  have S1 := S0.later hb1 (by omega)
  have C1 := C0.later hb1 (by omega)
  have R1 := R0.later hb1 (by omega)
  have hn1 : n1 ≤ 900 := by have := hr1.1; have := hr.1; omega
  obtain ⟨V, hV⟩ : ∃ V, V = w1.setCell ⟨w.heap.size, 1, Option.none⟩ (.slice a1 n1 k1) := ⟨_, rfl⟩
  obtain ⟨⟨c0, c1, c2, c3, c4⟩, ⟨f0, f1, f2, f3, f4⟩⟩ := S1.cells
  go_upto_region 2 with fail
  rw [← hV]
  clear c0 c1 c2 c3 c4 f0 f1 f2 f3 f4 S0 C0 R0 ho1
  have S : StB V w.heap.size g a1 n1 k1 t h y := by rw [hV]; exact S1.set1
  have C : CmB V (w.heap.size + 1) op who key new kind at' st da wa := by unfold CmB; rw [hV, set_other _ _ _ _ _ (by omega)]; exact C1
  have R : StB V (w.heap.size + 1 + 1) 0 Option.none 0 0 0 0 false := by unfold StB; rw [hV, set_other _ _ _ _ _ (by omega)]; exact R1
  have hoff : ∀ b, b < w.heap.size + 3 → Off b a1 n1 := fun b hb _ ad e => by have := hf1 ad e; omega
  have hrV : Row V a1 n1 l := hr1.off (hoff w.heap.size (by omega)) (fun b hb _ => by rw [hV]; exact set_other _ _ _ _ b hb)
  have bw : Below w.heap.size w V := by rw [hV]; exact bw.setCell (by exact Nat.le_refl _) _
  have hsV : w.heap.size + 3 ≤ V.heap.size := by rw [hV]; simp [World.setCell]; omega
  clear hV S1 C1 R1 hb1 bX hr1 hf1
  have HR : Hid (Row V a1 n1 l) := hrV
  have HOf : Hid (∀ b, b < w.heap.size + 3 → Off b a1 n1) := hoff
  clear hrV hoff
  by_cases h1 : op = 1
  · have b1 : (op == 1) = true := by simpa using h1
    obtain ⟨oo, hoo⟩ : ∃ oo, oo = registerF g t h l op who key new st := ⟨_, rfl⟩
    have HS : Hid (doF g t h y l op who key new kind st = oo) := by show _ = _; rw [hoo]; unfold doF; rw [if_pos (.inl h1)]
    have HC := register_any g t h a1 n1 k1 y l op who key new kind at' st da wa V HR.out hn1 hg
    rw [← hoo] at HC
    have HCC : Hid (Calls Try.prog 31 #[stV g a1 n1 k1 t h y, cmV op who key new kind at' st da wa] V fun e w' => OutIs oo V.heap.size a1 n1 e w' ∧ Below V.heap.size V w') := HC
    clear hoo HC h1
    obtain ⟨⟨c0, c1, c2, c3, c4⟩, _⟩ := S.cells
    obtain ⟨d0, d1, d2, d3, d4, d5, d6, d7, d8⟩ := C.cells
    go_wp2_with fail
    clear c0 c1 c2 c3 c4 d0 d1 d2 d3 d4 d5 d6 d7 d8
    refine HCC.out.mono ?_
    rintro e w2 ⟨⟨a2, n2, k2, a3, n3, k3, rfl, hrx, hry, hnx, hny⟩, hb2⟩
    have R2 := R.later hb2 R.lt
    have HX : Hid (Row w2 a2 n2 oo.l) := hrx
    have HY : Hid (Row w2 a3 n3 oo.tl) := hry
    have HNX : Hid (NewOr V.heap.size a1 n1 a2 n2) := hnx
    have HNY : Hid (NewOr V.heap.size a1 n1 a3 n3) := hny
    clear hrx hry hnx hny S C R
    obtain ⟨⟨e0, e1, e2, e3, e4⟩, ⟨q0, q1, q2, q3, q4⟩⟩ := R2.cells
    go_wp2
    obtain ⟨Z, hZ, z0, z1, z2, z3, z4⟩ := Z5.cells (X := w2) (v0 := .int .i64 oo.g) (v1 := .slice a2 n2 k2) (v2 := .int .i64 oo.t) (v3 := .int .i64 oo.h) (v4 := .bool oo.y) R2
    have bZ : Below w.heap.size w Z := by rw [hZ]; exact Z5.below (bw.trans (hb2.mono bw.size)) (by omega)
    have hrX : Row Z a2 n2 oo.l := by rw [hZ]; exact HX.out.off (HNX.out _ (by omega) (HOf.out _ (by omega))) (fun b hb _ => z5_other w2 _ _ _ _ _ _ b hb)
    have hrY : Row Z a3 n3 oo.tl := by rw [hZ]; exact HY.out.off (HNY.out _ (by omega) (HOf.out _ (by omega))) (fun b hb _ => z5_other w2 _ _ _ _ _ _ b hb)
    unfold Z5 at hZ
    rw [← hZ]
    clear hZ
    exact bodyPost_ret (v := .tuple #[.agg #[.int .i64 oo.g, .slice a2 n2 k2, .int .i64 oo.t, .int .i64 oo.h, .bool oo.y], .slice a3 n3 k3, errV oo.f]) (by simp [results, Try.results13, go_sem, z0, z1, z2, z3, z4]) rfl (And.intro (by rw [HS.out]; exact ⟨a2, n2, k2, a3, n3, k3, rfl, hrX, hrY, fun b hb _ => HNX.out b (by omega) (HOf.out b (by omega)), fun b hb _ => HNY.out b (by omega) (HOf.out b (by omega))⟩) bZ)
  have b1 : (op == 1) = false := by simpa using h1
  by_cases h2 : op = 2
  · have b2 : (op == 2) = true := by simpa using h2
    obtain ⟨oo, hoo⟩ : ∃ oo, oo = registerF g t h l op who key new st := ⟨_, rfl⟩
    have HS : Hid (doF g t h y l op who key new kind st = oo) := by show _ = _; rw [hoo]; unfold doF; rw [if_pos (.inr h2)]
    have HC := register_any g t h a1 n1 k1 y l op who key new kind at' st da wa V HR.out hn1 hg
    rw [← hoo] at HC
    have HCC : Hid (Calls Try.prog 31 #[stV g a1 n1 k1 t h y, cmV op who key new kind at' st da wa] V fun e w' => OutIs oo V.heap.size a1 n1 e w' ∧ Below V.heap.size V w') := HC
    clear hoo HC h2 h1
    obtain ⟨⟨c0, c1, c2, c3, c4⟩, _⟩ := S.cells
    obtain ⟨d0, d1, d2, d3, d4, d5, d6, d7, d8⟩ := C.cells
    go_wp2_with fail
    clear c0 c1 c2 c3 c4 d0 d1 d2 d3 d4 d5 d6 d7 d8
    refine HCC.out.mono ?_
    rintro e w2 ⟨⟨a2, n2, k2, a3, n3, k3, rfl, hrx, hry, hnx, hny⟩, hb2⟩
    have R2 := R.later hb2 R.lt
    have HX : Hid (Row w2 a2 n2 oo.l) := hrx
    have HY : Hid (Row w2 a3 n3 oo.tl) := hry
    have HNX : Hid (NewOr V.heap.size a1 n1 a2 n2) := hnx
    have HNY : Hid (NewOr V.heap.size a1 n1 a3 n3) := hny
    clear hrx hry hnx hny S C R
    obtain ⟨⟨e0, e1, e2, e3, e4⟩, ⟨q0, q1, q2, q3, q4⟩⟩ := R2.cells
    go_wp2
    obtain ⟨Z, hZ, z0, z1, z2, z3, z4⟩ := Z5.cells (X := w2) (v0 := .int .i64 oo.g) (v1 := .slice a2 n2 k2) (v2 := .int .i64 oo.t) (v3 := .int .i64 oo.h) (v4 := .bool oo.y) R2
    have bZ : Below w.heap.size w Z := by rw [hZ]; exact Z5.below (bw.trans (hb2.mono bw.size)) (by omega)
    have hrX : Row Z a2 n2 oo.l := by rw [hZ]; exact HX.out.off (HNX.out _ (by omega) (HOf.out _ (by omega))) (fun b hb _ => z5_other w2 _ _ _ _ _ _ b hb)
    have hrY : Row Z a3 n3 oo.tl := by rw [hZ]; exact HY.out.off (HNY.out _ (by omega) (HOf.out _ (by omega))) (fun b hb _ => z5_other w2 _ _ _ _ _ _ b hb)
    unfold Z5 at hZ
    rw [← hZ]
    clear hZ
    exact bodyPost_ret (v := .tuple #[.agg #[.int .i64 oo.g, .slice a2 n2 k2, .int .i64 oo.t, .int .i64 oo.h, .bool oo.y], .slice a3 n3 k3, errV oo.f]) (by simp [results, Try.results13, go_sem, z0, z1, z2, z3, z4]) rfl (And.intro (by rw [HS.out]; exact ⟨a2, n2, k2, a3, n3, k3, rfl, hrX, hrY, fun b hb _ => HNX.out b (by omega) (HOf.out b (by omega)), fun b hb _ => HNY.out b (by omega) (HOf.out b (by omega))⟩) bZ)
  have b2 : (op == 2) = false := by simpa using h2
  by_cases h3 : op = 3
  · have b3 : (op == 3) = true := by simpa using h3
    obtain ⟨oo, hoo⟩ : ∃ oo, oo = reserveF g t h y l who key kind := ⟨_, rfl⟩
    have HS : Hid (doF g t h y l op who key new kind st = oo) := by show _ = _; rw [hoo]; unfold doF; rw [if_neg (fun e => e.elim h1 h2), if_pos h3]
    have HC := reserve_any g t h a1 n1 k1 y l op who key new kind at' st da wa V HR.out
    rw [← hoo] at HC
    have HCC : Hid (Calls Try.prog 32 #[stV g a1 n1 k1 t h y, cmV op who key new kind at' st da wa] V fun e w' => OutIs oo V.heap.size a1 n1 e w' ∧ Below V.heap.size V w') := HC
    clear hoo HC h3 h2 h1
    obtain ⟨⟨c0, c1, c2, c3, c4⟩, _⟩ := S.cells
    obtain ⟨d0, d1, d2, d3, d4, d5, d6, d7, d8⟩ := C.cells
    go_wp2_with fail
    clear c0 c1 c2 c3 c4 d0 d1 d2 d3 d4 d5 d6 d7 d8
    refine HCC.out.mono ?_
    rintro e w2 ⟨⟨a2, n2, k2, a3, n3, k3, rfl, hrx, hry, hnx, hny⟩, hb2⟩
    have R2 := R.later hb2 R.lt
    have HX : Hid (Row w2 a2 n2 oo.l) := hrx
    have HY : Hid (Row w2 a3 n3 oo.tl) := hry
    have HNX : Hid (NewOr V.heap.size a1 n1 a2 n2) := hnx
    have HNY : Hid (NewOr V.heap.size a1 n1 a3 n3) := hny
    clear hrx hry hnx hny S C R
    obtain ⟨⟨e0, e1, e2, e3, e4⟩, ⟨q0, q1, q2, q3, q4⟩⟩ := R2.cells
    go_wp2
    obtain ⟨Z, hZ, z0, z1, z2, z3, z4⟩ := Z5.cells (X := w2) (v0 := .int .i64 oo.g) (v1 := .slice a2 n2 k2) (v2 := .int .i64 oo.t) (v3 := .int .i64 oo.h) (v4 := .bool oo.y) R2
    have bZ : Below w.heap.size w Z := by rw [hZ]; exact Z5.below (bw.trans (hb2.mono bw.size)) (by omega)
    have hrX : Row Z a2 n2 oo.l := by rw [hZ]; exact HX.out.off (HNX.out _ (by omega) (HOf.out _ (by omega))) (fun b hb _ => z5_other w2 _ _ _ _ _ _ b hb)
    have hrY : Row Z a3 n3 oo.tl := by rw [hZ]; exact HY.out.off (HNY.out _ (by omega) (HOf.out _ (by omega))) (fun b hb _ => z5_other w2 _ _ _ _ _ _ b hb)
    unfold Z5 at hZ
    rw [← hZ]
    clear hZ
    exact bodyPost_ret (v := .tuple #[.agg #[.int .i64 oo.g, .slice a2 n2 k2, .int .i64 oo.t, .int .i64 oo.h, .bool oo.y], .slice a3 n3 k3, errV oo.f]) (by simp [results, Try.results13, go_sem, z0, z1, z2, z3, z4]) rfl (And.intro (by rw [HS.out]; exact ⟨a2, n2, k2, a3, n3, k3, rfl, hrX, hrY, fun b hb _ => HNX.out b (by omega) (HOf.out b (by omega)), fun b hb _ => HNY.out b (by omega) (HOf.out b (by omega))⟩) bZ)
  have b3 : (op == 3) = false := by simpa using h3
  by_cases h4 : op = 4
  · have b4 : (op == 4) = true := by simpa using h4
    obtain ⟨oo, hoo⟩ : ∃ oo, oo = releaseF g t h y l who key kind := ⟨_, rfl⟩
    have HS : Hid (doF g t h y l op who key new kind st = oo) := by show _ = _; rw [hoo]; unfold doF; rw [if_neg (fun e => e.elim h1 h2), if_neg h3, if_pos h4]
    have HC := release_any g t h a1 n1 k1 y l op who key new kind at' st da wa V HR.out (by omega)
    rw [← hoo] at HC
    have HCC : Hid (Calls Try.prog 33 #[stV g a1 n1 k1 t h y, cmV op who key new kind at' st da wa] V fun e w' => OutIs oo V.heap.size a1 n1 e w' ∧ Below V.heap.size V w') := HC
    clear hoo HC h4 h3 h2 h1
    obtain ⟨⟨c0, c1, c2, c3, c4⟩, _⟩ := S.cells
    obtain ⟨d0, d1, d2, d3, d4, d5, d6, d7, d8⟩ := C.cells
    go_wp2_with fail
    clear c0 c1 c2 c3 c4 d0 d1 d2 d3 d4 d5 d6 d7 d8
    refine HCC.out.mono ?_
    rintro e w2 ⟨⟨a2, n2, k2, a3, n3, k3, rfl, hrx, hry, hnx, hny⟩, hb2⟩
    have R2 := R.later hb2 R.lt
    have HX : Hid (Row w2 a2 n2 oo.l) := hrx
    have HY : Hid (Row w2 a3 n3 oo.tl) := hry
    have HNX : Hid (NewOr V.heap.size a1 n1 a2 n2) := hnx
    have HNY : Hid (NewOr V.heap.size a1 n1 a3 n3) := hny
    clear hrx hry hnx hny S C R
    obtain ⟨⟨e0, e1, e2, e3, e4⟩, ⟨q0, q1, q2, q3, q4⟩⟩ := R2.cells
    go_wp2
    obtain ⟨Z, hZ, z0, z1, z2, z3, z4⟩ := Z5.cells (X := w2) (v0 := .int .i64 oo.g) (v1 := .slice a2 n2 k2) (v2 := .int .i64 oo.t) (v3 := .int .i64 oo.h) (v4 := .bool oo.y) R2
    have bZ : Below w.heap.size w Z := by rw [hZ]; exact Z5.below (bw.trans (hb2.mono bw.size)) (by omega)
    have hrX : Row Z a2 n2 oo.l := by rw [hZ]; exact HX.out.off (HNX.out _ (by omega) (HOf.out _ (by omega))) (fun b hb _ => z5_other w2 _ _ _ _ _ _ b hb)
    have hrY : Row Z a3 n3 oo.tl := by rw [hZ]; exact HY.out.off (HNY.out _ (by omega) (HOf.out _ (by omega))) (fun b hb _ => z5_other w2 _ _ _ _ _ _ b hb)
    unfold Z5 at hZ
    rw [← hZ]
    clear hZ
    exact bodyPost_ret (v := .tuple #[.agg #[.int .i64 oo.g, .slice a2 n2 k2, .int .i64 oo.t, .int .i64 oo.h, .bool oo.y], .slice a3 n3 k3, errV oo.f]) (by simp [results, Try.results13, go_sem, z0, z1, z2, z3, z4]) rfl (And.intro (by rw [HS.out]; exact ⟨a2, n2, k2, a3, n3, k3, rfl, hrX, hrY, fun b hb _ => HNX.out b (by omega) (HOf.out b (by omega)), fun b hb _ => HNY.out b (by omega) (HOf.out b (by omega))⟩) bZ)
  have b4 : (op == 4) = false := by simpa using h4
  by_cases h5 : op = 5
  · have b5 : (op == 5) = true := by simpa using h5
    obtain ⟨oo, hoo⟩ : ∃ oo, oo = clearF g y l who key := ⟨_, rfl⟩
    have HS : Hid (doF g t h y l op who key new kind st = oo) := by show _ = _; rw [hoo]; unfold doF; rw [if_neg (fun e => e.elim h1 h2), if_neg h3, if_neg h4, if_pos h5]
    have HC := clearAll_any g t h a1 n1 k1 y l op who key new kind at' st da wa V HR.out (by omega) hg
    rw [← hoo] at HC
    have HCC : Hid (Calls Try.prog 34 #[stV g a1 n1 k1 t h y, cmV op who key new kind at' st da wa] V fun e w' => OutIs oo V.heap.size a1 n1 e w' ∧ Below V.heap.size V w') := HC
    clear hoo HC h5 h4 h3 h2 h1
    obtain ⟨⟨c0, c1, c2, c3, c4⟩, _⟩ := S.cells
    obtain ⟨d0, d1, d2, d3, d4, d5, d6, d7, d8⟩ := C.cells
    go_wp2_with fail
    clear c0 c1 c2 c3 c4 d0 d1 d2 d3 d4 d5 d6 d7 d8
    refine HCC.out.mono ?_
    rintro e w2 ⟨⟨a2, n2, k2, a3, n3, k3, rfl, hrx, hry, hnx, hny⟩, hb2⟩
    have R2 := R.later hb2 R.lt
    have HX : Hid (Row w2 a2 n2 oo.l) := hrx
    have HY : Hid (Row w2 a3 n3 oo.tl) := hry
    have HNX : Hid (NewOr V.heap.size a1 n1 a2 n2) := hnx
    have HNY : Hid (NewOr V.heap.size a1 n1 a3 n3) := hny
    clear hrx hry hnx hny S C R
    obtain ⟨⟨e0, e1, e2, e3, e4⟩, ⟨q0, q1, q2, q3, q4⟩⟩ := R2.cells
    go_wp2
    obtain ⟨Z, hZ, z0, z1, z2, z3, z4⟩ := Z5.cells (X := w2) (v0 := .int .i64 oo.g) (v1 := .slice a2 n2 k2) (v2 := .int .i64 oo.t) (v3 := .int .i64 oo.h) (v4 := .bool oo.y) R2
    have bZ : Below w.heap.size w Z := by rw [hZ]; exact Z5.below (bw.trans (hb2.mono bw.size)) (by omega)
    have hrX : Row Z a2 n2 oo.l := by rw [hZ]; exact HX.out.off (HNX.out _ (by omega) (HOf.out _ (by omega))) (fun b hb _ => z5_other w2 _ _ _ _ _ _ b hb)
    have hrY : Row Z a3 n3 oo.tl := by rw [hZ]; exact HY.out.off (HNY.out _ (by omega) (HOf.out _ (by omega))) (fun b hb _ => z5_other w2 _ _ _ _ _ _ b hb)
    unfold Z5 at hZ
    rw [← hZ]
    clear hZ
    exact bodyPost_ret (v := .tuple #[.agg #[.int .i64 oo.g, .slice a2 n2 k2, .int .i64 oo.t, .int .i64 oo.h, .bool oo.y], .slice a3 n3 k3, errV oo.f]) (by simp [results, Try.results13, go_sem, z0, z1, z2, z3, z4]) rfl (And.intro (by rw [HS.out]; exact ⟨a2, n2, k2, a3, n3, k3, rfl, hrX, hrY, fun b hb _ => HNX.out b (by omega) (HOf.out b (by omega)), fun b hb _ => HNY.out b (by omega) (HOf.out b (by omega))⟩) bZ)
  have b5 : (op == 5) = false := by simpa using h5
  by_cases h6 : op = 6
  · have b6 : (op == 6) = true := by simpa using h6
    obtain ⟨oo, hoo⟩ : ∃ oo, oo = preemptF g t h y l who key new kind := ⟨_, rfl⟩
    have HS : Hid (doF g t h y l op who key new kind st = oo) := by show _ = _; rw [hoo]; unfold doF; rw [if_neg (fun e => e.elim h1 h2), if_neg h3, if_neg h4, if_neg h5, if_pos h6]
    have HC := preempt_any g t h a1 n1 k1 y l op who key new kind at' st da wa V HR.out hn1 hg
    rw [← hoo] at HC
    have HCC : Hid (Calls Try.prog 35 #[stV g a1 n1 k1 t h y, cmV op who key new kind at' st da wa] V fun e w' => OutIs oo V.heap.size a1 n1 e w' ∧ Below V.heap.size V w') := HC
    clear hoo HC h6 h5 h4 h3 h2 h1
    obtain ⟨⟨c0, c1, c2, c3, c4⟩, _⟩ := S.cells
    obtain ⟨d0, d1, d2, d3, d4, d5, d6, d7, d8⟩ := C.cells
    go_wp2_with fail
    clear c0 c1 c2 c3 c4 d0 d1 d2 d3 d4 d5 d6 d7 d8
    refine HCC.out.mono ?_
    rintro e w2 ⟨⟨a2, n2, k2, a3, n3, k3, rfl, hrx, hry, hnx, hny⟩, hb2⟩
    have R2 := R.later hb2 R.lt
    have HX : Hid (Row w2 a2 n2 oo.l) := hrx
    have HY : Hid (Row w2 a3 n3 oo.tl) := hry
    have HNX : Hid (NewOr V.heap.size a1 n1 a2 n2) := hnx
    have HNY : Hid (NewOr V.heap.size a1 n1 a3 n3) := hny
    clear hrx hry hnx hny S C R
    obtain ⟨⟨e0, e1, e2, e3, e4⟩, ⟨q0, q1, q2, q3, q4⟩⟩ := R2.cells
    go_wp2
    obtain ⟨Z, hZ, z0, z1, z2, z3, z4⟩ := Z5.cells (X := w2) (v0 := .int .i64 oo.g) (v1 := .slice a2 n2 k2) (v2 := .int .i64 oo.t) (v3 := .int .i64 oo.h) (v4 := .bool oo.y) R2
    have bZ : Below w.heap.size w Z := by rw [hZ]; exact Z5.below (bw.trans (hb2.mono bw.size)) (by omega)
    have hrX : Row Z a2 n2 oo.l := by rw [hZ]; exact HX.out.off (HNX.out _ (by omega) (HOf.out _ (by omega))) (fun b hb _ => z5_other w2 _ _ _ _ _ _ b hb)
    have hrY : Row Z a3 n3 oo.tl := by rw [hZ]; exact HY.out.off (HNY.out _ (by omega) (HOf.out _ (by omega))) (fun b hb _ => z5_other w2 _ _ _ _ _ _ b hb)
    unfold Z5 at hZ
    rw [← hZ]
    clear hZ
    exact bodyPost_ret (v := .tuple #[.agg #[.int .i64 oo.g, .slice a2 n2 k2, .int .i64 oo.t, .int .i64 oo.h, .bool oo.y], .slice a3 n3 k3, errV oo.f]) (by simp [results, Try.results13, go_sem, z0, z1, z2, z3, z4]) rfl (And.intro (by rw [HS.out]; exact ⟨a2, n2, k2, a3, n3, k3, rfl, hrX, hrY, fun b hb _ => HNX.out b (by omega) (HOf.out b (by omega)), fun b hb _ => HNY.out b (by omega) (HOf.out b (by omega))⟩) bZ)
  have b6 : (op == 6) = false := by simpa using h6
  have HS : Hid (doF g t h y l op who key new kind st = refused 2) := by show _ = _; unfold doF; rw [if_neg (fun e => e.elim h1 h2), if_neg h3, if_neg h4, if_neg h5, if_neg h6]
  clear h1 h2 h3 h4 h5 h6
  obtain ⟨⟨c0, c1, c2, c3, c4⟩, _⟩ := S.cells
  obtain ⟨d0, d1, d2, d3, d4, d5, d6, d7, d8⟩ := C.cells
  go_wp2_with fail
  clear c0 c1 c2 c3 c4 d0 d1 d2 d3 d4 d5 d6 d7 d8
  refine (refuse_any 2 V).mono ?_
  rintro e w2 ⟨rfl, hb2⟩
  have R2 := R.later hb2 R.lt
  clear S C R
  obtain ⟨⟨e0, e1, e2, e3, e4⟩, ⟨q0, q1, q2, q3, q4⟩⟩ := R2.cells
  go_wp2
  obtain ⟨Z, hZ, z0, z1, z2, z3, z4⟩ := Z5.cells (X := w2) (v0 := .int .i64 0) (v1 := .slice Option.none 0 0) (v2 := .int .i64 0) (v3 := .int .i64 0) (v4 := .bool false) R2
  have bZ : Below w.heap.size w Z := by rw [hZ]; exact Z5.below (bw.trans (hb2.mono bw.size)) (by omega)
  unfold Z5 at hZ
  rw [← hZ]
  clear hZ
  exact bodyPost_ret (v := .tuple #[.agg #[.int .i64 0, .slice Option.none 0 0, .int .i64 0, .int .i64 0, .bool false], .slice Option.none 0 0, .iface 57 (.int .i64 2)]) (by simp [results, Try.results13, go_sem, z0, z1, z2, z3, z4]) rfl (And.intro (by rw [HS.out]; exact ⟨_, _, _, _, _, _, rfl, row_nil _, row_nil _, newOr_nil, newOr_nil⟩) bZ)
end Go.Proofs.Ytokjacbipmfjkaa
