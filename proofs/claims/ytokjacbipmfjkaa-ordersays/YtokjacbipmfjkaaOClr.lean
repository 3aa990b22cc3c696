/- What order.clearAll answers, for every state and command. No statement of the seat is proved here. -/
import Derived.Test.YtokjacbipmfjkaaOSame
import Derived.Deep.RegionHeld3
import Derived.Deep.DeepCutAuto
namespace Go.Proofs.Ytokjacbipmfjkaa
open Go.ChangeShapes Go.WideShapes Go.ChangeAt Go.RowKit Go.Deep

theorem keepS2 {w2 a b : World} {N K : Nat} {v0 v1 v2 v3 v4 u t0 t1 t2 t3 t4 : Value} (hb : Below a.heap.size a b) (h : a.cell? ⟨K, 0, Option.none⟩ = some t0 ∧ a.cell? ⟨K, 1, Option.none⟩ = some t1 ∧ a.cell? ⟨K, 2, Option.none⟩ = some t2 ∧ a.cell? ⟨K, 3, Option.none⟩ = some t3 ∧ a.cell? ⟨K, 4, Option.none⟩ = some t4 ∧ a.cell? ⟨N, 0, Option.none⟩ = some v0 ∧ a.cell? ⟨N, 1, Option.none⟩ = some v1 ∧ a.cell? ⟨N, 2, Option.none⟩ = some v2 ∧ a.cell? ⟨N, 3, Option.none⟩ = some v3 ∧ a.cell? ⟨N, 4, Option.none⟩ = some v4 ∧ a.cell? ⟨N + 1, 1, Option.none⟩ = some u ∧ Below (N + 2) w2 a ∧ N + 3 ≤ a.heap.size) : b.cell? ⟨K, 0, Option.none⟩ = some t0 ∧ b.cell? ⟨K, 1, Option.none⟩ = some t1 ∧ b.cell? ⟨K, 2, Option.none⟩ = some t2 ∧ b.cell? ⟨K, 3, Option.none⟩ = some t3 ∧ b.cell? ⟨K, 4, Option.none⟩ = some t4 ∧ b.cell? ⟨N, 0, Option.none⟩ = some v0 ∧ b.cell? ⟨N, 1, Option.none⟩ = some v1 ∧ b.cell? ⟨N, 2, Option.none⟩ = some v2 ∧ b.cell? ⟨N, 3, Option.none⟩ = some v3 ∧ b.cell? ⟨N, 4, Option.none⟩ = some v4 ∧ b.cell? ⟨N + 1, 1, Option.none⟩ = some u ∧ Below (N + 2) w2 b ∧ N + 3 ≤ b.heap.size := by
  obtain ⟨k0, k1, k2, k3, k4, h⟩ := h
  exact ⟨cell_later hb k0, cell_later hb k1, cell_later hb k2, cell_later hb k3, cell_later hb k4, keepS hb h⟩
theorem cell_z5 {a : World} {M K i : Nat} {x0 x1 x2 x3 x4 v : Value} (hne : K ≠ M) (h : a.cell? ⟨K, i, Option.none⟩ = some v) : (Z5 a M x0 x1 x2 x3 x4).cell? ⟨K, i, Option.none⟩ = some v := by
  have hb : (Z5 a M x0 x1 x2 x3 x4).heap[K]? = a.heap[K]? := by
    unfold Z5
    rw [set_other _ M 4 _ K hne, set_other _ M 3 _ K hne, set_other _ M 2 _ K hne, set_other _ M 1 _ K hne, set_other _ M 0 _ K hne]
  exact (World.cell?_of_block (a := ⟨K, i, Option.none⟩) hb).trans h
theorem keepZ2 {w2 a : World} {N K : Nat} {v0 v1 v2 v3 v4 u t0 t1 t2 t3 t4 x0 x1 x2 x3 x4 : Value} (hne : K ≠ N + 1 + 1) (h : a.cell? ⟨K, 0, Option.none⟩ = some t0 ∧ a.cell? ⟨K, 1, Option.none⟩ = some t1 ∧ a.cell? ⟨K, 2, Option.none⟩ = some t2 ∧ a.cell? ⟨K, 3, Option.none⟩ = some t3 ∧ a.cell? ⟨K, 4, Option.none⟩ = some t4 ∧ a.cell? ⟨N, 0, Option.none⟩ = some v0 ∧ a.cell? ⟨N, 1, Option.none⟩ = some v1 ∧ a.cell? ⟨N, 2, Option.none⟩ = some v2 ∧ a.cell? ⟨N, 3, Option.none⟩ = some v3 ∧ a.cell? ⟨N, 4, Option.none⟩ = some v4 ∧ a.cell? ⟨N + 1, 1, Option.none⟩ = some u ∧ Below (N + 2) w2 a ∧ N + 3 ≤ a.heap.size) : (((((a.setCell ⟨N + 1 + 1, 0, Option.none⟩ x0).setCell ⟨N + 1 + 1, 1, Option.none⟩ x1).setCell ⟨N + 1 + 1, 2, Option.none⟩ x2).setCell ⟨N + 1 + 1, 3, Option.none⟩ x3).setCell ⟨N + 1 + 1, 4, Option.none⟩ x4).cell? ⟨K, 0, Option.none⟩ = some t0 ∧ (((((a.setCell ⟨N + 1 + 1, 0, Option.none⟩ x0).setCell ⟨N + 1 + 1, 1, Option.none⟩ x1).setCell ⟨N + 1 + 1, 2, Option.none⟩ x2).setCell ⟨N + 1 + 1, 3, Option.none⟩ x3).setCell ⟨N + 1 + 1, 4, Option.none⟩ x4).cell? ⟨K, 1, Option.none⟩ = some t1 ∧ (((((a.setCell ⟨N + 1 + 1, 0, Option.none⟩ x0).setCell ⟨N + 1 + 1, 1, Option.none⟩ x1).setCell ⟨N + 1 + 1, 2, Option.none⟩ x2).setCell ⟨N + 1 + 1, 3, Option.none⟩ x3).setCell ⟨N + 1 + 1, 4, Option.none⟩ x4).cell? ⟨K, 2, Option.none⟩ = some t2 ∧ (((((a.setCell ⟨N + 1 + 1, 0, Option.none⟩ x0).setCell ⟨N + 1 + 1, 1, Option.none⟩ x1).setCell ⟨N + 1 + 1, 2, Option.none⟩ x2).setCell ⟨N + 1 + 1, 3, Option.none⟩ x3).setCell ⟨N + 1 + 1, 4, Option.none⟩ x4).cell? ⟨K, 3, Option.none⟩ = some t3 ∧ (((((a.setCell ⟨N + 1 + 1, 0, Option.none⟩ x0).setCell ⟨N + 1 + 1, 1, Option.none⟩ x1).setCell ⟨N + 1 + 1, 2, Option.none⟩ x2).setCell ⟨N + 1 + 1, 3, Option.none⟩ x3).setCell ⟨N + 1 + 1, 4, Option.none⟩ x4).cell? ⟨K, 4, Option.none⟩ = some t4 ∧ (((((a.setCell ⟨N + 1 + 1, 0, Option.none⟩ x0).setCell ⟨N + 1 + 1, 1, Option.none⟩ x1).setCell ⟨N + 1 + 1, 2, Option.none⟩ x2).setCell ⟨N + 1 + 1, 3, Option.none⟩ x3).setCell ⟨N + 1 + 1, 4, Option.none⟩ x4).cell? ⟨N, 0, Option.none⟩ = some v0 ∧ (((((a.setCell ⟨N + 1 + 1, 0, Option.none⟩ x0).setCell ⟨N + 1 + 1, 1, Option.none⟩ x1).setCell ⟨N + 1 + 1, 2, Option.none⟩ x2).setCell ⟨N + 1 + 1, 3, Option.none⟩ x3).setCell ⟨N + 1 + 1, 4, Option.none⟩ x4).cell? ⟨N, 1, Option.none⟩ = some v1 ∧ (((((a.setCell ⟨N + 1 + 1, 0, Option.none⟩ x0).setCell ⟨N + 1 + 1, 1, Option.none⟩ x1).setCell ⟨N + 1 + 1, 2, Option.none⟩ x2).setCell ⟨N + 1 + 1, 3, Option.none⟩ x3).setCell ⟨N + 1 + 1, 4, Option.none⟩ x4).cell? ⟨N, 2, Option.none⟩ = some v2 ∧ (((((a.setCell ⟨N + 1 + 1, 0, Option.none⟩ x0).setCell ⟨N + 1 + 1, 1, Option.none⟩ x1).setCell ⟨N + 1 + 1, 2, Option.none⟩ x2).setCell ⟨N + 1 + 1, 3, Option.none⟩ x3).setCell ⟨N + 1 + 1, 4, Option.none⟩ x4).cell? ⟨N, 3, Option.none⟩ = some v3 ∧ (((((a.setCell ⟨N + 1 + 1, 0, Option.none⟩ x0).setCell ⟨N + 1 + 1, 1, Option.none⟩ x1).setCell ⟨N + 1 + 1, 2, Option.none⟩ x2).setCell ⟨N + 1 + 1, 3, Option.none⟩ x3).setCell ⟨N + 1 + 1, 4, Option.none⟩ x4).cell? ⟨N, 4, Option.none⟩ = some v4 ∧ (((((a.setCell ⟨N + 1 + 1, 0, Option.none⟩ x0).setCell ⟨N + 1 + 1, 1, Option.none⟩ x1).setCell ⟨N + 1 + 1, 2, Option.none⟩ x2).setCell ⟨N + 1 + 1, 3, Option.none⟩ x3).setCell ⟨N + 1 + 1, 4, Option.none⟩ x4).cell? ⟨N + 1, 1, Option.none⟩ = some u ∧ Below (N + 2) w2 (((((a.setCell ⟨N + 1 + 1, 0, Option.none⟩ x0).setCell ⟨N + 1 + 1, 1, Option.none⟩ x1).setCell ⟨N + 1 + 1, 2, Option.none⟩ x2).setCell ⟨N + 1 + 1, 3, Option.none⟩ x3).setCell ⟨N + 1 + 1, 4, Option.none⟩ x4) ∧ N + 3 ≤ (((((a.setCell ⟨N + 1 + 1, 0, Option.none⟩ x0).setCell ⟨N + 1 + 1, 1, Option.none⟩ x1).setCell ⟨N + 1 + 1, 2, Option.none⟩ x2).setCell ⟨N + 1 + 1, 3, Option.none⟩ x3).setCell ⟨N + 1 + 1, 4, Option.none⟩ x4).heap.size := by
  obtain ⟨k0, k1, k2, k3, k4, h⟩ := h
  exact ⟨cell_z5 hne k0, cell_z5 hne k1, cell_z5 hne k2, cell_z5 hne k3, cell_z5 hne k4, keepZ h⟩
theorem startS2 {a : World} {N K : Nat} {v0 v1 v2 v3 v4 u t0 t1 t2 t3 t4 : Value} (h : a.cell? ⟨K, 0, Option.none⟩ = some t0 ∧ a.cell? ⟨K, 1, Option.none⟩ = some t1 ∧ a.cell? ⟨K, 2, Option.none⟩ = some t2 ∧ a.cell? ⟨K, 3, Option.none⟩ = some t3 ∧ a.cell? ⟨K, 4, Option.none⟩ = some t4 ∧ a.cell? ⟨N, 0, Option.none⟩ = some v0 ∧ a.cell? ⟨N, 1, Option.none⟩ = some v1 ∧ a.cell? ⟨N, 2, Option.none⟩ = some v2 ∧ a.cell? ⟨N, 3, Option.none⟩ = some v3 ∧ a.cell? ⟨N, 4, Option.none⟩ = some v4 ∧ a.cell? ⟨N + 1, 1, Option.none⟩ = some u ∧ N + 3 ≤ a.heap.size) : a.drew.cell? ⟨K, 0, Option.none⟩ = some t0 ∧ a.drew.cell? ⟨K, 1, Option.none⟩ = some t1 ∧ a.drew.cell? ⟨K, 2, Option.none⟩ = some t2 ∧ a.drew.cell? ⟨K, 3, Option.none⟩ = some t3 ∧ a.drew.cell? ⟨K, 4, Option.none⟩ = some t4 ∧ a.drew.cell? ⟨N, 0, Option.none⟩ = some v0 ∧ a.drew.cell? ⟨N, 1, Option.none⟩ = some v1 ∧ a.drew.cell? ⟨N, 2, Option.none⟩ = some v2 ∧ a.drew.cell? ⟨N, 3, Option.none⟩ = some v3 ∧ a.drew.cell? ⟨N, 4, Option.none⟩ = some v4 ∧ a.drew.cell? ⟨N + 1, 1, Option.none⟩ = some u ∧ Below (N + 2) a a.drew ∧ N + 3 ≤ a.drew.heap.size := by
  obtain ⟨k0, k1, k2, k3, k4, h⟩ := h
  exact ⟨k0, k1, k2, k3, k4, startS h⟩
theorem rowS2 {w w2 b : World} {K : Nat} {ar : Option Addr} {n : Nat} {l : List (Int × Int)} {v0 v1 v2 v3 v4 u t0 t1 t2 t3 t4 : Value} (hr : Row w ar n l) (bw : Below w.heap.size w w2) (h : b.cell? ⟨K, 0, Option.none⟩ = some t0 ∧ b.cell? ⟨K, 1, Option.none⟩ = some t1 ∧ b.cell? ⟨K, 2, Option.none⟩ = some t2 ∧ b.cell? ⟨K, 3, Option.none⟩ = some t3 ∧ b.cell? ⟨K, 4, Option.none⟩ = some t4 ∧ b.cell? ⟨w.heap.size, 0, Option.none⟩ = some v0 ∧ b.cell? ⟨w.heap.size, 1, Option.none⟩ = some v1 ∧ b.cell? ⟨w.heap.size, 2, Option.none⟩ = some v2 ∧ b.cell? ⟨w.heap.size, 3, Option.none⟩ = some v3 ∧ b.cell? ⟨w.heap.size, 4, Option.none⟩ = some v4 ∧ b.cell? ⟨w.heap.size + 1, 1, Option.none⟩ = some u ∧ Below (w.heap.size + 2) w2 b ∧ w.heap.size + 3 ≤ b.heap.size) : Row b ar n l := rowS hr bw h.2.2.2.2.2
theorem belowS2 {w2 b : World} {N K : Nat} {v0 v1 v2 v3 v4 u t0 t1 t2 t3 t4 : Value} (h : b.cell? ⟨K, 0, Option.none⟩ = some t0 ∧ b.cell? ⟨K, 1, Option.none⟩ = some t1 ∧ b.cell? ⟨K, 2, Option.none⟩ = some t2 ∧ b.cell? ⟨K, 3, Option.none⟩ = some t3 ∧ b.cell? ⟨K, 4, Option.none⟩ = some t4 ∧ b.cell? ⟨N, 0, Option.none⟩ = some v0 ∧ b.cell? ⟨N, 1, Option.none⟩ = some v1 ∧ b.cell? ⟨N, 2, Option.none⟩ = some v2 ∧ b.cell? ⟨N, 3, Option.none⟩ = some v3 ∧ b.cell? ⟨N, 4, Option.none⟩ = some v4 ∧ b.cell? ⟨N + 1, 1, Option.none⟩ = some u ∧ Below (N + 2) w2 b ∧ N + 3 ≤ b.heap.size) : Below (N + 2) w2 b := belowS h.2.2.2.2.2

set_option maxHeartbeats 4000000 in
theorem clearAll_any (g t h : Int) (a : Option Addr) (n c : Nat) (y : Bool) (l : List (Int × Int)) (op who key new kind at' : Int) (st : Bool) (da wa : ByteArray) (w : World) (hr : Row w a n l) (hn : n ≤ 1000) (hg : 0 ≤ g ∧ g ≤ 1000000000) :
    Calls Try.prog 34 #[stV g a n c t h y, cmV op who key new kind at' st da wa] w fun e w' => OutIs (clearF g y l who key) w.heap.size a n e w' ∧ Below w.heap.size w w' := by
  obtain ⟨X, hX, bX, sX, S0, C0, R0⟩ := laidThree w g a n c t h y op who key new kind at' st da wa
  obtain ⟨⟨c0, c1, c2, c3, c4⟩, _⟩ := S0.cells
  obtain ⟨d0, d1, d2, d3, d4, d5, d6, d7, d8⟩ := C0.cells
  go_enter Try.func34, Try.ntmps34
  go_wp2_with fail
  rw [← hX]
  clear hX c0 c1 c2 c3 c4 d0 d1 d2 d3 d4 d5 d6 d7 d8
  refine (proven_any g t h a n c y l op who key new kind at' st da wa X (hr.later bX)).mono ?_
  rintro e w1 ⟨rfl, hb1⟩
  have bw := bX.trans (hb1.mono bX.size)
  have hs1 := hb1.size
  have S := S0.later hb1 (by omega)
  have C := C0.later hb1 (by omega)
  have R := R0.later hb1 (by omega)
  clear S0 C0 R0 hb1 bX
  cases hP : provenB l who key with
  | false =>
    have HS : Hid (clearF g y l who key = refused 4) := by show _ = _; unfold clearF; rw [if_pos hP]
    clear hP S C
    go_wp2_with fail
    refine (refuse_any 4 w1).mono ?_
    rintro e wz ⟨rfl, hbz⟩
    have Rz := R.later hbz (by omega)
    have bz := bw.trans (hbz.mono bw.size)
    clear R bw
    obtain ⟨⟨e0, e1, e2, e3, e4⟩, ⟨q0, q1, q2, q3, q4⟩⟩ := Rz.cells
    go_wp2
    obtain ⟨Z, hZ, z0, z1, z2, z3, z4⟩ := Z5.cells (X := wz) (v0 := .int .i64 0) (v1 := .slice Option.none 0 0) (v2 := .int .i64 0) (v3 := .int .i64 0) (v4 := .bool false) Rz
    have bZ : Below w.heap.size w Z := by rw [hZ]; exact Z5.below bz (by omega)
    unfold Z5 at hZ
    rw [← hZ]
    clear hZ
    exact bodyPost_ret (v := .tuple #[.agg #[.int .i64 0, .slice Option.none 0 0, .int .i64 0, .int .i64 0, .bool false], .slice Option.none 0 0, .iface 57 (.int .i64 4)]) (by simp [results, Try.results34, go_sem, z0, z1, z2, z3, z4]) rfl (And.intro (by rw [HS.out]; exact ⟨_, _, _, _, _, _, rfl, row_nil _, row_nil _, newOr_nil, newOr_nil⟩) bZ)
  | true =>
    have HS : Hid (clearF g y l who key = ⟨cnt g, [], 0, 0, y, tellL (othersL l who) 3, 0⟩) := by show _ = _; unfold clearF; rw [if_neg (by rw [hP]; decide)]
    clear hP
    obtain ⟨⟨c0, c1, c2, c3, c4⟩, _⟩ := S.cells
    obtain ⟨d0, d1, d2, d3, d4, d5, d6, d7, d8⟩ := C.cells
    go_wp2_with fail
    clear c0 c1 c2 c3 c4 d0 d1 d2 d3 d4 d5 d6 d7 d8
    refine (counted_any g t h a n c y w1 hg).mono ?_
    rintro e w2 ⟨rfl, hbn⟩
    have bw := bw.trans (hbn.mono bw.size)
    have hsn := hbn.size
    have S := S.later hbn (by omega)
    have C := C.later hbn (by omega)
    have R := R.later hbn (by omega)
    clear hbn
    go_wp2_with fail
    refine (freed_any (cnt g) t h a n c y w2).mono ?_
    rintro e w3 ⟨rfl, hbn⟩
    have bw := bw.trans (hbn.mono bw.size)
    have hsn := hbn.size
    have S := S.later hbn (by omega)
    have C := C.later hbn (by omega)
    have R := R.later hbn (by omega)
    clear hbn
    have hlo : (othersL l who).length ≤ 1000 := by have := others_len l who l.length; rw [List.take_length] at this; have := hr.1; omega
    obtain ⟨V, hV⟩ : ∃ V, V = w3.alloc (.cells #[.int .i64 (cnt g), .slice Option.none 0 0, .int .i64 0, .int .i64 0, .bool y] 24) := ⟨_, rfl⟩
    have TV : StB V w3.heap.size (cnt g) Option.none 0 0 0 0 y := by rw [hV]; exact heap_alloc_new w3 _
    have bal : Below w3.heap.size w3 V := by rw [hV]; exact (Below.refl _ _).alloc (Nat.le_refl _) _
    have bw := bw.trans (bal.mono bw.size)
    have hsn := bal.size
    have S := S.later bal (by omega)
    have C := C.later bal (by omega)
    have R := R.later bal (by omega)
    have hs2 : w.heap.size + 3 ≤ V.heap.size := by omega
    have hKne : w3.heap.size ≠ w.heap.size + 1 + 1 := by omega
    go_upto_region 5 with fail
    rw [← hV]
    clear hV bal
    generalize w3.heap.size = K at *
    obtain ⟨⟨c0, c1, c2, c3, c4⟩, _⟩ := S.cells
    obtain ⟨d0, d1, d2, d3, d4, d5, d6, d7, d8⟩ := C.cells
    obtain ⟨⟨m0, m1, m2, m3, m4⟩, _⟩ := TV.cells
    obtain ⟨⟨e0, e1, e2, e3, e4⟩, ⟨q0, q1, q2, q3, q4⟩⟩ := R.cells
    have HR : Hid (Row w a n l) := hr
    clear S C TV
    go_region_held3 (fun w' => w'.cell? ⟨K, 0, Option.none⟩ = some (.int .i64 (cnt g)) ∧ w'.cell? ⟨K, 1, Option.none⟩ = some (.slice Option.none 0 0) ∧ w'.cell? ⟨K, 2, Option.none⟩ = some (.int .i64 0) ∧ w'.cell? ⟨K, 3, Option.none⟩ = some (.int .i64 0) ∧ w'.cell? ⟨K, 4, Option.none⟩ = some (.bool y) ∧ w'.cell? ⟨w.heap.size, 0, Option.none⟩ = some (.int .i64 g) ∧ w'.cell? ⟨w.heap.size, 1, Option.none⟩ = some (.slice a n c) ∧ w'.cell? ⟨w.heap.size, 2, Option.none⟩ = some (.int .i64 t) ∧ w'.cell? ⟨w.heap.size, 3, Option.none⟩ = some (.int .i64 h) ∧ w'.cell? ⟨w.heap.size, 4, Option.none⟩ = some (.bool y) ∧ w'.cell? ⟨w.heap.size + 1, 1, Option.none⟩ = some (.int .i64 who) ∧ Below (w.heap.size + 2) V w' ∧ w.heap.size + 3 ≤ w'.heap.size)
      ((first | with_reducible exact startS2 ⟨m0, m1, m2, m3, m4, c0, c1, c2, c3, c4, d1, hs2⟩ | with_reducible exact keepS2 (by assumption) (by assumption) | with_reducible exact keepZ2 hKne (by assumption)))
      (first
        | (go_at_call 50; with_reducible refine (others_any g t h a n c y l who _ (rowS2 HR.out bw (by assumption)) (by omega)).mono ?_; rintro e wo ⟨ao, no, co, rfl, hno, hbo⟩; have hnb := nums_le hno hlo; (first | with_reducible have Ro := StB.dl R hbo | with_reducible have Ro := StB.nl Ro hbo); obtain ⟨⟨e0, e1, e2, e3, e4⟩, ⟨q0, q1, q2, q3, q4⟩⟩ := Ro.cells)
        | (go_at_call 49; with_reducible refine (tells_any ao no co (othersL l who) 3 _ hno hnb).mono ?_; rintro e wt ⟨at2, nt, ct, rfl, hrt, hbt, hft⟩; (first | with_reducible have Rt := StB.dl R hbt | with_reducible have Rt := StB.nl Ro hbt); obtain ⟨⟨e0, e1, e2, e3, e4⟩, ⟨q0, q1, q2, q3, q4⟩⟩ := Rt.cells))
    all_goals
      have hft3 : Far (w.heap.size + 3) at2 := hft.mono (by have := Ro.lt; omega)
      have HT : Hid (Row wt at2 nt (tellL (othersL l who) 3)) := hrt
      have HF3 : Hid (Far (w.heap.size + 3) at2) := hft3
      clear hft hft3 hrt hno
      go_wp2
      obtain ⟨Z, hZ, z0, z1, z2, z3, z4⟩ := Z5.cells (X := wt) (v0 := .int .i64 (cnt g)) (v1 := .slice Option.none 0 0) (v2 := .int .i64 0) (v3 := .int .i64 0) (v4 := .bool y) Rt
      have hrt : Row Z at2 nt (tellL (othersL l who) 3) := by rw [hZ]; exact HT.out.z5 HF3.out (by omega)
      unfold Z5 at hZ
      have bZ : Below w.heap.size w Z := by rw [hZ]; exact bw.trans (Below.mono (belowS2 (by with_reducible assumption)) (by omega))
      rw [← hZ]
      clear hZ
      exact bodyPost_ret (v := .tuple #[.agg #[.int .i64 (cnt g), .slice Option.none 0 0, .int .i64 0, .int .i64 0, .bool y], .slice at2 nt ct, .nilIface]) (by simp [results, Try.results34, go_sem, z0, z1, z2, z3, z4]) rfl (And.intro (by rw [HS.out]; exact ⟨_, _, _, at2, nt, ct, rfl, row_nil _, hrt, newOr_nil, newOr_far HF3.out (by omega)⟩) bZ)
end Go.Proofs.Ytokjacbipmfjkaa
