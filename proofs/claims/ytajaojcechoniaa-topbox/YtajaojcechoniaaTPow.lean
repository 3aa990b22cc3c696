/- What tell.Power hands back, and what the document's own Power leaves. No statement of the seat is proved here. -/
import Derived.Test.YtajaojcechoniaaTDoc
namespace Go.Proofs.Ytajaojcechoniaa
open Go.ChangeShapes Go.WideShapes Go.ChangeAt Go.RowKit Go.Deep

/-- A box of the program's in memory. -/
def PBox (w : World) (M : Nat) (A : Nat → Option Addr) (N C : Nat → Nat) : Prop := w.heap[M]? = some (.cells #[.slice (A 0) (N 0) (C 0), .slice (A 1) (N 1) (C 1), .slice (A 2) (N 2) (C 2), .slice (A 3) (N 3) (C 3)] 27 (0, 0))
theorem PBox.cells {X : World} {M : Nat} {A : Nat → Option Addr} {N C : Nat → Nat} (h : PBox X M A N C) :
    (X.cell? ⟨M, 0, Option.none⟩ = some (.slice (A 0) (N 0) (C 0)) ∧ X.cell? ⟨M, 1, Option.none⟩ = some (.slice (A 1) (N 1) (C 1)) ∧ X.cell? ⟨M, 2, Option.none⟩ = some (.slice (A 2) (N 2) (C 2)) ∧ X.cell? ⟨M, 3, Option.none⟩ = some (.slice (A 3) (N 3) (C 3))) ∧
    (X.frozen? ⟨M, 0, Option.none⟩ = false ∧ X.frozen? ⟨M, 1, Option.none⟩ = false ∧ X.frozen? ⟨M, 2, Option.none⟩ = false ∧ X.frozen? ⟨M, 3, Option.none⟩ = false) := by
  unfold PBox at h
  simp [World.cell?, World.frozen?, h]
theorem PBox.at {X : World} {M : Nat} {A : Nat → Option Addr} {N C : Nat → Nat} (h : PBox X M A N C) (j : Nat) (hj : j < 4) : X.cell? ⟨M, j, Option.none⟩ = some (.slice (A j) (N j) (C j)) ∧ X.frozen? ⟨M, j, Option.none⟩ = false := by
  obtain ⟨⟨c0, c1, c2, c3⟩, ⟨f0, f1, f2, f3⟩⟩ := h.cells
  rcases (by omega : j = 0 ∨ j = 1 ∨ j = 2 ∨ j = 3) with rfl | rfl | rfl | rfl
  · exact ⟨c0, f0⟩
  · exact ⟨c1, f1⟩
  · exact ⟨c2, f2⟩
  · exact ⟨c3, f3⟩
theorem DBox.at {X : World} {M : Nat} {A : Nat → Option Addr} {N C : Nat → Nat} (h : DBox X M A N C) (j : Nat) (hj : j < 4) : X.cell? ⟨M, j, Option.none⟩ = some (.slice (A j) (N j) (C j)) ∧ X.frozen? ⟨M, j, Option.none⟩ = false := by
  obtain ⟨⟨c0, c1, c2, c3⟩, ⟨f0, f1, f2, f3⟩⟩ := h.cells
  rcases (by omega : j = 0 ∨ j = 1 ∨ j = 2 ∨ j = 3) with rfl | rfl | rfl | rfl
  · exact ⟨c0, f0⟩
  · exact ⟨c1, f1⟩
  · exact ⟨c2, f2⟩
  · exact ⟨c3, f3⟩
theorem PBox.later {X X' : World} {M B : Nat} {A : Nat → Option Addr} {N C : Nat → Nat} (h : PBox X M A N C) (hb : Below B X X') (hB : M < B) : PBox X' M A N C := by
  unfold PBox
  rw [hb.block M hB]
  exact h
theorem PBox.lt {X : World} {M : Nat} {A : Nat → Option Addr} {N C : Nat → Nat} (h : PBox X M A N C) : M < X.heap.size := (Array.getElem?_eq_some_iff.1 h).1
theorem PBox.beside {X X' : World} {M K : Nat} {A : Nat → Option Addr} {N C : Nat → Nat} (h : PBox X M A N C) (hb : Beside K X X') (hne : M ≠ K) : PBox X' M A N C := by
  unfold PBox
  rw [hb.block M h.lt hne]
  exact h
theorem DBox.beside {X X' : World} {M K : Nat} {A : Nat → Option Addr} {N C : Nat → Nat} (h : DBox X M A N C) (hb : Beside K X X') (hne : M ≠ K) : DBox X' M A N C := by
  unfold DBox
  rw [hb.block M h.lt hne]
  exact h
theorem PBox.set {X : World} {M : Nat} {A : Nat → Option Addr} {N C : Nat → Nat} (h : PBox X M A N C) (j : Nat) (hj : j < 4) (a : Option Addr) (n c : Nat) : PBox (X.setCell ⟨M, j, Option.none⟩ (.slice a n c)) M (upd A j a) (upd N j n) (upd C j c) := by
  have h' := heap_setCell_same _ M j _ _ (.slice a n c) h
  unfold PBox
  rw [h']
  rcases (by omega : j = 0 ∨ j = 1 ∨ j = 2 ∨ j = 3) with rfl | rfl | rfl | rfl <;> rfl
/-- A whole box stored over another one. -/
theorem PBox.over {X : World} {M : Nat} {A A' : Nat → Option Addr} {N C N' C' : Nat → Nat} (h : PBox X M A N C) : PBox (TK X M (.slice (A' 0) (N' 0) (C' 0)) (.slice (A' 1) (N' 1) (C' 1)) (.slice (A' 2) (N' 2) (C' 2)) (.slice (A' 3) (N' 3) (C' 3))) M A' N' C' := by
  have h0 := heap_setCell_same _ M 0 _ _ (.slice (A' 0) (N' 0) (C' 0)) h
  have h1 := heap_setCell_same _ M 1 _ _ (.slice (A' 1) (N' 1) (C' 1)) h0
  have h2 := heap_setCell_same _ M 2 _ _ (.slice (A' 2) (N' 2) (C' 2)) h1
  have h3 := heap_setCell_same _ M 3 _ _ (.slice (A' 3) (N' 3) (C' 3)) h2
  exact h3
theorem DBox.over {X : World} {M : Nat} {A A' : Nat → Option Addr} {N C N' C' : Nat → Nat} (h : DBox X M A N C) : DBox (TK X M (.slice (A' 0) (N' 0) (C' 0)) (.slice (A' 1) (N' 1) (C' 1)) (.slice (A' 2) (N' 2) (C' 2)) (.slice (A' 3) (N' 3) (C' 3))) M A' N' C' := by
  have h0 := heap_setCell_same _ M 0 _ _ (.slice (A' 0) (N' 0) (C' 0)) h
  have h1 := heap_setCell_same _ M 1 _ _ (.slice (A' 1) (N' 1) (C' 1)) h0
  have h2 := heap_setCell_same _ M 2 _ _ (.slice (A' 2) (N' 2) (C' 2)) h1
  have h3 := heap_setCell_same _ M 3 _ _ (.slice (A' 3) (N' 3) (C' 3)) h2
  exact h3
theorem TK.beside {a X : World} {M : Nat} {v0 v1 v2 v3 : Value} (h : Beside M a X) : Beside M a (TK X M v0 v1 v2 v3) := (((h.set 0 v0).set 1 v1).set 2 v2).set 3 v3
/-- One number in a block of its own. -/
theorem fl_one (w : World) (lo : Nat) (x : Int) (hlo : lo ≤ w.heap.size) : Fl (w.alloc (.cells #[.int .i64 x] 3)) lo (some ⟨w.heap.size, 0, Option.none⟩) 1 1 [x] := by
  refine ⟨⟨rfl, by decide, fun _ => ⟨w.heap.size, 0, rfl, fun i hi => ?_⟩⟩, (fun h => by cases h), (fun ad h => by cases h; exact hlo), by decide⟩
  have : i = 0 := by simp at hi; omega
  subst this
  have h0 := heap_alloc_new w (.cells #[.int .i64 x] 3)
  generalize w.alloc (.cells #[.int .i64 x] 3) = Y at *
  simp [World.cell?, h0]

def lost4 : Nat → List Int := fun _ => [4]

set_option maxHeartbeats 4000000 in
theorem power_any (w : World) : Calls Try.prog 8 #[] w fun e w' => ∃ A' N' C', e = .returned (bx A' N' C') ∧ BoxIs w' w.heap.size A' N' C' lost4 ∧ Below w.heap.size w w' := by
  have bw0 : Below w.heap.size w ((w.alloc (.cells #[.slice Option.none 0 0, .slice Option.none 0 0, .slice Option.none 0 0, .slice Option.none 0 0] 27)).alloc (.cells #[.slice Option.none 0 0, .slice Option.none 0 0, .slice Option.none 0 0, .slice Option.none 0 0] 27)) := ((Below.refl _ _).alloc (Nat.le_refl _) _).alloc (by simp) _
  have hs0 : ((w.alloc (.cells #[.slice Option.none 0 0, .slice Option.none 0 0, .slice Option.none 0 0, .slice Option.none 0 0] 27)).alloc (.cells #[.slice Option.none 0 0, .slice Option.none 0 0, .slice Option.none 0 0, .slice Option.none 0 0] 27)).heap.size = w.heap.size + 2 := by simp
  have D0 := Duo.start w (.slice Option.none 0 0) (.slice Option.none 0 0) (.slice Option.none 0 0) (.slice Option.none 0 0)
  go_enter Try.func8, Try.ntmps8
  go_wp2
  go_loopw [3] (fun i wr => ∃ (k : Nat) (A : Nat → Option Addr) (N C : Nat → Nat), k ≤ 4 ∧ i = .int .i64 k ∧ PBox wr (w.heap.size + 1) A N C ∧ PBox wr w.heap.size (fun _ => Option.none) (fun _ => 0) (fun _ => 0) ∧ (∀ j, j < k → Fl wr (w.heap.size + 2) (A j) (N j) (C j) [4]) ∧ Below w.heap.size w wr ∧ w.heap.size + 2 ≤ wr.heap.size) (fun i _ => 4 - (intOf i).toNat)
  case atStart => exact ⟨0, fun _ => Option.none, fun _ => 0, fun _ => 0, by decide, rfl, D0.2, D0.1, fun j hj => absurd hj (Nat.not_lt_zero _), bw0, Nat.le_of_eq hs0.symm⟩
  case round =>
    obtain ⟨k, A, N, C, hk, rfl, hb1, hb0, hf, bw, hsz⟩ := hrel
    by_cases hlt : k < 4
    · obtain ⟨ck, fk⟩ := hb1.at k hlt
      have hki : (k : Int) < 4 := by omega
      have bal : Below wr.heap.size wr (wr.alloc (.cells #[.int .i64 4] 3)) := (Below.refl _ _).alloc (Nat.le_refl _) _
      have ck' := cell_later bal ck
      have fk' : (wr.alloc (.cells #[.int .i64 4] 3)).frozen? ⟨w.heap.size + 1, k, Option.none⟩ = false := by rw [World.frozen?_of_block (w := wr) (bal.block (w.heap.size + 1) (by omega))]; exact fk
      have HB1 : Hid (PBox wr (w.heap.size + 1) A N C) := hb1
      have HB0 : Hid (PBox wr w.heap.size (fun _ => Option.none) (fun _ => 0) (fun _ => 0)) := hb0
      clear hb1 hb0
      go_wp2
      go_roundw
      case rel =>
        refine ⟨k + 1, upd A k (some ⟨wr.heap.size, 0, Option.none⟩), upd N k 1, upd C k 1, by omega, by go_num, (HB1.out.later bal (by omega)).set k hlt _ _ _, ?_, ?_, (bw.alloc bw.size _).setCell (by show w.heap.size ≤ w.heap.size + 1; omega) _, ?_⟩
        · exact (HB0.out.later bal (by omega)).later ((Below.refl (w.heap.size + 1) _).setCell (by exact Nat.le_refl _) _) (by omega)
        · intro j hj
          unfold upd
          by_cases e : j = k
          · simp only [if_pos e]
            exact (fl_one wr (w.heap.size + 2) 4 hsz).set _ (by show w.heap.size + 1 < w.heap.size + 2; omega) _
          · simp only [if_neg e]
            exact ((hf j (by omega)).later bal).set _ (by show w.heap.size + 1 < w.heap.size + 2; omega) _
        · have h1 := bal.size
          have h2 := ((Below.refl (w.heap.size + 1) (wr.alloc (.cells #[.int .i64 4] 3))).setCell (p := ⟨w.heap.size + 1, k, Option.none⟩) (by exact Nat.le_refl _) (.slice (some ⟨wr.heap.size, 0, Option.none⟩) 1 1)).size
          omega
      case measure => simp [intOf]; omega
    · have hk4 : k = 4 := by omega
      subst hk4
      obtain ⟨⟨c0, c1, c2, c3⟩, ⟨f0, f1, f2, f3⟩⟩ := hb1.cells
      obtain ⟨⟨e0, e1, e2, e3⟩, ⟨q0, q1, q2, q3⟩⟩ := hb0.cells
      have HB0 : Hid (PBox wr w.heap.size (fun _ => Option.none) (fun _ => 0) (fun _ => 0)) := hb0
      clear hb0
      go_wp2
      obtain ⟨Z, hZ, z0, z1, z2, z3⟩ := TK.cells (X := wr) (M := w.heap.size) (v0 := .slice (A 0) (N 0) (C 0)) (v1 := .slice (A 1) (N 1) (C 1)) (v2 := .slice (A 2) (N 2) (C 2)) (v3 := .slice (A 3) (N 3) (C 3)) HB0.out
      have bZ : Below w.heap.size w Z := by rw [hZ]; exact TK.below bw (Nat.le_refl _)
      have fZ : ∀ j, j < 4 → Fl Z (w.heap.size + 2) (A j) (N j) (C j) [4] := by rw [hZ]; exact fun j hj => TK.fl (hf j hj) (by omega)
      have hZ' := hZ
      unfold TK at hZ'
      rw [← hZ']
      clear hZ' hZ
      refine bodyPost_ret (v := bx A N C) (by simp [results, Try.results8, go_sem, z0, z1, z2, z3, bx]) rfl ⟨A, N, C, rfl, fun j hj => (fZ j hj).mono (by omega), bZ⟩
end Go.Proofs.Ytajaojcechoniaa
