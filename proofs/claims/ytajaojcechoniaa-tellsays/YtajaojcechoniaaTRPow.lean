/- What the document's own Power leaves. No statement of the seat is proved here. -/
import Derived.Test.YtajaojcechoniaaTPow
namespace Go.Proofs.Ytajaojcechoniaa
open Go.ChangeShapes Go.WideShapes Go.ChangeAt Go.RowKit Go.Deep

def four (a b c d : Option Addr) : Nat → Option Addr
  | 0 => a
  | 1 => b
  | 2 => c
  | _ => d

set_option maxHeartbeats 1000000 in
theorem rpower_any (M : Nat) (A : Nat → Option Addr) (N C : Nat → Nat) (w : World) (hD : DBox w M A N C) : Calls Try.prog 9 #[.pointer (some ⟨M, 0, Option.none⟩)] w fun e w' => ∃ A' N' C', e = .returned (.tuple #[]) ∧ DBox w' M A' N' C' ∧ BoxIs w' w.heap.size A' N' C' lost4 ∧ Beside M w w' := by
  obtain ⟨X, hX⟩ : ∃ X, X = (((w.alloc (.cells #[.int .i64 4] 3)).alloc (.cells #[.int .i64 4] 3)).alloc (.cells #[.int .i64 4] 3)).alloc (.cells #[.int .i64 4] 3) := ⟨_, rfl⟩
  have l1 : ∀ W : World, Below W.heap.size W (W.alloc (.cells #[.int .i64 4] 3)) := fun W => (Below.refl _ _).alloc (Nat.le_refl _) _
  have s1 : ∀ W : World, (W.alloc (.cells #[.int .i64 4] 3)).heap.size = W.heap.size + 1 := fun W => by simp
  have k0 : Fl X w.heap.size (some ⟨w.heap.size, 0, Option.none⟩) 1 1 [4] := by rw [hX]; exact (((fl_one w _ 4 (Nat.le_refl _)).later (l1 _)).later (l1 _)).later (l1 _)
  have k1 : Fl X w.heap.size (some ⟨w.heap.size + 1, 0, Option.none⟩) 1 1 [4] := by rw [hX]; have := ((fl_one (w.alloc (.cells #[.int .i64 4] 3)) w.heap.size 4 (by simp only [s1]; omega)).later (l1 _)).later (l1 _); rw [s1] at this; exact this
  have k2 : Fl X w.heap.size (some ⟨w.heap.size + 1 + 1, 0, Option.none⟩) 1 1 [4] := by rw [hX]; have := (fl_one ((w.alloc (.cells #[.int .i64 4] 3)).alloc (.cells #[.int .i64 4] 3)) w.heap.size 4 (by simp only [s1]; omega)).later (l1 _); rw [s1, s1] at this; exact this
  have k3 : Fl X w.heap.size (some ⟨w.heap.size + 1 + 1 + 1, 0, Option.none⟩) 1 1 [4] := by rw [hX]; have := fl_one (((w.alloc (.cells #[.int .i64 4] 3)).alloc (.cells #[.int .i64 4] 3)).alloc (.cells #[.int .i64 4] 3)) w.heap.size 4 (by simp only [s1]; omega); rw [s1, s1, s1] at this; exact this
  have bX : Below w.heap.size w X := by rw [hX]; exact ((((Below.refl _ _).alloc (Nat.le_refl _) _).alloc (by simp only [s1]; omega) _).alloc (by simp only [s1]; omega) _).alloc (by simp only [s1]; omega) _
  have hlt := hD.lt
  have hDX := hD.later bX
  obtain ⟨⟨c0, c1, c2, c3⟩, ⟨f0, f1, f2, f3⟩⟩ := hDX.cells
  rw [hX] at c0 c1 c2 c3 f0 f1 f2 f3
  have K0 : Hid (Fl X w.heap.size (some ⟨w.heap.size, 0, Option.none⟩) 1 1 [4]) := k0
  have K1 : Hid (Fl X w.heap.size (some ⟨w.heap.size + 1, 0, Option.none⟩) 1 1 [4]) := k1
  have K2 : Hid (Fl X w.heap.size (some ⟨w.heap.size + 1 + 1, 0, Option.none⟩) 1 1 [4]) := k2
  have K3 : Hid (Fl X w.heap.size (some ⟨w.heap.size + 1 + 1 + 1, 0, Option.none⟩) 1 1 [4]) := k3
  have HX : Hid (X = (((w.alloc (.cells #[.int .i64 4] 3)).alloc (.cells #[.int .i64 4] 3)).alloc (.cells #[.int .i64 4] 3)).alloc (.cells #[.int .i64 4] 3)) := hX
  clear hX k0 k1 k2 k3
  have n0 : ¬ M = w.heap.size := by omega
  have n1 : ¬ M = w.heap.size + 1 := by omega
  have n2 : ¬ M = w.heap.size + 1 + 1 := by omega
  have n3 : ¬ M = w.heap.size + 1 + 1 + 1 := by omega
  have HDX : Hid (DBox X M A N C) := hDX
  clear hDX
  go_enter Try.func9, Try.ntmps9
  go_wp2
  first | go_end0 | refine bodyPost_ret (results_none rfl _ _ _) rfl ?_
  rw [← HX.out]
  have bs : Beside M X (TK X M (.slice (some ⟨w.heap.size, 0, Option.none⟩) 1 1) (.slice (some ⟨w.heap.size + 1, 0, Option.none⟩) 1 1) (.slice (some ⟨w.heap.size + 1 + 1, 0, Option.none⟩) 1 1) (.slice (some ⟨w.heap.size + 1 + 1 + 1, 0, Option.none⟩) 1 1)) := TK.beside (Beside.of (Below.refl _ _))
  have hov := HDX.out.over (A' := four (some ⟨w.heap.size, 0, Option.none⟩) (some ⟨w.heap.size + 1, 0, Option.none⟩) (some ⟨w.heap.size + 1 + 1, 0, Option.none⟩) (some ⟨w.heap.size + 1 + 1 + 1, 0, Option.none⟩)) (N' := fun _ => 1) (C' := fun _ => 1)
  refine ⟨four (some ⟨w.heap.size, 0, Option.none⟩) (some ⟨w.heap.size + 1, 0, Option.none⟩) (some ⟨w.heap.size + 1 + 1, 0, Option.none⟩) (some ⟨w.heap.size + 1 + 1 + 1, 0, Option.none⟩), fun _ => 1, fun _ => 1, rfl, hov, ?_, (Beside.of bX).trans bs⟩
  have g0 := K0.out.beside bs hlt
  have g1 := K1.out.beside bs hlt
  have g2 := K2.out.beside bs hlt
  have g3 := K3.out.beside bs hlt
  intro j hj
  rcases (by omega : j = 0 ∨ j = 1 ∨ j = 2 ∨ j = 3) with rfl | rfl | rfl | rfl
  · exact g0
  · exact g1
  · exact g2
  · exact g3
end Go.Proofs.Ytajaojcechoniaa
