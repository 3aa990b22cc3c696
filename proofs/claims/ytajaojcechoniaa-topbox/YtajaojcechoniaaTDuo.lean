/- Two boxes behind one another in memory. No statement of the seat is proved here. -/
import Derived.Test.YtajaojcechoniaaTBox
namespace Go.Proofs.Ytajaojcechoniaa
open Go.ChangeShapes Go.WideShapes Go.ChangeAt Go.RowKit Go.Deep

/-- What is taken: the eldest; 0: there is none. -/
def headL : List Int → Int
  | [] => 0
  | x :: _ => x
theorem headL_at : ∀ (l : List Int) (h : 0 < l.length), headL l = l[0]
  | _ :: _, _ => rfl
theorem TK.fl {X : World} {M lo : Nat} {v0 v1 v2 v3 : Value} {a : Option Addr} {n c : Nat} {l : List Int} (h : Fl X lo a n c l) (hM : M < lo) : Fl (TK X M v0 v1 v2 v3) lo a n c l :=
  (((h.set _ hM _).set _ hM _).set _ hM _).set _ hM _
def Duo (X : World) (N : Nat) (v0 v1 v2 v3 : Value) : Prop :=
  X.heap[N]? = some (.cells #[v0, v1, v2, v3] 27 (0, 0)) ∧ X.heap[N + 1]? = some (.cells #[.slice Option.none 0 0, .slice Option.none 0 0, .slice Option.none 0 0, .slice Option.none 0 0] 27 (0, 0))
def duoW (w : World) (v0 v1 v2 v3 : Value) : World := (w.alloc (.cells #[v0, v1, v2, v3] 27)).alloc (.cells #[.slice Option.none 0 0, .slice Option.none 0 0, .slice Option.none 0 0, .slice Option.none 0 0] 27)
theorem Duo.start (w : World) (v0 v1 v2 v3 : Value) : Duo (duoW w v0 v1 v2 v3) w.heap.size v0 v1 v2 v3 := by
  unfold duoW
  refine ⟨?_, ?_⟩
  · rw [Below.heap_alloc _ _ _ (by simp)]; exact heap_alloc_new w _
  · simpa using heap_alloc_new (w.alloc (.cells #[v0, v1, v2, v3] 27)) (.cells #[.slice Option.none 0 0, .slice Option.none 0 0, .slice Option.none 0 0, .slice Option.none 0 0] 27)
theorem Duo.below (w : World) (v0 v1 v2 v3 : Value) : Below w.heap.size w (duoW w v0 v1 v2 v3) ∧ (duoW w v0 v1 v2 v3).heap.size = w.heap.size + 2 :=
  ⟨((Below.refl _ _).alloc (Nat.le_refl _) _).alloc (by simp) _, by simp [duoW]⟩
theorem Duo.later {X X' : World} {N B : Nat} {v0 v1 v2 v3 : Value} (h : Duo X N v0 v1 v2 v3) (hb : Below B X X') (hB : N + 2 ≤ B) : Duo X' N v0 v1 v2 v3 := by
  obtain ⟨h1, h2⟩ := h
  exact ⟨by rw [hb.block _ (by omega)]; exact h1, by rw [hb.block _ (by omega)]; exact h2⟩
theorem Duo.cells {X : World} {N : Nat} {v0 v1 v2 v3 : Value} (h : Duo X N v0 v1 v2 v3) :
    (X.cell? ⟨N, 0, Option.none⟩ = some v0 ∧ X.cell? ⟨N, 1, Option.none⟩ = some v1 ∧ X.cell? ⟨N, 2, Option.none⟩ = some v2 ∧ X.cell? ⟨N, 3, Option.none⟩ = some v3) ∧
    (X.cell? ⟨N + 1, 0, Option.none⟩ = some (.slice Option.none 0 0) ∧ X.cell? ⟨N + 1, 1, Option.none⟩ = some (.slice Option.none 0 0) ∧ X.cell? ⟨N + 1, 2, Option.none⟩ = some (.slice Option.none 0 0) ∧ X.cell? ⟨N + 1, 3, Option.none⟩ = some (.slice Option.none 0 0)) ∧
    (X.frozen? ⟨N, 0, Option.none⟩ = false ∧ X.frozen? ⟨N, 1, Option.none⟩ = false ∧ X.frozen? ⟨N, 2, Option.none⟩ = false ∧ X.frozen? ⟨N, 3, Option.none⟩ = false) ∧
    (X.frozen? ⟨N + 1, 0, Option.none⟩ = false ∧ X.frozen? ⟨N + 1, 1, Option.none⟩ = false ∧ X.frozen? ⟨N + 1, 2, Option.none⟩ = false ∧ X.frozen? ⟨N + 1, 3, Option.none⟩ = false) := by
  obtain ⟨h1, h2⟩ := h
  simp [World.cell?, World.frozen?, h1, h2]
end Go.Proofs.Ytajaojcechoniaa
