/- Plain facts on states that may be, and on boxed states and rows in memory; no statement of the seat is proved here. -/
import Derived.Test.YtfkmaiiainbcbaaGreatDoorFault
namespace Go.Proofs.YtfkmaiiainbcbaaGreatDoor
open Go.ChangeShapes Go.WideShapes Go.ChangeAt Go.RowKit

theorem rf_all : ∀ (l : List (Int × Int)) (p : Int), rf p l = 0 → ∀ r ∈ l, 1 ≤ r.1 ∧ r.1 ≤ 4 ∧ 1 ≤ r.2 ∧ r.2 ≤ 999
  | [], _, _, r, hr => by cases hr
  | q :: l, p, h, r, hr => by
    unfold rf at h
    split at h
    · omega
    · split at h
      · omega
      · rcases List.mem_cons.1 hr with rfl | hr
        · omega
        · exact rf_all l _ h r hr

theorem keyOf_or : ∀ (l : List (Int × Int)) (who : Int), keyOf l who = 0 ∨ ∃ r ∈ l, r.1 = who ∧ keyOf l who = r.2
  | [], _ => Or.inl rfl
  | q :: l, who => by
    unfold keyOf
    split
    · exact Or.inr ⟨q, by simp, by assumption, rfl⟩
    · rcases keyOf_or l who with h | ⟨r, hr, h⟩
      · exact Or.inl h
      · exact Or.inr ⟨r, by simp [hr], h⟩

theorem key_nonneg {l : List (Int × Int)} {p : Int} (h : rf p l = 0) (who : Int) : 0 ≤ keyOf l who := by
  rcases keyOf_or l who with h0 | ⟨r, hr, _, hk⟩
  · omega
  · have := rf_all l p h r hr; omega

theorem fault_rf {g t h : Int} {l : List (Int × Int)} (hf : fault g t h l = 0) : rf 0 l = 0 ∧ tf t h l = 0 := by
  unfold fault at hf
  split at hf
  · omega
  · split at hf
    · exact ⟨by assumption, hf⟩
    · omega

theorem tf_type {t h : Int} {l : List (Int × Int)} (hf : tf t h l = 0) : t = 0 ∨ t = 1 ∨ t = 3 ∨ t = 5 ∨ t = 6 ∨ t = 7 ∨ t = 8 := by
  rcases kinds8 t with k | k | k | k | k | k | k | ⟨k0, k1, k3, k5, k6, k7, k8⟩
  iterate 7 (first | omega)
  have ty : typeB t = false := by simp [typeB, k1, k3, k5, k6, k7, k8]
  simp only [beq_eq_false_iff_ne] at k0
  simp [tf, k0, ty] at hf

theorem may_same {g t h : Int} {l : List (Int × Int)} (hf : fault g t h l = 0) (who : Int) (wr : Bool) : mayB t h l who wr = rmayB t h l who wr := by
  obtain ⟨h1, h2⟩ := fault_rf hf
  have hk := key_nonneg h1 who
  have e : (keyOf l who != 0) = decide (0 < keyOf l who) := by
    by_cases h0 : keyOf l who = 0
    · simp [h0]
    · have : 0 < keyOf l who := by omega
      simp [h0, this]
  rcases tf_type h2 with rfl | rfl | rfl | rfl | rfl | rfl | rfl <;> cases wr <;> simp [mayB, rmayB, holdsB, rholdsB, allB, e]

theorem row_nil (w : World) : Row w Option.none 0 [] := ⟨rfl, by decide, fun h => absurd rfl h⟩

theorem row_one (w : World) (a b : Int) (T : TypeId) : Row (w.alloc (.cells #[.int .i64 a, .int .i64 b] T)) (some ⟨w.heap.size, 0, Option.none⟩) 1 [(a, b)] := by
  refine ⟨rfl, by decide, fun _ => ⟨_, _, rfl, fun i hi => ?_⟩⟩
  have : i = 0 := by simpa using hi
  subst this
  simp [go_sem]

/-- A boxed state. -/
def B5 (w : World) (k : Nat) (v0 v1 v2 v3 v4 : Value) : Prop :=
  w.cell? ⟨k, 0, Option.none⟩ = some v0 ∧ w.cell? ⟨k, 1, Option.none⟩ = some v1 ∧ w.cell? ⟨k, 2, Option.none⟩ = some v2 ∧ w.cell? ⟨k, 3, Option.none⟩ = some v3 ∧ w.cell? ⟨k, 4, Option.none⟩ = some v4
theorem B5.later {w w' : World} {k : Nat} {v0 v1 v2 v3 v4 : Value} (h : B5 w k v0 v1 v2 v3 v4) (hb : Below w.heap.size w w') : B5 w' k v0 v1 v2 v3 v4 :=
  ⟨cell_later hb h.1, cell_later hb h.2.1, cell_later hb h.2.2.1, cell_later hb h.2.2.2.1, cell_later hb h.2.2.2.2⟩

/-- A boxed state, and that nothing older has turned. -/
theorem keep5 {w w1 w2 : World} {k : Nat} {v0 v1 v2 v3 v4 : Value} (hb : Below w1.heap.size w1 w2)
    (h : w1.cell? ⟨k, 0, Option.none⟩ = some v0 ∧ w1.cell? ⟨k, 1, Option.none⟩ = some v1 ∧ w1.cell? ⟨k, 2, Option.none⟩ = some v2 ∧ w1.cell? ⟨k, 3, Option.none⟩ = some v3 ∧ w1.cell? ⟨k, 4, Option.none⟩ = some v4 ∧ Below w.heap.size w w1) :
    w2.cell? ⟨k, 0, Option.none⟩ = some v0 ∧ w2.cell? ⟨k, 1, Option.none⟩ = some v1 ∧ w2.cell? ⟨k, 2, Option.none⟩ = some v2 ∧ w2.cell? ⟨k, 3, Option.none⟩ = some v3 ∧ w2.cell? ⟨k, 4, Option.none⟩ = some v4 ∧ Below w.heap.size w w2 :=
  ⟨cell_later hb h.1, cell_later hb h.2.1, cell_later hb h.2.2.1, cell_later hb h.2.2.2.1, cell_later hb h.2.2.2.2.1, h.2.2.2.2.2.trans (hb.mono h.2.2.2.2.2.size)⟩
theorem heldBelow {p q r s u b : Prop} (h : p ∧ q ∧ r ∧ s ∧ u ∧ b) : b := h.2.2.2.2.2

theorem fault_nonneg (g t h : Int) (l : List (Int × Int)) : 0 ≤ fault g t h l := by
  have hr : ∀ (l : List (Int × Int)) (p : Int), 0 ≤ rf p l := by
    intro l
    induction l with
    | nil => intro p; simp [rf]
    | cons q l ih => intro p; unfold rf; split; decide; split; decide; exact ih _
  unfold fault tf
  have := hr l 0
  repeat (split <;> try omega)

end Go.Proofs.YtfkmaiiainbcbaaGreatDoor
