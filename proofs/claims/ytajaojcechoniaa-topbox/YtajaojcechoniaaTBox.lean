/- What tell.Add hands back. No statement of the seat is proved here. -/
import Derived.Test.YtajaojcechoniaaTCat
import Derived.Deep.RegionWith
import Derived.Deep.DrawnRows
namespace Go.Proofs.Ytajaojcechoniaa
open Go.ChangeShapes Go.WideShapes Go.ChangeAt Go.RowKit Go.Deep
attribute [local go_sem ↓] Go.wp_at_zero Go.wp_at_succ

/-- A box: four slices. -/
def bx (A : Nat → Option Addr) (N C : Nat → Nat) : Value := .agg #[.slice (A 0) (N 0) (C 0), .slice (A 1) (N 1) (C 1), .slice (A 2) (N 2) (C 2), .slice (A 3) (N 3) (C 3)]
/-- A slice that has these numbers, none of it below a bound. -/
def Fl (w : World) (lo : Nat) (a : Option Addr) (n c : Nat) (l : List Int) : Prop := Nums w a n l ∧ (a = Option.none → c = 0) ∧ (∀ ad, a = some ad → lo ≤ ad.block) ∧ n ≤ c
def BoxIs (w : World) (lo : Nat) (A : Nat → Option Addr) (N C : Nat → Nat) (L : Nat → List Int) : Prop := ∀ j, j < 4 → Fl w lo (A j) (N j) (C j) (L j)
def upd {T : Type} (f : Nat → T) (j : Nat) (v : T) : Nat → T := fun k => if k = j then v else f k
/-- What is told behind all, unless it is the last one already; of more than five the eldest is no more. -/
def addL (l : List Int) (x : Int) : List Int := if l.getLast? = some x then l else l.drop (l.length - 4) ++ [x]

theorem OwnI.fl {w : World} {base : Nat} {v : Value} {l : List Int} (h : OwnI w base v l) : ∃ a n c, v = .slice a n c ∧ Fl w base a n c l := by
  obtain ⟨a, n, c, rfl, hn⟩ := h.form
  refine ⟨a, n, c, rfl, hn, ?_, ?_, ?_⟩
  · rintro rfl
    rcases h.2 with ⟨e, _⟩ | ⟨g, cap, cur, e, _⟩
    · simp at e; exact e.2
    · simp at e
  · rintro ad rfl
    exact h.block ad.block (by simp [Value.ownBlock])
  · rcases h.2 with ⟨e, _⟩ | ⟨g, cap, cur, e, _, _, hc, _⟩
    · simp at e; omega
    · simp at e; have := hn.1; omega
theorem Fl.later {w w' : World} {lo : Nat} {a : Option Addr} {n c : Nat} {l : List Int} (h : Fl w lo a n c l) (hb : Below w.heap.size w w') : Fl w' lo a n c l := ⟨h.1.later hb, h.2⟩
theorem Fl.mono {w : World} {lo lo' : Nat} {a : Option Addr} {n c : Nat} {l : List Int} (h : Fl w lo a n c l) (hl : lo' ≤ lo) : Fl w lo' a n c l := ⟨h.1, h.2.1, fun ad e => Nat.le_trans hl (h.2.2.1 ad e), h.2.2.2⟩
theorem BoxIs.later {w w' : World} {lo : Nat} {A : Nat → Option Addr} {N C : Nat → Nat} {L : Nat → List Int} (h : BoxIs w lo A N C L) (hb : Below w.heap.size w w') : BoxIs w' lo A N C L := fun j hj => (h j hj).later hb
theorem BoxIs.upd {w w' : World} {lo : Nat} {A : Nat → Option Addr} {N C : Nat → Nat} {L : Nat → List Int} {j : Nat} {a : Option Addr} {n c : Nat} {l : List Int} (h : BoxIs w lo A N C L) (hb : Below w.heap.size w w') (hf : Fl w' lo a n c l) : BoxIs w' lo (upd A j a) (upd N j n) (upd C j c) (upd L j l) := by
  intro k hk
  unfold Go.Proofs.Ytajaojcechoniaa.upd
  by_cases e : k = j
  · simp only [if_pos e]; exact hf
  · simp only [if_neg e]; exact (h k hk).later hb
/-- Each slice is the one that was, or in new memory. -/
def Fresh (z : Nat) (A : Nat → Option Addr) (N : Nat → Nat) (A' : Nat → Option Addr) (N' : Nat → Nat) : Prop := ∀ i, (A' i = A i ∧ N' i = N i) ∨ ∀ ad, A' i = some ad → z ≤ ad.block
theorem fresh_upd {z : Nat} {A : Nat → Option Addr} {N : Nat → Nat} {j : Nat} {a : Option Addr} {n : Nat} (h : ∀ ad, a = some ad → z ≤ ad.block) : Fresh z A N (upd A j a) (upd N j n) := by
  intro i
  unfold upd
  split
  · exact .inr h
  · exact .inl ⟨rfl, rfl⟩
theorem fresh_same {z : Nat} {A : Nat → Option Addr} {N : Nat → Nat} {j : Nat} {a : Option Addr} {n : Nat} (h : A j = a) (h' : N j = n) : Fresh z A N (upd A j a) (upd N j n) := by
  intro i
  unfold upd
  split
  · left; subst_vars; exact ⟨rfl, rfl⟩
  · exact .inl ⟨rfl, rfl⟩
/-- A part of a row. -/
theorem Nums.drop {w : World} {b off n : Nat} {l : List Int} (h : Nums w (some ⟨b, off, Option.none⟩) n l) (k : Nat) (hk : k ≤ n) : Nums w (some ⟨b, off + k, Option.none⟩) (n - k) (l.drop k) := by
  refine ⟨by simp [h.1], by have := h.2.1; omega, fun hn => ⟨b, off + k, rfl, fun i hi => ?_⟩⟩
  obtain ⟨b', off', e, hc⟩ := h.2.2 (by omega)
  simp only [Option.some.injEq, Addr.mk.injEq, and_true] at e
  obtain ⟨rfl, rfl⟩ := e
  have hi' : k + i < l.length := by simp at hi; omega
  have := hc (k + i) hi'
  rw [List.getElem_drop, ← this, Nat.add_assoc]

theorem upd_same {T : Type} (f : Nat → T) (j : Nat) : upd f j (f j) = f := by
  funext k
  unfold upd
  split
  · subst_vars; rfl
  · rfl
/-- Three blocks, one behind the other: a box, what is told, and the box that is handed back. -/
def Trio (X : World) (N : Nat) (v0 v1 v2 v3 : Value) (who what : Int) : Prop :=
  X.heap[N]? = some (.cells #[v0, v1, v2, v3] 27 (0, 0)) ∧ X.heap[N + 1]? = some (.cells #[.int .i64 who, .int .i64 what] 31 (0, 0)) ∧ X.heap[N + 1 + 1]? = some (.cells #[.slice Option.none 0 0, .slice Option.none 0 0, .slice Option.none 0 0, .slice Option.none 0 0] 27 (0, 0))
/-- The world behind them. -/
def trioW (w : World) (v0 v1 v2 v3 : Value) (who what : Int) : World := ((w.alloc (.cells #[v0, v1, v2, v3] 27)).alloc (.cells #[.int .i64 who, .int .i64 what] 31)).alloc (.cells #[.slice Option.none 0 0, .slice Option.none 0 0, .slice Option.none 0 0, .slice Option.none 0 0] 27)
theorem Trio.start (w : World) (v0 v1 v2 v3 : Value) (who what : Int) : Trio (trioW w v0 v1 v2 v3 who what) w.heap.size v0 v1 v2 v3 who what := by
  unfold trioW
  refine ⟨?_, ?_, ?_⟩
  · rw [Below.heap_alloc _ _ _ (by simp; omega), Below.heap_alloc _ _ _ (by simp)]; exact heap_alloc_new w _
  · rw [Below.heap_alloc _ _ _ (by simp)]; simpa using heap_alloc_new (w.alloc (.cells #[v0, v1, v2, v3] 27)) (.cells #[.int .i64 who, .int .i64 what] 31)
  · simpa using heap_alloc_new ((w.alloc (.cells #[v0, v1, v2, v3] 27)).alloc (.cells #[.int .i64 who, .int .i64 what] 31)) (.cells #[.slice Option.none 0 0, .slice Option.none 0 0, .slice Option.none 0 0, .slice Option.none 0 0] 27)
theorem Trio.below (w : World) (v0 v1 v2 v3 : Value) (who what : Int) : Below w.heap.size w (trioW w v0 v1 v2 v3 who what) ∧ (trioW w v0 v1 v2 v3 who what).heap.size = w.heap.size + 3 :=
  ⟨(((Below.refl _ _).alloc (Nat.le_refl _) _).alloc (by simp) _).alloc (by simp; omega) _, by simp [trioW]⟩
theorem Trio.later {X X' : World} {N B : Nat} {v0 v1 v2 v3 : Value} {who what : Int} (h : Trio X N v0 v1 v2 v3 who what) (hb : Below B X X') (hB : N + 3 ≤ B) : Trio X' N v0 v1 v2 v3 who what := by
  obtain ⟨h1, h2, h3⟩ := h
  exact ⟨by rw [hb.block _ (by omega)]; exact h1, by rw [hb.block _ (by omega)]; exact h2, by rw [hb.block _ (by omega)]; exact h3⟩
theorem Trio.cells {X : World} {N : Nat} {v0 v1 v2 v3 : Value} {who what : Int} (h : Trio X N v0 v1 v2 v3 who what) :
    (X.cell? ⟨N, 0, Option.none⟩ = some v0 ∧ X.cell? ⟨N, 1, Option.none⟩ = some v1 ∧ X.cell? ⟨N, 2, Option.none⟩ = some v2 ∧ X.cell? ⟨N, 3, Option.none⟩ = some v3) ∧
    (X.cell? ⟨N + 1, 0, Option.none⟩ = some (.int .i64 who) ∧ X.cell? ⟨N + 1, 1, Option.none⟩ = some (.int .i64 what)) ∧
    (X.cell? ⟨N + 1 + 1, 0, Option.none⟩ = some (.slice Option.none 0 0) ∧ X.cell? ⟨N + 1 + 1, 1, Option.none⟩ = some (.slice Option.none 0 0) ∧ X.cell? ⟨N + 1 + 1, 2, Option.none⟩ = some (.slice Option.none 0 0) ∧ X.cell? ⟨N + 1 + 1, 3, Option.none⟩ = some (.slice Option.none 0 0)) ∧
    (X.frozen? ⟨N, 0, Option.none⟩ = false ∧ X.frozen? ⟨N, 1, Option.none⟩ = false ∧ X.frozen? ⟨N, 2, Option.none⟩ = false ∧ X.frozen? ⟨N, 3, Option.none⟩ = false) ∧
    (X.frozen? ⟨N + 1 + 1, 0, Option.none⟩ = false ∧ X.frozen? ⟨N + 1 + 1, 1, Option.none⟩ = false ∧ X.frozen? ⟨N + 1 + 1, 2, Option.none⟩ = false ∧ X.frozen? ⟨N + 1 + 1, 3, Option.none⟩ = false) := by
  obtain ⟨h1, h2, h3⟩ := h
  simp [World.cell?, World.frozen?, h1, h2, h3]

theorem Fl.set {w : World} {lo : Nat} {a : Option Addr} {n c : Nat} {l : List Int} (h : Fl w lo a n c l) (p : Addr) (hp : p.block < lo) (u : Value) : Fl (w.setCell p u) lo a n c l := by
  refine ⟨⟨h.1.1, h.1.2.1, fun hn => ?_⟩, h.2⟩
  obtain ⟨b, off, rfl, hc⟩ := h.1.2.2 hn
  have hb : lo ≤ b := h.2.2.1 _ rfl
  have hne : b ≠ p.block := by omega
  refine ⟨b, off, rfl, fun i hi => ?_⟩
  rw [World.cell?_of_block (w := w) (Below.heap_setCell _ _ _ _ hne)]
  exact hc i hi
/-- What is left: a box with another row, handed back. -/
def TZ (X : World) (N M J : Nat) (u v0 v1 v2 v3 : Value) : World :=
  ((((X.setCell ⟨N, J, Option.none⟩ u).setCell ⟨M, 0, Option.none⟩ v0).setCell ⟨M, 1, Option.none⟩ v1).setCell ⟨M, 2, Option.none⟩ v2).setCell ⟨M, 3, Option.none⟩ v3
theorem TZ.cells {X : World} {N M J : Nat} {u0 u1 u2 u3 u v0 v1 v2 v3 : Value} {T : TypeId} (h : X.heap[M]? = some (.cells #[u0, u1, u2, u3] T (0, 0))) (hne : M ≠ N) : ∃ Z, Z = TZ X N M J u v0 v1 v2 v3 ∧
    Z.cell? ⟨M, 0, Option.none⟩ = some v0 ∧ Z.cell? ⟨M, 1, Option.none⟩ = some v1 ∧ Z.cell? ⟨M, 2, Option.none⟩ = some v2 ∧ Z.cell? ⟨M, 3, Option.none⟩ = some v3 := by
  have h' : (X.setCell ⟨N, J, Option.none⟩ u).heap[M]? = some (.cells #[u0, u1, u2, u3] T (0, 0)) := by rw [Below.heap_setCell _ _ _ _ hne]; exact h
  have h0 := heap_setCell_same _ M 0 _ T v0 h'
  have h1 := heap_setCell_same _ M 1 _ T v1 h0
  have h2 := heap_setCell_same _ M 2 _ T v2 h1
  have h3 := heap_setCell_same _ M 3 _ T v3 h2
  refine ⟨_, rfl, ?_, ?_, ?_, ?_⟩ <;> (unfold TZ; simp only [World.cell?, h3]; simp)
theorem TZ.fl {X : World} {N M J lo : Nat} {u v0 v1 v2 v3 : Value} {a : Option Addr} {n c : Nat} {l : List Int} (h : Fl X lo a n c l) (hN : N < lo) (hM : M < lo) : Fl (TZ X N M J u v0 v1 v2 v3) lo a n c l :=
  ((((h.set _ hN _).set _ hM _).set _ hM _).set _ hM _).set _ hM _
theorem TZ.below {w X : World} {N M J B : Nat} {u v0 v1 v2 v3 : Value} (h : Below B w X) (hN : B ≤ N) (hM : B ≤ M) : Below B w (TZ X N M J u v0 v1 v2 v3) :=
  ((((h.setCell (by exact hN) _).setCell (by exact hM) _).setCell (by exact hM) _).setCell (by exact hM) _).setCell (by exact hM) _
/-- The same, where the box was not changed. -/
def TK (X : World) (M : Nat) (v0 v1 v2 v3 : Value) : World :=
  (((X.setCell ⟨M, 0, Option.none⟩ v0).setCell ⟨M, 1, Option.none⟩ v1).setCell ⟨M, 2, Option.none⟩ v2).setCell ⟨M, 3, Option.none⟩ v3
theorem TK.cells {X : World} {M : Nat} {u0 u1 u2 u3 v0 v1 v2 v3 : Value} {T : TypeId} (h : X.heap[M]? = some (.cells #[u0, u1, u2, u3] T (0, 0))) : ∃ Z, Z = TK X M v0 v1 v2 v3 ∧
    Z.cell? ⟨M, 0, Option.none⟩ = some v0 ∧ Z.cell? ⟨M, 1, Option.none⟩ = some v1 ∧ Z.cell? ⟨M, 2, Option.none⟩ = some v2 ∧ Z.cell? ⟨M, 3, Option.none⟩ = some v3 := by
  have h0 := heap_setCell_same _ M 0 _ T v0 h
  have h1 := heap_setCell_same _ M 1 _ T v1 h0
  have h2 := heap_setCell_same _ M 2 _ T v2 h1
  have h3 := heap_setCell_same _ M 3 _ T v3 h2
  refine ⟨_, rfl, ?_, ?_, ?_, ?_⟩ <;> (unfold TK; simp only [World.cell?, h3]; simp)
theorem TK.below {w X : World} {M B : Nat} {v0 v1 v2 v3 : Value} (h : Below B w X) (hM : B ≤ M) : Below B w (TK X M v0 v1 v2 v3) :=
  (((h.setCell (by exact hM) _).setCell (by exact hM) _).setCell (by exact hM) _).setCell (by exact hM) _

/-- What is told, joined behind what there is. -/
theorem concat_here (X : World) (z q : Nat) (hz : X.heap.size = z) (what : Int) (a5 : Option Addr) (n5 c5 : Nat) (l5 : List Int) (H5 : Nums X a5 n5 l5) (H6 : a5 = Option.none → c5 = 0) (hn : n5 ≤ 1000) :
    Calls Try.prog 15 #[.slice (some ⟨z + 1, 0, Option.none⟩) 2 2] (((X.drewN q).alloc (.cells #[.int .i64 what] 3)).alloc (.cells #[.slice a5 n5 c5, .slice (some ⟨z, 0, Option.none⟩) 1 1] 24)) fun e w' =>
      ∃ a n c, e = .returned (.slice a n c) ∧ Fl w' z a n c (l5 ++ [what]) ∧ Below z X w' := by
  subst hz
  have bX : Below X.heap.size X (((X.drewN q).alloc (.cells #[.int .i64 what] 3)).alloc (.cells #[.slice a5 n5 c5, .slice (some ⟨X.heap.size, 0, Option.none⟩) 1 1] 24)) :=
    ((below_drewN (Below.refl _ _) q).alloc (by simp) _).alloc (by simp) _
  have h0 : (((X.drewN q).alloc (.cells #[.int .i64 what] 3)).alloc (.cells #[.slice a5 n5 c5, .slice (some ⟨X.heap.size, 0, Option.none⟩) 1 1] 24)).heap[X.heap.size]? = some (.cells #[.int .i64 what] 3 (0, 0)) := by
    rw [Below.heap_alloc _ _ _ (by simp)]; simpa using heap_alloc_new (X.drewN q) (.cells #[.int .i64 what] 3)
  have h1 : (((X.drewN q).alloc (.cells #[.int .i64 what] 3)).alloc (.cells #[.slice a5 n5 c5, .slice (some ⟨X.heap.size, 0, Option.none⟩) 1 1] 24)).heap[X.heap.size + 1]? = some (.cells #[.slice a5 n5 c5, .slice (some ⟨X.heap.size, 0, Option.none⟩) 1 1] 24 (0, 0)) := by
    simpa using heap_alloc_new ((X.drewN q).alloc (.cells #[.int .i64 what] 3)) (.cells #[.slice a5 n5 c5, .slice (some ⟨X.heap.size, 0, Option.none⟩) 1 1] 24)
  generalize (((X.drewN q).alloc (.cells #[.int .i64 what] 3)).alloc (.cells #[.slice a5 n5 c5, .slice (some ⟨X.heap.size, 0, Option.none⟩) 1 1] 24)) = Y at *
  refine (concat_two (X.heap.size + 1) 2 a5 (some ⟨X.heap.size, 0, Option.none⟩) n5 c5 1 1 l5 [what] Y (by simp [World.cell?, h1]) (by simp [World.cell?, h1]) (H5.later bX)
    ⟨rfl, by decide, fun _ => ⟨X.heap.size, 0, rfl, fun i hi => by
      have : i = 0 := by simp at hi; omega
      subst this
      simp [World.cell?, h0]⟩⟩ H6 (fun h => by cases h) hn (by decide) (by decide)).mono ?_
  rintro e w' ⟨v, rfl, ho, hb⟩
  obtain ⟨a, n, c, rfl, hf⟩ := ho.fl
  exact ⟨a, n, c, rfl, hf.mono bX.size, bX.trans (hb.mono bX.size)⟩
end Go.Proofs.Ytajaojcechoniaa
