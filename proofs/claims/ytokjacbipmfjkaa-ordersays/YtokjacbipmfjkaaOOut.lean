/- What an order comes to, as plain data. No statement of the seat is proved here. -/
import Derived.Test.YtokjacbipmfjkaaOHeldBy
namespace Go.Proofs.Ytokjacbipmfjkaa
open Go.ChangeShapes Go.WideShapes Go.ChangeAt Go.RowKit Go.Deep

/-- The state, what is told, what is wrong (0: nothing). -/
structure Out where
  g : Int
  l : List (Int × Int)
  t : Int
  h : Int
  y : Bool
  tl : List (Int × Int)
  f : Int
/-- Nothing is done. -/
def refused (f : Int) : Out := ⟨0, [], 0, 0, false, [], f⟩
/-- A slice that does not lie in that block. -/
def Off (K : Nat) (a : Option Addr) (n : Nat) : Prop := n ≠ 0 → ∀ ad, a = some ad → ad.block ≠ K
/-- A slice that lies in new memory, or where another one does. -/
def NewOr (B : Nat) (a0 : Option Addr) (n0 : Nat) (a : Option Addr) (n : Nat) : Prop := ∀ b, b < B → Off b a0 n0 → Off b a n
theorem newOr_nil {B : Nat} {a0 : Option Addr} {n0 : Nat} {a : Option Addr} : NewOr B a0 n0 a 0 := fun _ _ _ h => absurd rfl h
theorem newOr_same {B : Nat} {a0 : Option Addr} {n0 : Nat} : NewOr B a0 n0 a0 n0 := fun _ _ h => h
theorem newOr_far {B : Nat} {a0 : Option Addr} {n0 z : Nat} {a : Option Addr} {n : Nat} (h : Far z a) (hz : B ≤ z) : NewOr B a0 n0 a n := fun b hb _ _ ad e => by have := h ad e; omega
/-- It is handed back so. -/
def OutIs (o : Out) (B : Nat) (a0 : Option Addr) (n0 : Nat) (e : Ending) (w' : World) : Prop := ∃ a n c a' n' c', e = .returned (.tuple #[stV o.g a n c o.t o.h o.y, .slice a' n' c', errV o.f]) ∧ Row w' a n o.l ∧ Row w' a' n' o.tl ∧ NewOr B a0 n0 a n ∧ NewOr B a0 n0 a' n'
theorem errV_4 : errV 4 = .iface 57 (.int .i64 4) := rfl
theorem errV_5 : errV 5 = .iface 57 (.int .i64 5) := rfl

theorem dr_cell (W : World) (a : Addr) : W.drew.cell? a = W.cell? a := rfl
theorem keepS {w2 a b : World} {N : Nat} {v0 v1 v2 v3 v4 u : Value} (hb : Below a.heap.size a b)
    (h : a.cell? ⟨N, 0, Option.none⟩ = some v0 ∧ a.cell? ⟨N, 1, Option.none⟩ = some v1 ∧ a.cell? ⟨N, 2, Option.none⟩ = some v2 ∧ a.cell? ⟨N, 3, Option.none⟩ = some v3 ∧ a.cell? ⟨N, 4, Option.none⟩ = some v4 ∧ a.cell? ⟨N + 1, 1, Option.none⟩ = some u ∧ Below (N + 2) w2 a ∧ N + 3 ≤ a.heap.size) :
    b.cell? ⟨N, 0, Option.none⟩ = some v0 ∧ b.cell? ⟨N, 1, Option.none⟩ = some v1 ∧ b.cell? ⟨N, 2, Option.none⟩ = some v2 ∧ b.cell? ⟨N, 3, Option.none⟩ = some v3 ∧ b.cell? ⟨N, 4, Option.none⟩ = some v4 ∧ b.cell? ⟨N + 1, 1, Option.none⟩ = some u ∧ Below (N + 2) w2 b ∧ N + 3 ≤ b.heap.size := by
  obtain ⟨h0, h1, h2, h3, h4, h5, h6, h7⟩ := h
  exact ⟨cell_later hb h0, cell_later hb h1, cell_later hb h2, cell_later hb h3, cell_later hb h4, cell_later hb h5, h6.trans (hb.mono (by omega)), Nat.le_trans h7 hb.size⟩
theorem keepZ {w2 a : World} {N : Nat} {v0 v1 v2 v3 v4 u x0 x1 x2 x3 x4 : Value}
    (h : a.cell? ⟨N, 0, Option.none⟩ = some v0 ∧ a.cell? ⟨N, 1, Option.none⟩ = some v1 ∧ a.cell? ⟨N, 2, Option.none⟩ = some v2 ∧ a.cell? ⟨N, 3, Option.none⟩ = some v3 ∧ a.cell? ⟨N, 4, Option.none⟩ = some v4 ∧ a.cell? ⟨N + 1, 1, Option.none⟩ = some u ∧ Below (N + 2) w2 a ∧ N + 3 ≤ a.heap.size) :
    (((((a.setCell ⟨N + 1 + 1, 0, Option.none⟩ x0).setCell ⟨N + 1 + 1, 1, Option.none⟩ x1).setCell ⟨N + 1 + 1, 2, Option.none⟩ x2).setCell ⟨N + 1 + 1, 3, Option.none⟩ x3).setCell ⟨N + 1 + 1, 4, Option.none⟩ x4).cell? ⟨N, 0, Option.none⟩ = some v0 ∧ (((((a.setCell ⟨N + 1 + 1, 0, Option.none⟩ x0).setCell ⟨N + 1 + 1, 1, Option.none⟩ x1).setCell ⟨N + 1 + 1, 2, Option.none⟩ x2).setCell ⟨N + 1 + 1, 3, Option.none⟩ x3).setCell ⟨N + 1 + 1, 4, Option.none⟩ x4).cell? ⟨N, 1, Option.none⟩ = some v1 ∧ (((((a.setCell ⟨N + 1 + 1, 0, Option.none⟩ x0).setCell ⟨N + 1 + 1, 1, Option.none⟩ x1).setCell ⟨N + 1 + 1, 2, Option.none⟩ x2).setCell ⟨N + 1 + 1, 3, Option.none⟩ x3).setCell ⟨N + 1 + 1, 4, Option.none⟩ x4).cell? ⟨N, 2, Option.none⟩ = some v2 ∧ (((((a.setCell ⟨N + 1 + 1, 0, Option.none⟩ x0).setCell ⟨N + 1 + 1, 1, Option.none⟩ x1).setCell ⟨N + 1 + 1, 2, Option.none⟩ x2).setCell ⟨N + 1 + 1, 3, Option.none⟩ x3).setCell ⟨N + 1 + 1, 4, Option.none⟩ x4).cell? ⟨N, 3, Option.none⟩ = some v3 ∧ (((((a.setCell ⟨N + 1 + 1, 0, Option.none⟩ x0).setCell ⟨N + 1 + 1, 1, Option.none⟩ x1).setCell ⟨N + 1 + 1, 2, Option.none⟩ x2).setCell ⟨N + 1 + 1, 3, Option.none⟩ x3).setCell ⟨N + 1 + 1, 4, Option.none⟩ x4).cell? ⟨N, 4, Option.none⟩ = some v4 ∧ (((((a.setCell ⟨N + 1 + 1, 0, Option.none⟩ x0).setCell ⟨N + 1 + 1, 1, Option.none⟩ x1).setCell ⟨N + 1 + 1, 2, Option.none⟩ x2).setCell ⟨N + 1 + 1, 3, Option.none⟩ x3).setCell ⟨N + 1 + 1, 4, Option.none⟩ x4).cell? ⟨N + 1, 1, Option.none⟩ = some u ∧ Below (N + 2) w2 (((((a.setCell ⟨N + 1 + 1, 0, Option.none⟩ x0).setCell ⟨N + 1 + 1, 1, Option.none⟩ x1).setCell ⟨N + 1 + 1, 2, Option.none⟩ x2).setCell ⟨N + 1 + 1, 3, Option.none⟩ x3).setCell ⟨N + 1 + 1, 4, Option.none⟩ x4) ∧ N + 3 ≤ (((((a.setCell ⟨N + 1 + 1, 0, Option.none⟩ x0).setCell ⟨N + 1 + 1, 1, Option.none⟩ x1).setCell ⟨N + 1 + 1, 2, Option.none⟩ x2).setCell ⟨N + 1 + 1, 3, Option.none⟩ x3).setCell ⟨N + 1 + 1, 4, Option.none⟩ x4).heap.size := by
  obtain ⟨h0, h1, h2, h3, h4, h5, h6, h7⟩ := h
  have hb : Below (N + 2) a (Z5 a (N + 1 + 1) x0 x1 x2 x3 x4) := Z5.below (Below.refl _ _) (by omega)
  exact ⟨(hb.cell (p := ⟨N, 0, Option.none⟩) (by show N < N + 2; omega)).trans h0, (hb.cell (p := ⟨N, 1, Option.none⟩) (by show N < N + 2; omega)).trans h1, (hb.cell (p := ⟨N, 2, Option.none⟩) (by show N < N + 2; omega)).trans h2, (hb.cell (p := ⟨N, 3, Option.none⟩) (by show N < N + 2; omega)).trans h3, (hb.cell (p := ⟨N, 4, Option.none⟩) (by show N < N + 2; omega)).trans h4, (hb.cell (p := ⟨N + 1, 1, Option.none⟩) (by show N + 1 < N + 2; omega)).trans h5, h6.trans hb, Nat.le_trans h7 hb.size⟩
theorem startS {a : World} {N : Nat} {v0 v1 v2 v3 v4 u : Value}
    (h : a.cell? ⟨N, 0, Option.none⟩ = some v0 ∧ a.cell? ⟨N, 1, Option.none⟩ = some v1 ∧ a.cell? ⟨N, 2, Option.none⟩ = some v2 ∧ a.cell? ⟨N, 3, Option.none⟩ = some v3 ∧ a.cell? ⟨N, 4, Option.none⟩ = some v4 ∧ a.cell? ⟨N + 1, 1, Option.none⟩ = some u ∧ N + 3 ≤ a.heap.size) :
    a.drew.cell? ⟨N, 0, Option.none⟩ = some v0 ∧ a.drew.cell? ⟨N, 1, Option.none⟩ = some v1 ∧ a.drew.cell? ⟨N, 2, Option.none⟩ = some v2 ∧ a.drew.cell? ⟨N, 3, Option.none⟩ = some v3 ∧ a.drew.cell? ⟨N, 4, Option.none⟩ = some v4 ∧ a.drew.cell? ⟨N + 1, 1, Option.none⟩ = some u ∧ Below (N + 2) a a.drew ∧ N + 3 ≤ a.drew.heap.size := by
  obtain ⟨h0, h1, h2, h3, h4, h5, h6⟩ := h
  exact ⟨h0, h1, h2, h3, h4, h5, (Below.refl _ _).drew, h6⟩
theorem rowS {w w2 b : World} {ar : Option Addr} {n : Nat} {l : List (Int × Int)} {v0 v1 v2 v3 v4 u : Value} (hr : Row w ar n l) (bw : Below w.heap.size w w2)
    (h : b.cell? ⟨w.heap.size, 0, Option.none⟩ = some v0 ∧ b.cell? ⟨w.heap.size, 1, Option.none⟩ = some v1 ∧ b.cell? ⟨w.heap.size, 2, Option.none⟩ = some v2 ∧ b.cell? ⟨w.heap.size, 3, Option.none⟩ = some v3 ∧ b.cell? ⟨w.heap.size, 4, Option.none⟩ = some v4 ∧ b.cell? ⟨w.heap.size + 1, 1, Option.none⟩ = some u ∧ Below (w.heap.size + 2) w2 b ∧ w.heap.size + 3 ≤ b.heap.size) : Row b ar n l :=
  hr.later (bw.trans (h.2.2.2.2.2.2.1.mono (by omega)))
theorem StB.dl {X X' : World} {N : Nat} {g : Int} {a : Option Addr} {n c : Nat} {t h : Int} {y : Bool} (hb : StB X N g a n c t h y) (b : Below X.drew.heap.size X.drew X') : StB X' N g a n c t h y :=
  hb.later ((Below.refl X.heap.size X).drew.trans b) (Array.getElem?_eq_some_iff.1 hb).1
theorem StB.nl {X X' : World} {N : Nat} {g : Int} {a : Option Addr} {n c : Nat} {t h : Int} {y : Bool} (hb : StB X N g a n c t h y) (b : Below X.heap.size X X') : StB X' N g a n c t h y :=
  hb.later b (Array.getElem?_eq_some_iff.1 hb).1
theorem nums_le {w : World} {a : Option Addr} {n : Nat} {l : List Int} (h : Nums w a n l) (hl : l.length ≤ 1000) : n ≤ 1000000 := by have := h.1; omega
theorem set_other (X : World) (M j : Nat) (u : Value) (b : Nat) (hne : b ≠ M) : (X.setCell ⟨M, j, Option.none⟩ u).heap[b]? = X.heap[b]? := Below.heap_setCell _ _ _ _ hne
theorem Row.z5 {X : World} {a : Option Addr} {n z M : Nat} {l : List (Int × Int)} {v0 v1 v2 v3 v4 : Value} (h : Row X a n l) (hf : Far z a) (hM : M < z) : Row (Z5 X M v0 v1 v2 v3 v4) a n l := by
  refine ⟨h.1, h.2.1, fun hn => ?_⟩
  obtain ⟨b, off, rfl, hc⟩ := h.2.2 hn
  have hz : z ≤ b := hf _ rfl
  have hne : b ≠ M := by omega
  have hb : (Z5 X M v0 v1 v2 v3 v4).heap[b]? = X.heap[b]? := by
    unfold Z5
    rw [set_other _ M 4 _ b hne, set_other _ M 3 _ b hne, set_other _ M 2 _ b hne, set_other _ M 1 _ b hne, set_other _ M 0 _ b hne]
  refine ⟨b, off, rfl, fun i hi => ?_⟩
  exact ⟨(World.cell?_of_block (a := ⟨b, off + i * 2, Option.none⟩) hb).trans (hc i hi).1, (World.cell?_of_block (a := ⟨b, off + i * 2 + 1, Option.none⟩) hb).trans (hc i hi).2⟩
theorem Far.mono {z z' : Nat} {a : Option Addr} (h : Far z a) (hz : z' ≤ z) : Far z' a := fun ad e => Nat.le_trans hz (h ad e)
theorem StB.lt {X : World} {N : Nat} {g : Int} {a : Option Addr} {n c : Nat} {t h : Int} {y : Bool} (hb : StB X N g a n c t h y) : N < X.heap.size := (Array.getElem?_eq_some_iff.1 hb).1
theorem belowS {w2 b : World} {N : Nat} {v0 v1 v2 v3 v4 u : Value}
    (h : b.cell? ⟨N, 0, Option.none⟩ = some v0 ∧ b.cell? ⟨N, 1, Option.none⟩ = some v1 ∧ b.cell? ⟨N, 2, Option.none⟩ = some v2 ∧ b.cell? ⟨N, 3, Option.none⟩ = some v3 ∧ b.cell? ⟨N, 4, Option.none⟩ = some v4 ∧ b.cell? ⟨N + 1, 1, Option.none⟩ = some u ∧ Below (N + 2) w2 b ∧ N + 3 ≤ b.heap.size) : Below (N + 2) w2 b := h.2.2.2.2.2.2.1
theorem heldS {p0 p1 p2 p3 p4 q b r : Prop} (h : p0 ∧ p1 ∧ p2 ∧ p3 ∧ p4 ∧ q ∧ b ∧ r) : b := h.2.2.2.2.2.2.1

/-- D3. -/
def reserveF (g t h : Int) (y : Bool) (l : List (Int × Int)) (who key kind : Int) : Out :=
  if provenB l who key = false then refused 4
  else if t = 0 then ⟨g, l, kind, heldH kind who, y, [], 0⟩
  else if holdsB t h l who = false ∨ t ≠ kind then refused 4
  else ⟨g, l, t, h, y, [], 0⟩
def releaseF (g t h : Int) (y : Bool) (l : List (Int × Int)) (who key kind : Int) : Out :=
  if provenB l who key = false then refused 4
  else if holdsB t h l who = false then ⟨g, l, t, h, y, [], 0⟩
  else if t ≠ kind then refused 5
  else if t = 1 ∨ t = 3 then ⟨g, l, 0, 0, y, [], 0⟩
  else ⟨g, l, 0, 0, y, tellL (othersL l who) 2, 0⟩
def clearF (g : Int) (y : Bool) (l : List (Int × Int)) (who key : Int) : Out :=
  if provenB l who key = false then refused 4
  else ⟨cnt g, [], 0, 0, y, tellL (othersL l who) 3, 0⟩
end Go.Proofs.Ytokjacbipmfjkaa
