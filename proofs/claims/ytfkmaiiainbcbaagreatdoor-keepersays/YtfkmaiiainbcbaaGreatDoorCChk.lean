/- What code.Check answers, for every command. -/
import Derived.Test.YtfkmaiiainbcbaaGreatDoorCCheck
import Derived.Deep.RegionHeld3
namespace Go.Proofs.YtfkmaiiainbcbaaGreatDoor.K
open Go.ChangeShapes Go.WideShapes Go.ChangeAt Go.RowKit Go.Maps

/-- Which parts a command has. -/
def hasKey (op : Int) : Bool := op == 1 || op == 2 || op == 3 || op == 4 || op == 5 || op == 6
def hasNew (op : Int) : Bool := op == 1 || op == 2 || op == 6
def hasHeld (op : Int) : Bool := op == 3 || op == 4 || op == 6
def hasAt (op : Int) : Bool := op == 7 || op == 8 || op == 9
def hasStays (op : Int) : Bool := op == 1 || op == 2
def hasData (op : Int) : Bool := op == 8 || op == 9
def hasWant (op : Int) : Bool := op == 9
def strOf : Value → ByteArray
  | .string s => s
  | _ => ⟨#[]⟩
def wordOf (op : Int) : ByteArray := match kindV op with
  | .agg cs => strOf (cs.getD 0 undef)
  | _ => ⟨#[]⟩
theorem kindV_eq (op : Int) : kindV op = kindA (wordOf op) (hasKey op) (hasNew op) (hasHeld op) (hasAt op) (hasStays op) (hasData op) (hasWant op) := by
  by_cases h : 1 ≤ op ∧ op ≤ 9
  · have : op = 1 ∨ op = 2 ∨ op = 3 ∨ op = 4 ∨ op = 5 ∨ op = 6 ∨ op = 7 ∨ op = 8 ∨ op = 9 := by omega
    rcases this with rfl | rfl | rfl | rfl | rfl | rfl | rfl | rfl | rfl <;> rfl
  · have h0 : kindV op = kv0 := by unfold kindV; repeat rw [if_neg (by omega)]
    have e : ∀ k : Int, (1 ≤ k ∧ k ≤ 9) → (op == k) = false := fun k hk => by simp; omega
    unfold wordOf
    rw [h0]
    simp only [hasKey, hasNew, hasHeld, hasAt, hasStays, hasData, hasWant, e 1 (by decide), e 2 (by decide), e 3 (by decide), e 4 (by decide), e 5 (by decide), e 6 (by decide), e 7 (by decide), e 8 (by decide), e 9 (by decide)]
    rfl

theorem cell_later {w w' : World} (hb : Below w.heap.size w w') {p : Addr} {v : Value} (h : w.cell? p = some v) : w'.cell? p = some v := by
  have hp : p.block < w.heap.size := by
    unfold World.cell? at h
    cases hh : w.heap[p.block]? with
    | none => simp [hh] at h
    | some o => exact (Array.getElem?_eq_some_iff.1 hh).1
  rw [hb.cell hp]; exact h

theorem cell_alloc {w : World} {o : Obj} {p : Addr} {v : Value} (h : w.cell? p = some v) : (w.alloc o).cell? p = some v := cell_later ((Below.refl _ _).alloc (Nat.le_refl _) _) h

theorem frozen_later {w w' : World} {a : Addr} {v : Value} (hb : Below w.heap.size w w') (hc : w.cell? a = some v) (h : w.frozen? a = false) : w'.frozen? a = false := by
  rw [hb.frozen (World.block_lt_of_cell? _ _ hc)]; exact h
theorem block_later {w w' : World} {i : Nat} {o : Obj} (hb : Below w.heap.size w w') (h : w.heap[i]? = some o) : w'.heap[i]? = some o := by
  rw [hb.block i (Array.getElem?_eq_some_iff.1 h).1]; exact h

theorem second_block (w : World) (a b : Obj) : ((w.alloc a).alloc b).drew.heap[w.heap.size + 1]? = some b := by
  have := heap_alloc_new (w.alloc a) b
  rw [show (w.alloc a).heap.size = w.heap.size + 1 by simp] at this
  exact this
theorem first_block (w : World) (a b : Obj) : ((w.alloc a).alloc b).drew.heap[w.heap.size]? = some a := by
  have h := heap_alloc_new w a
  exact block_later (w := w.alloc a) (((Below.refl _ _).alloc (Nat.le_refl _) _).drew) h
theorem below_on (w : World) (a : Obj) {w1 : World} (h : Below (w.alloc a).drew.heap.size (w.alloc a).drew w1) : Below w.heap.size w w1 := by
  have h0 : Below w.heap.size w (w.alloc a).drew := ((Below.refl _ _).alloc (Nat.le_refl _) _).drew
  exact h0.trans (h.mono h0.size)
theorem below_on2 (w : World) (a b : Obj) {w1 : World} (h : Below ((w.alloc a).alloc b).drew.heap.size ((w.alloc a).alloc b).drew w1) : Below w.heap.size w w1 := by
  have h0 : Below w.heap.size w ((w.alloc a).alloc b).drew := (below2 w a b).drew
  exact h0.trans (h.mono h0.size)
def Z8 (X : World) (M : Nat) (v0 v1 v2 v3 v4 v5 v6 v7 : Value) : World :=
  (((((((X.setCell ⟨M, 0, Option.none⟩ v0).setCell ⟨M, 1, Option.none⟩ v1).setCell ⟨M, 2, Option.none⟩ v2).setCell ⟨M, 3, Option.none⟩ v3).setCell ⟨M, 4, Option.none⟩ v4).setCell ⟨M, 5, Option.none⟩ v5).setCell ⟨M, 6, Option.none⟩ v6).setCell ⟨M, 7, Option.none⟩ v7
theorem Z8.block {X : World} {M : Nat} {u0 u1 u2 u3 u4 u5 u6 u7 : Value} (v0 v1 v2 v3 v4 v5 v6 v7 : Value) {T : TypeId} (h : X.heap[M]? = some (.cells #[u0, u1, u2, u3, u4, u5, u6, u7] T (0, 0))) : (Z8 X M v0 v1 v2 v3 v4 v5 v6 v7).heap[M]? = some (.cells #[v0, v1, v2, v3, v4, v5, v6, v7] T (0, 0)) := by
  have h0 : (X.setCell ⟨M, 0, Option.none⟩ v0).heap[M]? = some (.cells #[v0, u1, u2, u3, u4, u5, u6, u7] T (0, 0)) := by simpa using heap_setCell_same _ M 0 _ T v0 h
  have h1 : ((X.setCell ⟨M, 0, Option.none⟩ v0).setCell ⟨M, 1, Option.none⟩ v1).heap[M]? = some (.cells #[v0, v1, u2, u3, u4, u5, u6, u7] T (0, 0)) := by simpa using heap_setCell_same _ M 1 _ T v1 h0
  have h2 : (((X.setCell ⟨M, 0, Option.none⟩ v0).setCell ⟨M, 1, Option.none⟩ v1).setCell ⟨M, 2, Option.none⟩ v2).heap[M]? = some (.cells #[v0, v1, v2, u3, u4, u5, u6, u7] T (0, 0)) := by simpa using heap_setCell_same _ M 2 _ T v2 h1
  have h3 : ((((X.setCell ⟨M, 0, Option.none⟩ v0).setCell ⟨M, 1, Option.none⟩ v1).setCell ⟨M, 2, Option.none⟩ v2).setCell ⟨M, 3, Option.none⟩ v3).heap[M]? = some (.cells #[v0, v1, v2, v3, u4, u5, u6, u7] T (0, 0)) := by simpa using heap_setCell_same _ M 3 _ T v3 h2
  have h4 : (((((X.setCell ⟨M, 0, Option.none⟩ v0).setCell ⟨M, 1, Option.none⟩ v1).setCell ⟨M, 2, Option.none⟩ v2).setCell ⟨M, 3, Option.none⟩ v3).setCell ⟨M, 4, Option.none⟩ v4).heap[M]? = some (.cells #[v0, v1, v2, v3, v4, u5, u6, u7] T (0, 0)) := by simpa using heap_setCell_same _ M 4 _ T v4 h3
  have h5 : ((((((X.setCell ⟨M, 0, Option.none⟩ v0).setCell ⟨M, 1, Option.none⟩ v1).setCell ⟨M, 2, Option.none⟩ v2).setCell ⟨M, 3, Option.none⟩ v3).setCell ⟨M, 4, Option.none⟩ v4).setCell ⟨M, 5, Option.none⟩ v5).heap[M]? = some (.cells #[v0, v1, v2, v3, v4, v5, u6, u7] T (0, 0)) := by simpa using heap_setCell_same _ M 5 _ T v5 h4
  have h6 : (((((((X.setCell ⟨M, 0, Option.none⟩ v0).setCell ⟨M, 1, Option.none⟩ v1).setCell ⟨M, 2, Option.none⟩ v2).setCell ⟨M, 3, Option.none⟩ v3).setCell ⟨M, 4, Option.none⟩ v4).setCell ⟨M, 5, Option.none⟩ v5).setCell ⟨M, 6, Option.none⟩ v6).heap[M]? = some (.cells #[v0, v1, v2, v3, v4, v5, v6, u7] T (0, 0)) := by simpa using heap_setCell_same _ M 6 _ T v6 h5
  have h7 : ((((((((X.setCell ⟨M, 0, Option.none⟩ v0).setCell ⟨M, 1, Option.none⟩ v1).setCell ⟨M, 2, Option.none⟩ v2).setCell ⟨M, 3, Option.none⟩ v3).setCell ⟨M, 4, Option.none⟩ v4).setCell ⟨M, 5, Option.none⟩ v5).setCell ⟨M, 6, Option.none⟩ v6).setCell ⟨M, 7, Option.none⟩ v7).heap[M]? = some (.cells #[v0, v1, v2, v3, v4, v5, v6, v7] T (0, 0)) := by simpa using heap_setCell_same _ M 7 _ T v7 h6
  exact h7
theorem Z8.other {X : World} {M i : Nat} (v0 v1 v2 v3 v4 v5 v6 v7 : Value) (hne : i ≠ M) : (Z8 X M v0 v1 v2 v3 v4 v5 v6 v7).heap[i]? = X.heap[i]? := by
  unfold Z8
  rw [Below.heap_setCell _ _ _ _ hne, Below.heap_setCell _ _ _ _ hne, Below.heap_setCell _ _ _ _ hne, Below.heap_setCell _ _ _ _ hne, Below.heap_setCell _ _ _ _ hne, Below.heap_setCell _ _ _ _ hne, Below.heap_setCell _ _ _ _ hne, Below.heap_setCell _ _ _ _ hne]
theorem Z8.below {w X : World} {M B : Nat} (v0 v1 v2 v3 v4 v5 v6 v7 : Value) (h : Below B w X) (hM : B ≤ M) : Below B w (Z8 X M v0 v1 v2 v3 v4 v5 v6 v7) :=
  (((((((h.setCell (by exact hM) _).setCell (by exact hM) _).setCell (by exact hM) _).setCell (by exact hM) _).setCell (by exact hM) _).setCell (by exact hM) _).setCell (by exact hM) _).setCell (by exact hM) _

/-- Eight cells in a block. -/
theorem cells8 {X : World} {M : Nat} {v0 v1 v2 v3 v4 v5 v6 v7 : Value} {T : TypeId} (h : X.heap[M]? = some (.cells #[v0, v1, v2, v3, v4, v5, v6, v7] T (0, 0))) :
    (X.cell? ⟨M, 0, Option.none⟩ = some v0 ∧ X.cell? ⟨M, 1, Option.none⟩ = some v1 ∧ X.cell? ⟨M, 2, Option.none⟩ = some v2 ∧ X.cell? ⟨M, 3, Option.none⟩ = some v3 ∧ X.cell? ⟨M, 4, Option.none⟩ = some v4 ∧ X.cell? ⟨M, 5, Option.none⟩ = some v5 ∧ X.cell? ⟨M, 6, Option.none⟩ = some v6 ∧ X.cell? ⟨M, 7, Option.none⟩ = some v7) ∧
    (X.frozen? ⟨M, 0, Option.none⟩ = false ∧ X.frozen? ⟨M, 1, Option.none⟩ = false ∧ X.frozen? ⟨M, 2, Option.none⟩ = false ∧ X.frozen? ⟨M, 3, Option.none⟩ = false ∧ X.frozen? ⟨M, 4, Option.none⟩ = false ∧ X.frozen? ⟨M, 5, Option.none⟩ = false ∧ X.frozen? ⟨M, 6, Option.none⟩ = false ∧ X.frozen? ⟨M, 7, Option.none⟩ = false) := by
  simp [World.cell?, World.frozen?, h]
theorem cells9 {X : World} {M : Nat} {v0 v1 v2 v3 v4 v5 v6 v7 v8 : Value} {T : TypeId} (h : X.heap[M]? = some (.cells #[v0, v1, v2, v3, v4, v5, v6, v7, v8] T (0, 0))) :
    (X.cell? ⟨M, 0, Option.none⟩ = some v0 ∧ X.cell? ⟨M, 1, Option.none⟩ = some v1 ∧ X.cell? ⟨M, 2, Option.none⟩ = some v2 ∧ X.cell? ⟨M, 3, Option.none⟩ = some v3 ∧ X.cell? ⟨M, 4, Option.none⟩ = some v4 ∧ X.cell? ⟨M, 5, Option.none⟩ = some v5 ∧ X.cell? ⟨M, 6, Option.none⟩ = some v6 ∧ X.cell? ⟨M, 7, Option.none⟩ = some v7 ∧ X.cell? ⟨M, 8, Option.none⟩ = some v8) := by
  simp [World.cell?, h]

/-- What is wrong with a command; 0: nothing. -/
def cmdF (op who key new ty at' : Int) (st : Bool) (d wt : ByteArray) : Int :=
  if ¬ (1 ≤ op ∧ op ≤ 9) then 2 else if who < 1 ∨ 4 < who then 1 else if numsF (hasKey op) (hasNew op) (hasAt op) key new at' ≠ 0 then numsF (hasKey op) (hasNew op) (hasAt op) key new at'
  else if shapedB (hasHeld op) (hasStays op) (hasData op) (hasWant op) ty st d wt = false then 2 else if 8 < d.size ∨ 8 < wt.size then 1 else if smallB d.data.toList = false ∨ smallB wt.data.toList = false then 2 else 0

theorem cmdF_op {op who key new ty at' : Int} {st : Bool} {d wt : ByteArray} (ho : ¬ (1 ≤ op ∧ op ≤ 9)) : cmdF op who key new ty at' st d wt = 2 := by unfold cmdF; rw [if_pos ho]
theorem cmdF_who {op who key new ty at' : Int} {st : Bool} {d wt : ByteArray} (ho : 1 ≤ op ∧ op ≤ 9) (hw : who < 1 ∨ 4 < who) : cmdF op who key new ty at' st d wt = 1 := by unfold cmdF; rw [if_neg (fun h => h ho), if_pos hw]
theorem cmdF_nums {op who key new ty at' : Int} {st : Bool} {d wt : ByteArray} (ho : 1 ≤ op ∧ op ≤ 9) (hw : ¬ (who < 1 ∨ 4 < who)) (hn : numsF (hasKey op) (hasNew op) (hasAt op) key new at' ≠ 0) : cmdF op who key new ty at' st d wt = numsF (hasKey op) (hasNew op) (hasAt op) key new at' := by unfold cmdF; rw [if_neg (fun h => h ho), if_neg hw, if_pos hn]
theorem cmdF_shape {op who key new ty at' : Int} {st : Bool} {d wt : ByteArray} (ho : 1 ≤ op ∧ op ≤ 9) (hw : ¬ (who < 1 ∨ 4 < who)) (hn : numsF (hasKey op) (hasNew op) (hasAt op) key new at' = 0) (hs : shapedB (hasHeld op) (hasStays op) (hasData op) (hasWant op) ty st d wt = false) : cmdF op who key new ty at' st d wt = 2 := by unfold cmdF; rw [if_neg (fun h => h ho), if_neg hw, if_neg (fun h => h hn), if_pos hs]
theorem cmdF_size {op who key new ty at' : Int} {st : Bool} {d wt : ByteArray} (ho : 1 ≤ op ∧ op ≤ 9) (hw : ¬ (who < 1 ∨ 4 < who)) (hn : numsF (hasKey op) (hasNew op) (hasAt op) key new at' = 0) (hs : shapedB (hasHeld op) (hasStays op) (hasData op) (hasWant op) ty st d wt = true) (hz : 8 < d.size ∨ 8 < wt.size) : cmdF op who key new ty at' st d wt = 1 := by unfold cmdF; rw [if_neg (fun h => h ho), if_neg hw, if_neg (fun h => h hn), if_neg (by rw [hs]; decide), if_pos hz]
theorem cmdF_small {op who key new ty at' : Int} {st : Bool} {d wt : ByteArray} (ho : 1 ≤ op ∧ op ≤ 9) (hw : ¬ (who < 1 ∨ 4 < who)) (hn : numsF (hasKey op) (hasNew op) (hasAt op) key new at' = 0) (hs : shapedB (hasHeld op) (hasStays op) (hasData op) (hasWant op) ty st d wt = true) (hz : ¬ (8 < d.size ∨ 8 < wt.size)) (hl : smallB d.data.toList = false ∨ smallB wt.data.toList = false) : cmdF op who key new ty at' st d wt = 2 := by unfold cmdF; rw [if_neg (fun h => h ho), if_neg hw, if_neg (fun h => h hn), if_neg (by rw [hs]; decide), if_neg hz, if_pos hl]
theorem cmdF_ok {op who key new ty at' : Int} {st : Bool} {d wt : ByteArray} (ho : 1 ≤ op ∧ op ≤ 9) (hw : ¬ (who < 1 ∨ 4 < who)) (hn : numsF (hasKey op) (hasNew op) (hasAt op) key new at' = 0) (hs : shapedB (hasHeld op) (hasStays op) (hasData op) (hasWant op) ty st d wt = true) (hz : ¬ (8 < d.size ∨ 8 < wt.size)) (hl : ¬ (smallB d.data.toList = false ∨ smallB wt.data.toList = false)) : cmdF op who key new ty at' st d wt = 0 := by unfold cmdF; rw [if_neg (fun h => h ho), if_neg hw, if_neg (fun h => h hn), if_neg (by rw [hs]; decide), if_neg hz, if_neg hl]

end Go.Proofs.YtfkmaiiainbcbaaGreatDoor.K
