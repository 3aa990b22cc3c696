/- The document's own box, behind a pointer; 'append' as a step of a region that draws its order. No statement of the seat is proved here. -/
import Derived.Test.YtajaojcechoniaaTDuo
import Derived.Deep.RegionHeld3
namespace Go.Proofs.Ytajaojcechoniaa
open Go.ChangeShapes Go.WideShapes Go.ChangeAt Go.RowKit Go.Deep

/-- All that there was is as it was, but for one block. -/
structure Beside (M : Nat) (w w' : World) : Prop where
  os : w'.os = w.os
  tape : w'.tape = w.tape
  output : w'.output = w.output
  size : w.heap.size ≤ w'.heap.size
  block : ∀ k, k < w.heap.size → k ≠ M → w'.heap[k]? = w.heap[k]?
theorem Beside.of {M : Nat} {w w' : World} (h : Below w.heap.size w w') : Beside M w w' := ⟨h.os, h.tape, h.output, h.size, fun k hk _ => h.block k hk⟩
theorem Beside.trans {M : Nat} {a b c : World} (h : Beside M a b) (k : Beside M b c) : Beside M a c :=
  ⟨k.os.trans h.os, k.tape.trans h.tape, k.output.trans h.output, Nat.le_trans h.size k.size, fun i hi hne => (k.block i (Nat.lt_of_lt_of_le hi h.size) hne).trans (h.block i hi hne)⟩
theorem Beside.set {M : Nat} {a w : World} (h : Beside M a w) (j : Nat) (u : Value) : Beside M a (w.setCell ⟨M, j, Option.none⟩ u) := by
  have hb : Below M w (w.setCell ⟨M, j, Option.none⟩ u) := (Below.refl M w).setCell (p := ⟨M, j, Option.none⟩) (by exact Nat.le_refl M) u
  exact ⟨hb.os.trans h.os, hb.tape.trans h.tape, hb.output.trans h.output, Nat.le_trans h.size hb.size, fun k hk hne => by rw [Below.heap_setCell _ _ _ _ hne]; exact h.block k hk hne⟩
theorem Beside.below {M B : Nat} {w w' : World} (h : Beside M w w') (hB : B ≤ M) (hw : B ≤ w.heap.size) : Below B w w' := ⟨h.os, h.tape, h.output, h.size, fun k hk => h.block k (by omega) (by omega)⟩
theorem Beside.cell {M : Nat} {w w' : World} (h : Beside M w w') {a : Addr} {v : Value} (hc : w.cell? a = some v) (hne : a.block ≠ M) : w'.cell? a = some v :=
  (World.cell?_of_block (w := w) (h.block a.block (World.block_lt_of_cell? _ _ hc) hne)).trans hc
theorem Fl.beside {w w' : World} {lo M : Nat} {a : Option Addr} {n c : Nat} {l : List Int} (h : Fl w lo a n c l) (hb : Beside M w w') (hM : M < lo) : Fl w' lo a n c l := by
  refine ⟨⟨h.1.1, h.1.2.1, fun hn => ?_⟩, h.2⟩
  obtain ⟨b, off, rfl, hc⟩ := h.1.2.2 hn
  have hlb : lo ≤ b := h.2.2.1 _ rfl
  exact ⟨b, off, rfl, fun i hi => hb.cell (hc i hi) (by show b ≠ M; omega)⟩
theorem BoxIs.beside {w w' : World} {lo M : Nat} {A : Nat → Option Addr} {N C : Nat → Nat} {L : Nat → List Int} (h : BoxIs w lo A N C L) (hb : Beside M w w') (hM : M < lo) : BoxIs w' lo A N C L := fun j hj => (h j hj).beside hb hM
theorem box_updB {w w' : World} {lo M : Nat} {A : Nat → Option Addr} {N C : Nat → Nat} {L : Nat → List Int} {j : Nat} {a : Option Addr} {n c : Nat} {l : List Int} (h : BoxIs w lo A N C L) (hb : Beside M w w') (hM : M < lo) (hf : Fl w' lo a n c l) : BoxIs w' lo (upd A j a) (upd N j n) (upd C j c) (upd L j l) := by
  intro k hk
  unfold upd
  by_cases e : k = j
  · simp only [if_pos e]; exact hf
  · simp only [if_neg e]; exact (h k hk).beside hb hM

/-- The document's box in memory. -/
def DBox (w : World) (M : Nat) (A : Nat → Option Addr) (N C : Nat → Nat) : Prop := w.heap[M]? = some (.cells #[.slice (A 0) (N 0) (C 0), .slice (A 1) (N 1) (C 1), .slice (A 2) (N 2) (C 2), .slice (A 3) (N 3) (C 3)] 29 (0, 0))
theorem DBox.cells {X : World} {M : Nat} {A : Nat → Option Addr} {N C : Nat → Nat} (h : DBox X M A N C) :
    (X.cell? ⟨M, 0, Option.none⟩ = some (.slice (A 0) (N 0) (C 0)) ∧ X.cell? ⟨M, 1, Option.none⟩ = some (.slice (A 1) (N 1) (C 1)) ∧ X.cell? ⟨M, 2, Option.none⟩ = some (.slice (A 2) (N 2) (C 2)) ∧ X.cell? ⟨M, 3, Option.none⟩ = some (.slice (A 3) (N 3) (C 3))) ∧
    (X.frozen? ⟨M, 0, Option.none⟩ = false ∧ X.frozen? ⟨M, 1, Option.none⟩ = false ∧ X.frozen? ⟨M, 2, Option.none⟩ = false ∧ X.frozen? ⟨M, 3, Option.none⟩ = false) := by
  unfold DBox at h
  simp [World.cell?, World.frozen?, h]
theorem DBox.later {X X' : World} {M : Nat} {A : Nat → Option Addr} {N C : Nat → Nat} (h : DBox X M A N C) (hb : Below X.heap.size X X') : DBox X' M A N C := by
  have hlt : M < X.heap.size := (Array.getElem?_eq_some_iff.1 h).1
  unfold DBox
  rw [hb.block M hlt]
  exact h
theorem DBox.lt {X : World} {M : Nat} {A : Nat → Option Addr} {N C : Nat → Nat} (h : DBox X M A N C) : M < X.heap.size := (Array.getElem?_eq_some_iff.1 h).1
theorem DBox.set {X : World} {M : Nat} {A : Nat → Option Addr} {N C : Nat → Nat} (h : DBox X M A N C) (j : Nat) (hj : j < 4) (a : Option Addr) (n c : Nat) : DBox (X.setCell ⟨M, j, Option.none⟩ (.slice a n c)) M (upd A j a) (upd N j n) (upd C j c) := by
  have h' := heap_setCell_same _ M j _ _ (.slice a n c) h
  unfold DBox
  rw [h']
  rcases (by omega : j = 0 ∨ j = 1 ∨ j = 2 ∨ j = 3) with rfl | rfl | rfl | rfl <;> rfl

/-- 'append' of a row of numbers to nothing: a step of a region that draws its order. -/
theorem step_app0 {ops : Array Oper} {o : Oper} {a : Act} {K : Act → World → Prop} {Q : Exit → Act → World → Prop} {E : Prop} (hgd : o.guard = Option.none) (s x : Operand) (hop : o.op = .call { callee := .builtin .append, args := #[s, x], argTypes := #[24, 24] })
    (ax : Option Addr) (nx cx : Nat) (l : List Int) (X : World) (hs : a.eval s = .slice Option.none 0 0) (hx : a.eval x = .slice ax nx cx) (hnil : ax = Option.none → cx = 0) (hr : Nums X ax nx l) (hl : l.length ≤ 1000)
    (h : ∀ v' w', OwnI w' X.heap.size v' l → Below X.heap.size X w' → K (a.put o.dst v') w') :
    if Region.wanted o (yielded ops a.tmps) = true then Oper.wp Try.prog o a X K Q else E := by
  have hw : Region.wanted o (yielded ops a.tmps) = true := by simp [Region.wanted, hgd]
  rw [if_pos hw]
  obtain ⟨i0, hi, hz0, hz1, hz2⟩ := zero_int
  have hrl := hr.1
  have ho : X.ownsRow X.heap.size 3 1 (.slice Option.none 0 0) 0 [] := ⟨rfl, .inl ⟨rfl, rfl⟩⟩
  cases ax with
  | none =>
    have h0 : nx = 0 := by
      rcases Nat.eq_zero_or_pos nx with h | h
      · exact h
      · obtain ⟨b, off, e, _⟩ := hr.2.2 (by omega)
        cases e
    subst h0
    obtain rfl := hnil rfl
    have hl0 : l = [] := List.eq_nil_of_length_eq_zero hrl
    subst hl0
    have hrun := run_append_owned_none (P := Try.prog) (w := X) X.heap.size 24 o.type 3 i0 1 Try.underlying24 hi _ 0 [] ho
    unfold Oper.wp
    simp [execOp, hop, resolve, invoke, builtin, hs, hx, hrun, Result.andThen]
    exact h _ _ ho (Below.refl _ _)
  | some ad =>
    refine wp_append_own X s x 24 hop X.heap.size 3 i0 _ 1 8 Try.underlying24 hi hz0 hz1 hz2 rfl (by decide) _ 0 [] hs ho ad nx cx (l.map (Value.int .i64)) hx (by simp [hrl])
      (fun j v hj => by
        have hlt : j < l.length := by simpa using (List.getElem?_eq_some_iff.1 hj).1
        obtain ⟨b, off, e, hc⟩ := hr.2.2 (by omega)
        simp only [Option.some.injEq] at e
        subst e
        rw [Addr.add_lit, hc j hlt]
        simpa [hlt] using hj) (ints_one l) (by simp only [maxLen]; omega) (by omega) (Nat.le_refl _) ?_
    intro v' w' hown hgrow hiff
    refine h v' w' ?_ ((Below.refl _ _).grown hgrow (Nat.le_refl _) (by intro k hk; cases hk))
    unfold OwnI
    rw [hrl]
    simpa using hown
theorem OwnI.mono {w : World} {base base' : Nat} {v : Value} {l : List Int} (h : OwnI w base v l) (hb : base' ≤ base) : OwnI w base' v l := by
  refine ⟨h.1, ?_⟩
  rcases h.2 with h0 | ⟨g, cap, cur, e, h1, h2⟩
  · exact .inl h0
  · exact .inr ⟨g, cap, cur, e, Nat.le_trans hb h1, h2⟩
/-- The same, seen from an elder world. -/
theorem step_app0' {ops : Array Oper} {o : Oper} {a : Act} {K : Act → World → Prop} {Q : Exit → Act → World → Prop} {E : Prop} (hgd : o.guard = Option.none) (s x : Operand) (hop : o.op = .call { callee := .builtin .append, args := #[s, x], argTypes := #[24, 24] })
    (ax : Option Addr) (nx cx : Nat) (l : List Int) (X0 X : World) (hs : a.eval s = .slice Option.none 0 0) (hx : a.eval x = .slice ax nx cx) (hnil : ax = Option.none → cx = 0) (hr : Nums X0 ax nx l) (hl : l.length ≤ 1000) (hb0 : Below X0.heap.size X0 X)
    (h : ∀ v' w', OwnI w' X0.heap.size v' l → Below X0.heap.size X0 w' → Below X.heap.size X w' → K (a.put o.dst v') w') :
    if Region.wanted o (yielded ops a.tmps) = true then Oper.wp Try.prog o a X K Q else E :=
  step_app0 hgd s x hop ax nx cx l X hs hx hnil (hr.later hb0) hl fun v' w' h1 h2 => h v' w' (h1.mono hb0.size) (hb0.trans (h2.mono hb0.size)) h2
/-- 'append' of one number to a row of the call's own: a step of a region that draws its order. -/
theorem step_app1 {ops : Array Oper} {o : Oper} {a : Act} {K : Act → World → Prop} {Q : Exit → Act → World → Prop} {E : Prop} (hgd : o.guard = Option.none) (s x : Operand) (hop : o.op = .call { callee := .builtin .append, args := #[s, x], argTypes := #[24, 24] })
    (base : Nat) (u : Value) (acc : List Int) (b : Nat) (p : Int) (X : World) (hs : a.eval s = u) (hx : a.eval x = .slice (some ⟨b, 0, Option.none⟩) 1 1) (ho : OwnI X base u acc) (hc : X.cell? ⟨b, 0, Option.none⟩ = some (.int .i64 p)) (hl : acc.length ≤ 1000) (hb : base ≤ X.heap.size)
    (h : ∀ a' n' c' w', Fl w' base a' n' c' (acc ++ [p]) → Below base X w' → K (a.put o.dst (.slice a' n' c')) w') :
    if Region.wanted o (yielded ops a.tmps) = true then Oper.wp Try.prog o a X K Q else E := by
  have hw : Region.wanted o (yielded ops a.tmps) = true := by simp [Region.wanted, hgd]
  rw [if_pos hw]
  obtain ⟨i0, hi, hz0, hz1, hz2⟩ := zero_int
  refine wp_append_own X s x 24 hop base 3 i0 _ 1 8 Try.underlying24 hi hz0 hz1 hz2 rfl (by decide) u acc.length _ hs ho ⟨b, 0, Option.none⟩ 1 1 [.int .i64 p] hx rfl
    (fun j v hj => by cases j with
      | zero => simp at hj; subst hj; rw [Addr.add_lit]; exact hc
      | succ j => simp at hj) (fun v hv => by simp at hv; subst hv; rfl) (by simp only [maxLen]; omega) (by omega) hb ?_
  intro v' w' hown hgrow _
  have hO : OwnI w' base v' (acc ++ [p]) := by
    have e : (acc ++ [p]).length = acc.length + 1 := by simp
    unfold OwnI
    rw [e, List.map_append]
    exact hown
  obtain ⟨a', n', c', rfl, hf⟩ := hO.fl
  exact h _ _ _ w' hf ((Below.refl _ _).grown hgrow hb ho.block)
end Go.Proofs.Ytajaojcechoniaa
