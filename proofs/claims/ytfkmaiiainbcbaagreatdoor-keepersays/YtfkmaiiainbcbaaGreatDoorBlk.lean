/- Blocks that are known whole, whole loads and stores as steps of a walk, and what a call may change of them. No statement of the seat is proved here. -/
import Derived.Test.YtfkmaiiainbcbaaGreatDoorRows
import Derived.WalkKit
import Derived.WalkSpells
import Derived.WalkLawsBesides
import Derived.ProofKit
import Derived.OpenShut
import Derived.ChangeOld
import Derived.Deep.Fields
import Derived.Deep.QuietTactic
import Derived.BigQuiet
import Derived.Deep.MidRow
import Derived.Deep.Quiet
import Derived.Deep.RegionHeld3
import Derived.Deep.DeepCutAuto
namespace Go.Proofs.YtfkmaiiainbcbaaGreatDoor.D
open Go.ChangeShapes Go.WideShapes Go.ChangeAt Go.RowKit Go.Deep

theorem ret_bool {a b : Bool} (h : a = b) : Ending.returned (.bool a) = .returned (.bool b) := by rw [h]
theorem ret_int {k : IntKind} {a b : Int} (h : a = b) : Ending.returned (.int k a) = .returned (.int k b) := by rw [h]
/-- A block that has these cells. -/
def At (W : World) (b : Nat) (l : List Value) (T : TypeId) : Prop := W.heap[b]? = some (.cells l.toArray T (0, 0))
theorem At.cell {W : World} {b : Nat} {l : List Value} {T : TypeId} (h : At W b l T) (j : Nat) : W.cell? ⟨b, j, Option.none⟩ = l[j]? := by
  simp [World.cell?, show W.heap[b]? = _ from h]
theorem At.range {W : World} {b : Nat} {l : List Value} {T : TypeId} (h : At W b l T) (o : Nat) (cs : List Value) (hc : ∀ j, j < cs.length → l[o + j]? = cs[j]?) : W.rangeAt b o cs := fun j v hv => by
  rw [h.cell, hc j (List.getElem?_eq_some_iff.1 hv).1, hv]
theorem At.whole {W : World} {b : Nat} {l : List Value} {T : TypeId} (h : At W b l T) : W.rangeAt b 0 l := h.range 0 l (fun j _ => by rw [Nat.zero_add])
theorem At.there {W : World} {b : Nat} {l : List Value} {T : TypeId} (h : At W b l T) (o n : Nat) (ho : o + n ≤ l.length) : W.there b o n := fun j hj => by
  refine ⟨?_, ?_⟩
  · rw [h.cell, List.getElem?_eq_getElem (by omega)]; rfl
  · simp [World.frozen?, show W.heap[b]? = _ from h]
theorem At.later {W W' : World} {b B : Nat} {l : List Value} {T : TypeId} (h : At W b l T) (hb : Below B W W') (hB : b < B) : At W' b l T := by
  unfold At; rw [hb.block _ hB]; exact h
theorem At.lt {W : World} {b : Nat} {l : List Value} {T : TypeId} (h : At W b l T) : b < W.heap.size := (Array.getElem?_eq_some_iff.1 h).1
theorem At.setCell_same {W : World} {b : Nat} {l : List Value} {T : TypeId} (h : At W b l T) (j : Nat) (v : Value) : At (W.setCell ⟨b, j, Option.none⟩ v) b (l.set j v) T := by
  have := heap_setCell_same W b j _ T v h
  unfold At; rw [this]; simp
theorem At.setCell_ne {W : World} {b : Nat} {l : List Value} {T : TypeId} (h : At W b l T) (p : Addr) (hp : b ≠ p.block) (v : Value) : At (W.setCell p v) b l T := by
  unfold At; rw [Below.heap_setCell _ _ _ _ hp]; exact h
def setL (l : List Value) : Nat → List Value → List Value
  | _, [] => l
  | o, v :: r => setL (l.set o v) (o + 1) r
theorem At.set {T : TypeId} {b : Nat} : ∀ (vs : List Value) (o : Nat) (W : World) (l : List Value), At W b l T → At (W.setCells b o vs) b (setL l o vs) T
  | [], _, _, _, h => h
  | v :: r, o, _, _, h => At.set r (o + 1) _ _ (h.setCell_same o v)
theorem At.set_ne {T : TypeId} {b b' : Nat} (hne : b ≠ b') {l : List Value} : ∀ (vs : List Value) (o : Nat) (W : World), At W b l T → At (W.setCells b' o vs) b l T
  | [], _, _, h => h
  | v :: r, o, _, h => At.set_ne hne r (o + 1) _ (h.setCell_ne _ hne v)
theorem setL_all : ∀ (vs pre l : List Value), l.length = vs.length → setL (pre ++ l) pre.length vs = pre ++ vs
  | [], pre, l, h => by have : l = [] := List.eq_nil_of_length_eq_zero (by simpa using h); subst this; rfl
  | v :: r, pre, [], h => by simp at h
  | v :: r, pre, x :: l, h => by
    have := setL_all r (pre ++ [v]) l (by simpa using h)
    simp only [setL]
    rw [show (pre ++ x :: l).set pre.length v = (pre ++ [v]) ++ l by simp]
    rw [show pre.length + 1 = (pre ++ [v]).length by simp, this]; simp
theorem setL_whole (vs l : List Value) (h : l.length = vs.length) : setL l 0 vs = vs := setL_all vs [] l h
theorem below_setCells {B : Nat} {b : Nat} (hb : B ≤ b) {w : World} : ∀ (vs : List Value) (o : Nat) (W : World), Below B w W → Below B w (W.setCells b o vs)
  | [], _, _, h => h
  | v :: r, o, _, h => below_setCells hb r (o + 1) _ (h.setCell (by exact hb) v)
theorem size_setCells (b : Nat) : ∀ (vs : List Value) (o : Nat) (W : World), (W.setCells b o vs).heap.size = W.heap.size
  | [], _, _ => rfl
  | v :: r, o, W => by rw [World.setCells, size_setCells b r]; simp [World.setCell]
theorem two (w : World) (x y : Obj) : ∃ X, X = (w.alloc x).alloc y ∧ X.heap[w.heap.size]? = some x ∧ X.heap[w.heap.size + 1]? = some y ∧ Below w.heap.size w X ∧ X.heap.size = w.heap.size + 2 := by
  refine ⟨_, rfl, ?_, ?_, ((Below.refl _ _).alloc (Nat.le_refl _) _).alloc (by simp) _, by simp⟩
  · rw [Below.heap_alloc _ _ _ (by simp)]; exact heap_alloc_new w _
  · simpa using heap_alloc_new (w.alloc x) y
theorem exec_load {P : Program} {dst : Option Tmp} {T ty : TypeId} {x : Operand} {pos : String} {after : Array Edge} {gd : Option (Nat × Bool)} {a : Act} {w : World} {p v : Value}
    (law : (Instr.loadAt T p).run P w = .ok v w) (hx : a.eval x = p) : (execOp a.eval ⟨dst, .load T x, ty, pos, after, gd⟩).run P w = .ok (.value v) w := by
  unfold execOp; simp only [hx, Sem.run_bind, law, Result.andThen_ok, Sem.run_pure]
theorem wpOp_store {P : Program} {ops : Array Oper} {i : Nat} {dst : Option Tmp} {T ty : TypeId} {x y : Operand} {pos : String} {after : Array Edge} {a : Act} {w w' : World} {Q : Exit → Act → World → Prop} {K : Act → World → Prop} {p v : Value}
    (law : (Instr.storeAt T p v).run P w = .ok () w') (ho : ops[i]? = some ⟨dst, .store T x y, ty, pos, after, Option.none⟩) (hd : dst = Option.none) (hx : a.eval x = p) (hy : a.eval y = v) (h : K a w') : wpOp P ops Q i K a w := by
  unfold wpOp
  rw [ho]
  subst hd
  simp only [Region.wanted, if_true]
  refine .inl ?_
  unfold Oper.wp execOp
  simp only [hx, hy, Sem.run_bind, law, Result.andThen_ok, Sem.run_pure]
  exact h

theorem one (w : World) (x : Obj) : ∃ X, X = w.alloc x ∧ X.heap[w.heap.size]? = some x ∧ Below w.heap.size w X ∧ X.heap.size = w.heap.size + 1 :=
  ⟨_, rfl, heap_alloc_new w x, (Below.refl _ _).alloc (Nat.le_refl _) _, by simp⟩
theorem wpOp_step {P : Program} {ops : Array Oper} {i : Nat} {o : Oper} {a : Act} {w : World} {Q : Exit → Act → World → Prop} {K : Act → World → Prop} (ho : ops[i]? = some o) (hg : o.guard = Option.none) (h : o.wp P a w K Q) : wpOp P ops Q i K a w := by
  unfold wpOp
  rw [ho]
  simp only [Region.wanted, hg, if_true]
  exact .inl h

/-- One field of a block is stored. -/
theorem At.store1 {W : World} {b : Nat} {T0 : TypeId} {cs : List Value} (h : At W b cs T0) {T : TypeId} {i : Nat} {v : Value} (hT : (Tryz.prog.info? T).map (·.size) = some 1) (hi : i < cs.length) (hv : v.cells = #[v]) (hv1 : v.oneCell' = true) :
    (Instr.storeAt T (.pointer (some ⟨b, i, Option.none⟩)) v).run Tryz.prog W = .ok () (W.setCell ⟨b, i, Option.none⟩ v) := by
  have hth := h.there i 1 (by omega) 0 (by decide)
  have hc : (W.cell? ⟨b, i, Option.none⟩).isSome = true := hth.1
  have hf : W.frozen? ⟨b, i, Option.none⟩ = false := hth.2
  cases hq : Tryz.prog.info? T with
  | none => rw [hq] at hT; cases hT
  | some inf =>
    have hs : inf.size = 1 := by rw [hq] at hT; simpa using hT
    have e1 : ∀ j, j < [v].length → (W.cell? ⟨b, i + 0 + j, Option.none⟩).isSome = true := by
      intro j hj
      have : j = 0 := by simpa using hj
      subst this
      exact hc
    have e2 : ∀ j, j < [v].length → W.frozen? ⟨b, i + 0 + j, Option.none⟩ = false := by
      intro j hj
      have : j = 0 := by simpa using hj
      subst this
      exact hf
    have e3 : ∀ u ∈ [v], u.oneCell' = true := by
      intro u hu
      have : u = v := by simpa using hu
      subst this
      exact hv1
    have := run_storeCells_cells (P := Tryz.prog) b i [v] 0 W e1 e2 e3
    simp only [Nat.add_zero] at this
    simp only [Instr.storeAt, Instr.sureAddr, Sem.run_bind, Sem.run_pure, Result.andThen_ok]
    simp [storeVar, sizeOf, typeInfo, hq, hs, hv, this, World.setCells]
/-! ### Whole loads and stores as steps of a walk -/
theorem wl_load {P : Program} {ops : Array Oper} {rest : List Oper} {dst : Option Tmp} {T ty : TypeId} {x : Operand} {pos : String} {after : Array Edge} {gd : Option (Nat × Bool)} {a : Act} {w : World} {Q : Exit → Act → World → Prop} {p v : Value}
    (law : (Instr.loadAt T p).run P w = .ok v w) (hw : Region.wanted ⟨dst, .load T x, ty, pos, after, gd⟩ (yielded ops a.tmps) = true) (hx : a.eval x = p) (h : wpList P ops Q rest (a.put dst v) w) : wpList P ops Q (⟨dst, .load T x, ty, pos, after, gd⟩ :: rest) a w :=
  BigFrame.wpList_want hw fun K hK => by unfold Oper.wp execOp; simp only [hx, Sem.run_bind, law, Result.andThen_ok, Sem.run_pure]; exact hK _ _ h
theorem wl_store {P : Program} {ops : Array Oper} {rest : List Oper} {dst : Option Tmp} {T ty : TypeId} {x y : Operand} {pos : String} {after : Array Edge} {a : Act} {w w' : World} {Q : Exit → Act → World → Prop} {p v : Value}
    (law : (Instr.storeAt T p v).run P w = .ok () w') (hx : a.eval x = p) (hy : a.eval y = v) (h : wpList P ops Q rest (a.put dst undef) w') : wpList P ops Q (⟨dst, .store T x y, ty, pos, after, Option.none⟩ :: rest) a w :=
  wpList_plain rfl fun K hK => by unfold Oper.wp execOp; simp only [hx, hy, Sem.run_bind, law, Result.andThen_ok, Sem.run_pure]; exact hK _ _ h
theorem q_load {P : Program} {C : World → Prop} {K : Act → Prop} {dst : Option Tmp} {T ty : TypeId} {x : Operand} {pos : String} {after : Array Edge} {gd : Option (Nat × Bool)} {a : Act} {p v : Value}
    (law : ∀ w, C w → (Instr.loadAt T p).run P w = .ok v w) (hx : a.eval x = p) (h : K (a.put dst v)) : Oper.quiet P ⟨dst, .load T x, ty, pos, after, gd⟩ a C K :=
  ⟨v, fun w hw => by unfold Oper.quietAt execOp; simp only [hx, Sem.run_bind, law w hw, Result.andThen_ok, Sem.run_pure]; exact ⟨rfl, rfl⟩, h⟩
theorem wl_build {P : Program} {ops : Array Oper} {rest : List Oper} {dst : Option Tmp} {T ty : TypeId} {ps : Array (Nat × Operand)} {pos : String} {after : Array Edge} {a : Act} {w : World} {Q : Exit → Act → World → Prop} {qs : Array (Nat × Value)} {v : Value}
    (law : (Instr.build T qs).run P w = .ok v w) (hx : (ps.map fun p => (p.1, a.eval p.2)) = qs) (h : wpList P ops Q rest (a.put dst v) w) : wpList P ops Q (⟨dst, .build T ps, ty, pos, after, Option.none⟩ :: rest) a w :=
  wpList_plain rfl fun K hK => by unfold Oper.wp execOp; simp only [hx, Sem.run_bind, law, Result.andThen_ok, Sem.run_pure]; exact hK _ _ h
theorem ret_ra {P : Program} {fn : Func} {r t : Tmp} {T : TypeId} {tmps : Array Value} {w : World} {b : Nat} {v : Value} (h : fn.results = #[.cell r T, .tmp t]) (hr : tmps.getD r undef = .pointer (some ⟨b, 0, Option.none⟩))
    (law : (Instr.loadAt T (.pointer (some ⟨b, 0, Option.none⟩))).run P w = .ok v w) : (results fn tmps).run P w = .ok (.tuple #[v, tmps.getD t undef]) w := by
  have law' : (loadVar T ⟨b, 0, Option.none⟩).run P w = .ok v w := by simpa [Instr.loadAt, Instr.sureAddr, Sem.run_bind] using law
  simp only [Array.getD_eq_getD_getElem?] at hr
  simp [results, h, hr, asAddr, law']

theorem ret_one {P : Program} {fn : Func} {r : Tmp} {T : TypeId} {tmps : Array Value} {w : World} {b : Nat} {v : Value} (h : fn.results = #[.cell r T]) (hr : tmps.getD r undef = .pointer (some ⟨b, 0, Option.none⟩))
    (law : (Instr.loadAt T (.pointer (some ⟨b, 0, Option.none⟩))).run P w = .ok v w) : (results fn tmps).run P w = .ok v w := by
  have law' : (loadVar T ⟨b, 0, Option.none⟩).run P w = .ok v w := by simpa [Instr.loadAt, Instr.sureAddr, Sem.run_bind] using law
  simp only [Array.getD_eq_getD_getElem?] at hr
  simp [results, h, hr, asAddr, law']

/-! ### What a call may change -/
/-- All is as it was but for some blocks; what it owns behind it are the same blocks, or new ones. -/
structure Moved (F F' : Nat → Prop) (w w' : World) : Prop where
  os : w'.os = w.os
  tape : w'.tape = w.tape
  output : w'.output = w.output
  size : w.heap.size ≤ w'.heap.size
  block : ∀ k, k < w.heap.size → ¬ F k → w'.heap[k]? = w.heap[k]?
  grown : ∀ k, F' k → F k ∨ w.heap.size ≤ k
theorem Moved.refl (F : Nat → Prop) (w : World) : Moved F F w w := ⟨rfl, rfl, rfl, Nat.le_refl _, fun _ _ _ => rfl, fun _ h => .inl h⟩
theorem Moved.of {F : Nat → Prop} {B : Nat} {w w' : World} (h : Below B w w') (hB : w.heap.size ≤ B) : Moved F F w w' := ⟨h.os, h.tape, h.output, h.size, fun k hk _ => h.block k (by omega), fun _ h => .inl h⟩
theorem Moved.trans {F F' F'' : Nat → Prop} {u v w : World} (h : Moved F F' u v) (k : Moved F' F'' v w) : Moved F F'' u w :=
  ⟨k.os.trans h.os, k.tape.trans h.tape, k.output.trans h.output, Nat.le_trans h.size k.size, fun i hi hn => (k.block i (Nat.lt_of_lt_of_le hi h.size) (fun hf => (h.grown i hf).elim hn (fun h1 => by omega))).trans (h.block i hi hn),
   fun i hi => (k.grown i hi).elim (fun h1 => h.grown i h1) (fun h1 => .inr (Nat.le_trans h.size h1))⟩
theorem Moved.set {F F' : Nat → Prop} {u w : World} (h : Moved F F' u w) {b : Nat} (hb : F b) (j : Nat) (v : Value) : Moved F F' u (w.setCell ⟨b, j, Option.none⟩ v) :=
  ⟨h.os, h.tape, h.output, by have := h.size; simpa [World.setCell] using this, fun k hk hn => by rw [Below.heap_setCell _ _ _ _ (fun e => hn (by rw [e]; exact hb))]; exact h.block k hk hn, h.grown⟩
theorem Moved.sets {F F' : Nat → Prop} {u : World} {b : Nat} (hb : F b) : ∀ (vs : List Value) (o : Nat) (w : World), Moved F F' u w → Moved F F' u (w.setCells b o vs)
  | [], _, _, h => h
  | v :: r, o, _, h => Moved.sets hb r (o + 1) _ (h.set hb o v)
theorem Moved.mono {F F' G G' : Nat → Prop} {w w' : World} (h : Moved F F' w w') (h1 : ∀ k, F k → G k) (h2 : ∀ k, G' k → G k ∨ F' k ∨ w.heap.size ≤ k) : Moved G G' w w' :=
  ⟨h.os, h.tape, h.output, h.size, fun k hk hn => h.block k hk (fun hf => hn (h1 k hf)), fun k hk => (h2 k hk).elim .inl (fun h3 => h3.elim (fun h4 => (h.grown k h4).elim (fun h5 => .inl (h1 k h5)) .inr) .inr)⟩
theorem Moved.at {F F' : Nat → Prop} {w w' : World} {b : Nat} {l : List Value} {T : TypeId} (h : Moved F F' w w') (A : At w b l T) (hn : ¬ F b) : At w' b l T := by
  unfold At; rw [h.block b A.lt hn]; exact A
theorem Moved.not {F F' : Nat → Prop} {w w' : World} (h : Moved F F' w w') {b : Nat} (hb : b < w.heap.size) (hn : ¬ F b) : ¬ F' b := fun hf => (h.grown b hf).elim hn (fun h1 => by omega)
theorem Moved.below {F F' : Nat → Prop} {B : Nat} {w0 w w' : World} (h : Moved F F' w w') (hb : Below B w0 w) (hF : ∀ k, F k → B ≤ k) (hB : B ≤ w.heap.size) : Below B w0 w' :=
  ⟨h.os.trans hb.os, h.tape.trans hb.tape, h.output.trans hb.output, Nat.le_trans hb.size h.size, fun k hk => (h.block k (by omega) (fun hf => by have := hF k hf; omega)).trans (hb.block k hk)⟩
theorem Moved.above {F F' : Nat → Prop} {B : Nat} {w w' : World} (h : Moved F F' w w') (hF : ∀ k, F k → B ≤ k) (hB : B ≤ w.heap.size) : ∀ k, F' k → B ≤ k := fun k hk => (h.grown k hk).elim (fun h1 => hF k h1) (fun h1 => by omega)
theorem Moved.cell {F F' : Nat → Prop} {w w' : World} (h : Moved F F' w w') {a : Addr} {v : Value} (hc : w.cell? a = some v) (hn : ¬ F a.block) : w'.cell? a = some v := by
  have hl : a.block < w.heap.size := by
    by_cases hb : a.block < w.heap.size
    · exact hb
    · have : w.heap[a.block]? = Option.none := Array.getElem?_eq_none (by omega)
      simp [World.cell?, this] at hc
  rw [World.cell?_of_block (w := w) (h.block a.block hl hn)]; exact hc
/-- The one block that changes. -/
def Is (b : Nat) : Nat → Prop := fun k => k = b
theorem Moved.one_set {u w : World} {b : Nat} (h : Moved (Is b) (Is b) u w) (j : Nat) (v : Value) : Moved (Is b) (Is b) u (w.setCell ⟨b, j, Option.none⟩ v) := h.set rfl j v
end Go.Proofs.YtfkmaiiainbcbaaGreatDoor.D
