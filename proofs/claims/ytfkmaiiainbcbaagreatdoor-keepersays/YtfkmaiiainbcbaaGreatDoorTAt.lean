/- Blocks that are known whole, and whole loads and stores as steps of a walk (as in the group's texts). No statement of the seat is proved here. -/
import Derived.Test.YtfkmaiiainbcbaaGreatDoorTText
import Derived.Deep.MidRow
import Derived.Deep.Quiet
namespace Go.Proofs.YtfkmaiiainbcbaaGreatDoor.K
open Go.ChangeShapes Go.WideShapes Go.ChangeAt Go.RowKit Go.Maps

/-- A block that has these cells. -/
def At (W : World) (b : Nat) (l : List Value) (T : TypeId) : Prop := W.heap[b]? = some (.cells l.toArray T (0, 0))
theorem At.cell {W : World} {b : Nat} {l : List Value} {T : TypeId} (h : At W b l T) (j : Nat) : W.cell? ⟨b, j, Option.none⟩ = l[j]? := by
  simp [World.cell?, show W.heap[b]? = _ from h]
theorem At.range {W : World} {b : Nat} {l : List Value} {T : TypeId} (h : At W b l T) (o : Nat) (cs : List Value) (hc : ∀ j, j < cs.length → l[o + j]? = cs[j]?) : W.rangeAt b o cs := fun j v hv => by
  rw [h.cell, hc j (List.getElem?_eq_some_iff.1 hv).1, hv]
theorem At.whole {W : World} {b : Nat} {l : List Value} {T : TypeId} (h : At W b l T) : W.rangeAt b 0 l := h.range 0 l (fun j _ => by rw [Nat.zero_add])
theorem At.there {W : World} {b : Nat} {l : List Value} {T : TypeId} (h : At W b l T) (o n : Nat) (ho : o + n ≤ l.length) : W.there b o n := fun j hj => by
  refine ⟨?_, ?_⟩
  · rw [h.cell, List.getElem?_eq_getElem (by omega)]; rfl
  · simp [World.frozen?, show W.heap[b]? = _ from h]
theorem At.later {W W' : World} {b B : Nat} {l : List Value} {T : TypeId} (h : At W b l T) (hb : Below B W W') (hB : b < B) : At W' b l T := by
  unfold At; rw [hb.block _ hB]; exact h
theorem At.lt {W : World} {b : Nat} {l : List Value} {T : TypeId} (h : At W b l T) : b < W.heap.size := (Array.getElem?_eq_some_iff.1 h).1
theorem At.setCell_same {W : World} {b : Nat} {l : List Value} {T : TypeId} (h : At W b l T) (j : Nat) (v : Value) : At (W.setCell ⟨b, j, Option.none⟩ v) b (l.set j v) T := by
  have := heap_setCell_same W b j _ T v h
  unfold At; rw [this]; simp
theorem At.setCell_ne {W : World} {b : Nat} {l : List Value} {T : TypeId} (h : At W b l T) (p : Addr) (hp : b ≠ p.block) (v : Value) : At (W.setCell p v) b l T := by
  unfold At; rw [Below.heap_setCell _ _ _ _ hp]; exact h
def setL (l : List Value) : Nat → List Value → List Value
  | _, [] => l
  | o, v :: r => setL (l.set o v) (o + 1) r
theorem At.set {T : TypeId} {b : Nat} : ∀ (vs : List Value) (o : Nat) (W : World) (l : List Value), At W b l T → At (W.setCells b o vs) b (setL l o vs) T
  | [], _, _, _, h => h
  | v :: r, o, _, _, h => At.set r (o + 1) _ _ (h.setCell_same o v)
theorem At.set_ne {T : TypeId} {b b' : Nat} (hne : b ≠ b') {l : List Value} : ∀ (vs : List Value) (o : Nat) (W : World), At W b l T → At (W.setCells b' o vs) b l T
  | [], _, _, h => h
  | v :: r, o, _, h => At.set_ne hne r (o + 1) _ (h.setCell_ne _ hne v)
theorem setL_all : ∀ (vs pre l : List Value), l.length = vs.length → setL (pre ++ l) pre.length vs = pre ++ vs
  | [], pre, l, h => by have : l = [] := List.eq_nil_of_length_eq_zero (by simpa using h); subst this; rfl
  | v :: r, pre, [], h => by simp at h
  | v :: r, pre, x :: l, h => by
    have := setL_all r (pre ++ [v]) l (by simpa using h)
    simp only [setL]
    rw [show (pre ++ x :: l).set pre.length v = (pre ++ [v]) ++ l by simp]
    rw [show pre.length + 1 = (pre ++ [v]).length by simp, this]; simp
theorem setL_whole (vs l : List Value) (h : l.length = vs.length) : setL l 0 vs = vs := setL_all vs [] l h
theorem below_setCells {B : Nat} {b : Nat} (hb : B ≤ b) {w : World} : ∀ (vs : List Value) (o : Nat) (W : World), Below B w W → Below B w (W.setCells b o vs)
  | [], _, _, h => h
  | v :: r, o, _, h => below_setCells hb r (o + 1) _ (h.setCell (by exact hb) v)
theorem size_setCells (b : Nat) : ∀ (vs : List Value) (o : Nat) (W : World), (W.setCells b o vs).heap.size = W.heap.size
  | [], _, _ => rfl
  | v :: r, o, W => by rw [World.setCells, size_setCells b r]; simp [World.setCell]
theorem three (w : World) (x y z : Obj) : ∃ X, X = ((w.alloc x).alloc y).alloc z ∧ X.heap[w.heap.size]? = some x ∧ X.heap[w.heap.size + 1]? = some y ∧ X.heap[w.heap.size + 1 + 1]? = some z ∧ Below w.heap.size w X ∧ X.heap.size = w.heap.size + 3 := by
  refine ⟨_, rfl, ?_, ?_, ?_, (((Below.refl _ _).alloc (Nat.le_refl _) _).alloc (by simp) _).alloc (by simp; omega) _, by simp⟩
  · rw [Below.heap_alloc _ _ _ (by simp; omega), Below.heap_alloc _ _ _ (by simp)]; exact heap_alloc_new w _
  · rw [Below.heap_alloc _ _ _ (by simp)]; simpa using heap_alloc_new (w.alloc x) y
  · simpa using heap_alloc_new ((w.alloc x).alloc y) z

/-! ### Whole loads and stores as steps of a walk -/
theorem wl_load {P : Program} {ops : Array Oper} {rest : List Oper} {dst : Option Tmp} {T ty : TypeId} {x : Operand} {pos : String} {after : Array Edge} {gd : Option (Nat × Bool)} {a : Act} {w : World} {Q : Exit → Act → World → Prop} {p v : Value}
    (law : (Instr.loadAt T p).run P w = .ok v w) (hw : Region.wanted ⟨dst, .load T x, ty, pos, after, gd⟩ (yielded ops a.tmps) = true) (hx : a.eval x = p) (h : wpList P ops Q rest (a.put dst v) w) : wpList P ops Q (⟨dst, .load T x, ty, pos, after, gd⟩ :: rest) a w :=
  BigFrame.wpList_want hw fun K hK => by unfold Oper.wp execOp; simp only [hx, Sem.run_bind, law, Result.andThen_ok, Sem.run_pure]; exact hK _ _ h
theorem wl_store {P : Program} {ops : Array Oper} {rest : List Oper} {dst : Option Tmp} {T ty : TypeId} {x y : Operand} {pos : String} {after : Array Edge} {a : Act} {w w' : World} {Q : Exit → Act → World → Prop} {p v : Value}
    (law : (Instr.storeAt T p v).run P w = .ok () w') (hx : a.eval x = p) (hy : a.eval y = v) (h : wpList P ops Q rest (a.put dst undef) w') : wpList P ops Q (⟨dst, .store T x y, ty, pos, after, Option.none⟩ :: rest) a w :=
  wpList_plain rfl fun K hK => by unfold Oper.wp execOp; simp only [hx, hy, Sem.run_bind, law, Result.andThen_ok, Sem.run_pure]; exact hK _ _ h
theorem q_load {P : Program} {C : World → Prop} {K : Act → Prop} {dst : Option Tmp} {T ty : TypeId} {x : Operand} {pos : String} {after : Array Edge} {gd : Option (Nat × Bool)} {a : Act} {p v : Value}
    (law : ∀ w, C w → (Instr.loadAt T p).run P w = .ok v w) (hx : a.eval x = p) (h : K (a.put dst v)) : Oper.quiet P ⟨dst, .load T x, ty, pos, after, gd⟩ a C K :=
  ⟨v, fun w hw => by unfold Oper.quietAt execOp; simp only [hx, Sem.run_bind, law w hw, Result.andThen_ok, Sem.run_pure]; exact ⟨rfl, rfl⟩, h⟩
theorem ret_ra {P : Program} {fn : Func} {r t : Tmp} {T : TypeId} {tmps : Array Value} {w : World} {b : Nat} {v : Value} (h : fn.results = #[.cell r T, .tmp t]) (hr : tmps.getD r undef = .pointer (some ⟨b, 0, Option.none⟩))
    (law : (Instr.loadAt T (.pointer (some ⟨b, 0, Option.none⟩))).run P w = .ok v w) : (results fn tmps).run P w = .ok (.tuple #[v, tmps.getD t undef]) w := by
  have law' : (loadVar T ⟨b, 0, Option.none⟩).run P w = .ok v w := by simpa [Instr.loadAt, Instr.sureAddr, Sem.run_bind] using law
  simp only [Array.getD_eq_getD_getElem?] at hr
  simp [results, h, hr, asAddr, law']

theorem ret_one {P : Program} {fn : Func} {r : Tmp} {T : TypeId} {tmps : Array Value} {w : World} {b : Nat} {v : Value} (h : fn.results = #[.cell r T]) (hr : tmps.getD r undef = .pointer (some ⟨b, 0, Option.none⟩))
    (law : (Instr.loadAt T (.pointer (some ⟨b, 0, Option.none⟩))).run P w = .ok v w) : (results fn tmps).run P w = .ok v w := by
  have law' : (loadVar T ⟨b, 0, Option.none⟩).run P w = .ok v w := by simpa [Instr.loadAt, Instr.sureAddr, Sem.run_bind] using law
  simp only [Array.getD_eq_getD_getElem?] at hr
  simp [results, h, hr, asAddr, law']


theorem szC : (Tryz.prog.info? 40).map (·.size) = some 9 := by kernel_rfl
theorem undC : ∃ d, Tryz.prog.underlying 40 = some d ∧ d.isRow = true := ⟨_, Tryz.underlying40, rfl⟩
theorem load_cmd {X : World} {b : Nat} {T : TypeId} {cs : List Value} (h : At X b cs T) (hl : cs.length = 9) :
    (Instr.loadAt 40 (.pointer (some ⟨b, 0, Option.none⟩))).run Tryz.prog X = .ok (.agg cs.toArray) X := by
  obtain ⟨d, hd, hr⟩ := undC
  exact run_loadAt_mid X b 0 _ cs d h.whole hd hr (by rw [hl]; exact szC)
theorem store_cmd {X : World} {b : Nat} {T : TypeId} {cs vs : List Value} (h : At X b cs T) (hc : cs.length = 9) (hl : vs.length = 9) (h1 : ∀ v ∈ vs, v.oneCell' = true) :
    (Instr.storeAt 40 (.pointer (some ⟨b, 0, Option.none⟩)) (.agg vs.toArray)).run Tryz.prog X = .ok () (X.setCells b 0 vs) :=
  run_storeAt_mid X b 0 _ vs.toArray (by simpa using h.there 0 vs.length (by omega)) (by simpa [hl] using szC) (all_oneCell_toArray h1)
/-- A command's cells. -/
def cmdL (op who key new ty at' : Int) (st : Bool) (d wt : ByteArray) : List Value := [.int .i64 op, .int .i64 who, .int .i64 key, .int .i64 new, .int .i64 ty, .int .i64 at', .bool st, .string d, .string wt]
theorem cmdL_one (op who key new ty at' : Int) (st : Bool) (d wt : ByteArray) : ∀ v ∈ cmdL op who key new ty at' st d wt, v.oneCell' = true := by
  intro v hv; simp [cmdL] at hv; rcases hv with rfl | rfl | rfl | rfl | rfl | rfl | rfl | rfl | rfl <;> rfl
end Go.Proofs.YtfkmaiiainbcbaaGreatDoor.K
