/- What a replica's Fence answers. No statement of the seat is proved here. -/
import Derived.Test.YteebhmhjbgehjaaGMem
import Derived.Deep.RegionHeld3
import Derived.Deep.DeepCutAuto
namespace Go.Proofs.Yteebhmhjbgehjaa
open Go.ChangeShapes Go.WideShapes Go.ChangeAt Go.RowKit Go.Deep

/-- The floor behind a fence. -/
def fenF (f e : Int) : Int := if f = e - 1 then e else f
theorem repV_floor (f f' : Int) (l : List Cel) : setL (repV f l) 0 [.int .i64 f'] = repV f' l := rfl
theorem two (w : World) (x y : Obj) : ∃ X, X = (w.alloc x).alloc y ∧ X.heap[w.heap.size]? = some x ∧ X.heap[w.heap.size + 1]? = some y ∧ Below w.heap.size w X ∧ X.heap.size = w.heap.size + 2 := by
  refine ⟨_, rfl, ?_, ?_, ((Below.refl _ _).alloc (Nat.le_refl _) _).alloc (by simp) _, by simp⟩
  · rw [Below.heap_alloc _ _ _ (by simp)]; exact heap_alloc_new w _
  · simpa using heap_alloc_new (w.alloc x) y
theorem exec_load {P : Program} {dst : Option Tmp} {T ty : TypeId} {x : Operand} {pos : String} {after : Array Edge} {gd : Option (Nat × Bool)} {a : Act} {w : World} {p v : Value}
    (law : (Instr.loadAt T p).run P w = .ok v w) (hx : a.eval x = p) : (execOp a.eval ⟨dst, .load T x, ty, pos, after, gd⟩).run P w = .ok (.value v) w := by
  unfold execOp; simp only [hx, Sem.run_bind, law, Result.andThen_ok, Sem.run_pure]
theorem wpOp_store {P : Program} {ops : Array Oper} {i : Nat} {dst : Option Tmp} {T ty : TypeId} {x y : Operand} {pos : String} {after : Array Edge} {a : Act} {w w' : World} {Q : Exit → Act → World → Prop} {K : Act → World → Prop} {p v : Value}
    (law : (Instr.storeAt T p v).run P w = .ok () w') (ho : ops[i]? = some ⟨dst, .store T x y, ty, pos, after, Option.none⟩) (hd : dst = Option.none) (hx : a.eval x = p) (hy : a.eval y = v) (h : K a w') : wpOp P ops Q i K a w := by
  unfold wpOp
  rw [ho]
  subst hd
  simp only [Region.wanted, if_true]
  refine .inl ?_
  unfold Oper.wp execOp
  simp only [hx, hy, Sem.run_bind, law, Result.andThen_ok, Sem.run_pure]
  exact h

set_option maxHeartbeats 4000000 in
theorem rfence_any (f : Int) (l : List Cel) (e : Int) (w : World) (hl : RepOK l) (he : 0 ≤ e) (he9 : e ≤ 1000000000) :
    Calls Try.prog 33 #[.agg (repV f l).toArray, .int .i64 e] w fun r w' => r = .returned (.tuple #[.agg (repV (fenF f e) l).toArray, .bool (fenF f e == e)]) ∧ Below w.heap.size w w' := by
  obtain ⟨X, hX, a0, a1, bX, sX⟩ := two w (.cells (repV f l).toArray 26) (.cells z25.toArray 26)
  have A0 : At X w.heap.size (repV f l) 26 := a0
  have A1 : At X (w.heap.size + 1) z25 26 := a1
  have f0 : X.cell? ⟨w.heap.size, 0, Option.none⟩ = some (.int .i64 f) := A0.cell 0
  have z0 : X.frozen? ⟨w.heap.size, 0, Option.none⟩ = false := (A0.there 0 1 (by rw [hl.vlen f]; decide) 0 (by decide)).2
  simp only [z25] at hX
  clear a0 a1
  by_cases hf : f = e - 1
  · have hf' : (f == e - 1) = true := by simpa using hf
    have HF : Hid (fenF f e = e) := by show _ = _; simp [fenF, hf]
    clear hf
    have A0' : At (X.setCell ⟨w.heap.size, 0, Option.none⟩ (.int .i64 e)) w.heap.size (repV e l) 26 := A0.setCell_same 0 _
    have A1' : At (X.setCell ⟨w.heap.size, 0, Option.none⟩ (.int .i64 e)) (w.heap.size + 1) z25 26 := A1.setCell_ne _ (by simp) _
    have bZ : Below w.heap.size w (X.setCell ⟨w.heap.size, 0, Option.none⟩ (.int .i64 e)) := bX.setCell (Nat.le_refl _) _
    go_enter Try.func33, Try.ntmps33
    go_upto_region 1 with fail
    rw [← hX]
    clear hX
    go_wp2_with fail
    clear A0 A1 bX f0 z0
    generalize X.setCell ⟨w.heap.size, 0, Option.none⟩ (.int .i64 e) = Z at *
    have A0 := A0'
    have A1 := A1'
    refine wp_region_held (S := fun w' => At w' w.heap.size (repV e l) 26) (by kernel_rfl) ?_
    have HS : Hid (At (Z.drew) w.heap.size (repV e l) 26) := A0
    have hst : (Instr.storeAt 26 (.pointer (some ⟨w.heap.size + 1, 0, Option.none⟩)) (.agg (repV e l).toArray)).run Try.prog Z.drew = .ok () (Z.drew.setCells (w.heap.size + 1) 0 (repV e l)) := store_rep (X := Z.drew) A1 rfl (hl.vlen e) (vone l e)
    have A2 := At.set (repV e l) 0 Z.drew _ A1
    rw [setL_whole _ _ (by rw [hl.vlen e]; rfl)] at A2
    have A3 := At.set_ne (show w.heap.size ≠ w.heap.size + 1 by omega) (repV e l) 0 Z.drew A0
    have bY := below_setCells (show w.heap.size ≤ w.heap.size + 1 by omega) (repV e l) 0 _ bZ.drew
    refine wpAnyH_take (i := 0) (v := .agg (repV e l).toArray) rfl (by kernel_rfl) (by kernel_rfl) (by kernel_rfl) (fun _ _ _ h => h) (.inl ⟨rfl, fun w' hw' => ?_⟩) HS.out ?_
    · exact exec_load (load_rep hw' (hl.vlen e)) rfl
    refine wpAnyH_take (i := 1) (v := .pointer (some ⟨w.heap.size, 0, Option.none⟩)) rfl (by kernel_rfl) (by kernel_rfl) (by kernel_rfl) (fun _ _ _ h => h) (.inl ⟨rfl, fun w' hw' => ?_⟩) HS.out ?_
    · go_simp
    refine wpAnyH_take (i := 2) (v := .int .i64 (e)) rfl (by kernel_rfl) (by kernel_rfl) (by kernel_rfl) (fun _ _ _ h => h) (.inl ⟨rfl, fun w' hw' => ?_⟩) HS.out ?_
    · have hc : w'.cell? ⟨w.heap.size, 0, Option.none⟩ = some (.int .i64 (e)) := At.cell hw' 0
      go_simp
    refine wpAnyH_take (i := 3) (v := .int .i64 e) rfl (by kernel_rfl) (by kernel_rfl) (by kernel_rfl) (fun _ _ _ h => h) (.inl ⟨rfl, fun w' hw' => ?_⟩) HS.out ?_
    · go_simp
    refine wpAnyH_take (i := 4) (v := .bool (e == e)) rfl (by kernel_rfl) (by kernel_rfl) (by kernel_rfl) (fun _ _ _ h => h) (.inl ⟨rfl, fun w' hw' => ?_⟩) HS.out ?_
    · go_simp
    refine wpAnyH_all (rs := [5]) (by kernel_rfl) (by simp) ?_
    intro i hi
    obtain rfl : i = 5 := by simpa using hi
    refine wpOp_store hst rfl rfl rfl rfl ⟨A3, ?_⟩
    generalize Z.drew.setCells (w.heap.size + 1) 0 (repV e l) = Y at *
    refine wpAnyH_take (i := 6) (v := .bool (e == e)) rfl (by kernel_rfl) (by kernel_rfl) (by kernel_rfl) (fun _ _ _ h => h) (.inl ⟨rfl, fun w' hw' => ?_⟩) A3 ?_
    · go_simp
    refine wpAnyH_done (by kernel_rfl) ?_ _
    simp [Act.put]
    have HR : Hid ((Instr.loadAt 26 (.pointer (some ⟨w.heap.size + 1, 0, Option.none⟩))).run Try.prog Y = .ok (.agg (repV e l).toArray) Y) := load_rep A2 (hl.vlen e)
    go_wp2
    refine bodyPost_ret (ret_ra Try.results33 rfl HR.out) rfl ⟨by rw [HF.out]; first | rfl | simp, bY⟩
  · have hf' : (f == e - 1) = false := by simpa using hf
    have HF : Hid (fenF f e = f) := by show _ = _; simp [fenF, hf]
    clear hf
    go_enter Try.func33, Try.ntmps33
    go_upto_region 1 with fail
    rw [← hX]
    clear hX
    go_wp2_with fail
    obtain ⟨Z, rfl⟩ : ∃ Z, Z = X := ⟨_, rfl⟩
    have bZ := bX
    refine wp_region_held (S := fun w' => At w' w.heap.size (repV f l) 26) (by kernel_rfl) ?_
    have HS : Hid (At (Z.drew) w.heap.size (repV f l) 26) := A0
    have hst : (Instr.storeAt 26 (.pointer (some ⟨w.heap.size + 1, 0, Option.none⟩)) (.agg (repV f l).toArray)).run Try.prog Z.drew = .ok () (Z.drew.setCells (w.heap.size + 1) 0 (repV f l)) := store_rep (X := Z.drew) A1 rfl (hl.vlen f) (vone l f)
    have A2 := At.set (repV f l) 0 Z.drew _ A1
    rw [setL_whole _ _ (by rw [hl.vlen f]; rfl)] at A2
    have A3 := At.set_ne (show w.heap.size ≠ w.heap.size + 1 by omega) (repV f l) 0 Z.drew A0
    have bY := below_setCells (show w.heap.size ≤ w.heap.size + 1 by omega) (repV f l) 0 _ bZ.drew
    refine wpAnyH_take (i := 0) (v := .agg (repV f l).toArray) rfl (by kernel_rfl) (by kernel_rfl) (by kernel_rfl) (fun _ _ _ h => h) (.inl ⟨rfl, fun w' hw' => ?_⟩) HS.out ?_
    · exact exec_load (load_rep hw' (hl.vlen f)) rfl
    refine wpAnyH_take (i := 1) (v := .pointer (some ⟨w.heap.size, 0, Option.none⟩)) rfl (by kernel_rfl) (by kernel_rfl) (by kernel_rfl) (fun _ _ _ h => h) (.inl ⟨rfl, fun w' hw' => ?_⟩) HS.out ?_
    · go_simp
    refine wpAnyH_take (i := 2) (v := .int .i64 (f)) rfl (by kernel_rfl) (by kernel_rfl) (by kernel_rfl) (fun _ _ _ h => h) (.inl ⟨rfl, fun w' hw' => ?_⟩) HS.out ?_
    · have hc : w'.cell? ⟨w.heap.size, 0, Option.none⟩ = some (.int .i64 (f)) := At.cell hw' 0
      go_simp
    refine wpAnyH_take (i := 3) (v := .int .i64 e) rfl (by kernel_rfl) (by kernel_rfl) (by kernel_rfl) (fun _ _ _ h => h) (.inl ⟨rfl, fun w' hw' => ?_⟩) HS.out ?_
    · go_simp
    refine wpAnyH_take (i := 4) (v := .bool (f == e)) rfl (by kernel_rfl) (by kernel_rfl) (by kernel_rfl) (fun _ _ _ h => h) (.inl ⟨rfl, fun w' hw' => ?_⟩) HS.out ?_
    · go_simp
    refine wpAnyH_all (rs := [5]) (by kernel_rfl) (by simp) ?_
    intro i hi
    obtain rfl : i = 5 := by simpa using hi
    refine wpOp_store hst rfl rfl rfl rfl ⟨A3, ?_⟩
    generalize Z.drew.setCells (w.heap.size + 1) 0 (repV f l) = Y at *
    refine wpAnyH_take (i := 6) (v := .bool (f == e)) rfl (by kernel_rfl) (by kernel_rfl) (by kernel_rfl) (fun _ _ _ h => h) (.inl ⟨rfl, fun w' hw' => ?_⟩) A3 ?_
    · go_simp
    refine wpAnyH_done (by kernel_rfl) ?_ _
    simp [Act.put]
    have HR : Hid ((Instr.loadAt 26 (.pointer (some ⟨w.heap.size + 1, 0, Option.none⟩))).run Try.prog Y = .ok (.agg (repV f l).toArray) Y) := load_rep A2 (hl.vlen f)
    go_wp2
    refine bodyPost_ret (ret_ra Try.results33 rfl HR.out) rfl ⟨by rw [HF.out]; first | rfl | simp, bY⟩
end Go.Proofs.Yteebhmhjbgehjaa
