/- When two replicas are the same; how one that is handed in reads; what New hands back. No statement of the seat is proved here. -/
import Derived.Test.YteebhmhjbgehjaaGAdmit
import Derived.ChangeKeysEq
namespace Go.Proofs.Yteebhmhjbgehjaa
open Go.ChangeShapes Go.WideShapes Go.ChangeAt Go.RowKit Go.Deep

theorem own : ownKnob Try.prog.godebug = Option.none := by kernel_rfl
theorem laidOut : laidOutB Try.prog = true := by kernel_rfl
theorem Try.cellsRep : Try.prog.cellsOf 26 = 25 := by kernel_rfl
theorem Try.cellsArr : Try.prog.cellsOf 24 = 24 := by kernel_rfl
theorem Try.cellsCel : Try.prog.cellsOf 23 = 3 := by kernel_rfl
theorem Try.cellsInt : Try.prog.cellsOf 3 = 1 := by kernel_rfl
theorem Try.cellsStr : Try.prog.cellsOf 9 = 1 := by kernel_rfl
theorem eqg26 : Try.prog.eqGuardType Try.prog.depth 26 = false := by kernel_rfl

def eqCel (a b : Cel) : Bool := a.e == b.e && (a.n == b.n && a.d.toList == b.d.toList)
def eqL : List Cel → List Cel → Bool
  | a :: l, b :: l' => eqCel a b && eqL l l'
  | _, _ => true
def eqRep (f : Int) (l : List Cel) (f' : Int) (l' : List Cel) : Bool := f == f' && eqL l l'
theorem eqCel_refl (a : Cel) : eqCel a a = true := by simp [eqCel]
theorem eqL_refl : ∀ l, eqL l l = true
  | [] => rfl
  | a :: l => by simp [eqL, eqCel_refl, eqL_refl l]
theorem eqRep_refl (f : Int) (l : List Cel) : eqRep f l f l = true := by simp [eqRep, eqL_refl]

theorem part_cel (w : World) (pre : List Cel) (c : Cel) (l : List Cel) : (part 23 (cells8 (pre ++ c :: l)).toArray (pre.length * 3)).run Try.prog w = .ok (.agg #[.int .i64 c.e, .int .i64 c.n, .string c.d]) w := by
  have e : ((cells8 (pre ++ c :: l)).toArray.extract (pre.length * 3) (pre.length * 3 + 3)) = #[.int .i64 c.e, .int .i64 c.n, .string c.d] := by
    rw [List.extract_toArray, List.extract_eq_take_drop, show cells8 (pre ++ c :: l) = cells8 pre ++ (c.vs ++ cells8 l) by simp [cells8]]
    rw [List.drop_left' (by rw [cells8_len]; omega), show pre.length * 3 + 3 - pre.length * 3 = 3 by omega]
    rfl
  obtain ⟨i, hi, hs⟩ : ∃ i, Try.prog.info? 23 = some i ∧ i.size = 3 := by
    have := sz23
    cases h : Try.prog.info? 23 with
    | none => rw [h] at this; cases this
    | some i => rw [h] at this; exact ⟨i, rfl, by simpa using this⟩
  have hagg : (isAgg 23).run Try.prog w = .ok true w := by
    unfold isAgg; rw [Sem.run_bind, run_underlying Try.underlying23 w]; rfl
  have hsz : (sizeOf 23).run Try.prog w = .ok 3 w := by simp [sizeOf, typeInfo, hi, hs]
  simp only [part, Sem.run_bind, hagg, Result.andThen_ok, if_true, hsz, Sem.run_pure, e]
theorem run_eq_cel (d : Nat) (a b : Cel) (w : World) : (Op.equalIn (d + 2) 23 (.agg #[.int .i64 a.e, .int .i64 a.n, .string a.d]) (.agg #[.int .i64 b.e, .int .i64 b.n, .string b.d])).run Try.prog w = .ok (eqCel a b) w := by
  simp only [eqCel]
  by_cases h0 : a.e = b.e <;> by_cases h1 : a.n = b.n <;> by_cases h2 : a.d.toList = b.d.toList <;> simp [go_sem, h0, h1, h2]
theorem run_items (d : Nat) (w : World) : ∀ (l l' pre pre' : List Cel), pre.length = pre'.length → l.length = l'.length →
    (Op.eqItems (d + 2) 23 3 (cells8 (pre ++ l)).toArray (cells8 (pre' ++ l')).toArray (List.range' pre.length l.length)).run Try.prog w = .ok (eqL l l') w
  | [], [], _, _, _, _ => by simp [Op.eqItems, eqL]
  | [], _ :: _, _, _, _, h => by simp at h
  | _ :: _, [], _, _, _, h => by simp at h
  | a :: l, b :: l', pre, pre', hp, hl => by
    have ih := run_items d w l l' (pre ++ [a]) (pre' ++ [b]) (by simp [hp]) (by simpa using hl)
    simp only [List.append_assoc, List.singleton_append, List.length_append, List.length_singleton] at ih
    simp only [List.length_cons, List.range'_succ, Op.eqItems, Sem.run_bind, part_cel, Result.andThen_ok]
    rw [hp, part_cel]
    simp only [Result.andThen_ok, run_eq_cel]
    rw [← hp]
    cases h : eqCel a b with
    | false => simp [eqL, h]
    | true => simp only [Bool.not_true, Bool.false_eq_true, if_false, eqL, h, Bool.true_and]; exact ih
theorem run_eq_arr (d : Nat) (l l' : List Cel) (w : World) (h : RepOK l) (h' : RepOK l') : (Op.equalIn (d + 3) 24 (.agg (cells8 l).toArray) (.agg (cells8 l').toArray)).run Try.prog w = .ok (eqL l l') w := by
  obtain ⟨i, hi⟩ : ∃ i, Try.prog.info? 23 = some i := by
    have := sz23
    cases h : Try.prog.info? 23 with
    | none => rw [h] at this; cases this
    | some i => exact ⟨i, rfl⟩
  rw [run_equalIn_array w _ _ _ Try.underlying24 hi, Try.cellsCel]
  have := run_items d w l l' [] [] rfl (by rw [h.len, h'.len])
  rwa [h.len, List.nil_append, List.nil_append, List.length_nil, ← List.range_eq_range'] at this

section
variable {H : Type} {enc : TypeId × Value → H}
theorem open_cel_cs {W : World} {fuel : Nat} {cs : List Value} {x : DataW H × List MemPlace} (hf : DataW.trod enc Try.prog W 0 (fun _ => true) true fuel 23 cs = some x) : ∃ c : Cel, cs = c.vs := by
  obtain ⟨xs, m, _, _, hc, hlen, hfld⟩ := DataW.trod_struct Try.underlying23 hf
  rw [Try.cellsCel] at hc
  match cs, hc, xs, hlen with
  | [c0, c1, c2], _, [x0, x1, x2], _ =>
    have f0 := hfld 0 _ rfl
    have f1 := hfld 1 _ rfl
    have f2 := hfld 2 _ rfl
    simp [Try.cellsInt, Try.cellsStr] at f0 f1 f2
    obtain ⟨e, e0, _, _⟩ := DataW.trod_int Try.underlying3 f0
    obtain ⟨n, e1, _, _⟩ := DataW.trod_int Try.underlying3 f1
    obtain ⟨d, e2, _, _⟩ := DataW.trod_string Try.underlying9 f2
    simp only [List.cons.injEq, and_true] at e0 e1 e2
    subst e0 e1 e2
    exact ⟨⟨e, n, d⟩, rfl⟩
theorem open_cel {W : World} {base : Nat} {v : Value} {d : DataW H} {ps : List MemPlace} (hv : Value.okWide Try.prog W .any base 23 v) (h : DataW.Trod enc Try.prog W 0 (fun _ => true) true 23 v d ps) :
    ∃ c : Cel, v = .agg #[.int .i64 c.e, .int .i64 c.n, .string c.d] := by
  obtain ⟨cs, rfl, hsz⟩ := okWide_struct Try.underlying23 hv
  obtain ⟨cs⟩ := cs
  obtain ⟨fuel, hf⟩ := h
  obtain ⟨c, hc⟩ := open_cel_cs hf
  exact ⟨c, by simp [Value.cells] at hc; subst hc; rfl⟩
set_option maxHeartbeats 2000000 in
theorem open_rep {W : World} {base : Nat} {v : Value} {d : DataW H} {ps : List MemPlace} (hv : Value.okWide Try.prog W .any base 26 v) (h : DataW.Trod enc Try.prog W 0 (fun _ => true) true 26 v d ps) :
    ∃ f l, v = .agg (repV f l).toArray ∧ RepOK l := by
  obtain ⟨cs, rfl, hsz⟩ := okWide_struct Try.underlying26 hv
  rw [Try.cellsRep] at hsz
  obtain ⟨cs⟩ := cs
  obtain ⟨fuel, hf⟩ := h
  match cs, hsz with
  | [c0, c1, c2, c3, c4, c5, c6, c7, c8, c9, c10, c11, c12, c13, c14, c15, c16, c17, c18, c19, c20, c21, c22, c23, c24], _ =>
    obtain ⟨xs, m, _, _, _, hlen, hfld⟩ := DataW.trod_struct Try.underlying26 hf
    match xs, hlen with
    | [x0, x1], _ =>
    have f0 := hfld 0 _ rfl
    have f1 := hfld 1 _ rfl
    simp only [Value.cells] at f0 f1
    obtain ⟨f, ef, _, _⟩ := DataW.trod_int Try.underlying3 (show DataW.trod enc Try.prog W 0 (fun _ => true) true _ 3 [c0] = _ from f0)
    simp only [List.cons.injEq, and_true] at ef
    obtain rfl := ef
    obtain ⟨ys, m', _, _, _, hlen', hi⟩ := DataW.trod_array Try.underlying24 (show DataW.trod enc Try.prog W 0 (fun _ => true) true _ 24 [c1, c2, c3, c4, c5, c6, c7, c8, c9, c10, c11, c12, c13, c14, c15, c16, c17, c18, c19, c20, c21, c22, c23, c24] = _ from f1)
    match ys, hlen' with
    | [y0, y1, y2, y3, y4, y5, y6, y7], _ =>
    have g0 := hi 0 (by decide)
    simp only [Try.cellsCel] at g0
    obtain ⟨k0, e0⟩ := open_cel_cs (show DataW.trod enc Try.prog W 0 (fun _ => true) true _ 23 [c1, c2, c3] = _ from g0)
    simp only [Cel.vs, List.cons.injEq, and_true] at e0
    obtain ⟨rfl, rfl, rfl⟩ := e0
    have g1 := hi 1 (by decide)
    simp only [Try.cellsCel] at g1
    obtain ⟨k1, e1⟩ := open_cel_cs (show DataW.trod enc Try.prog W 0 (fun _ => true) true _ 23 [c4, c5, c6] = _ from g1)
    simp only [Cel.vs, List.cons.injEq, and_true] at e1
    obtain ⟨rfl, rfl, rfl⟩ := e1
    have g2 := hi 2 (by decide)
    simp only [Try.cellsCel] at g2
    obtain ⟨k2, e2⟩ := open_cel_cs (show DataW.trod enc Try.prog W 0 (fun _ => true) true _ 23 [c7, c8, c9] = _ from g2)
    simp only [Cel.vs, List.cons.injEq, and_true] at e2
    obtain ⟨rfl, rfl, rfl⟩ := e2
    have g3 := hi 3 (by decide)
    simp only [Try.cellsCel] at g3
    obtain ⟨k3, e3⟩ := open_cel_cs (show DataW.trod enc Try.prog W 0 (fun _ => true) true _ 23 [c10, c11, c12] = _ from g3)
    simp only [Cel.vs, List.cons.injEq, and_true] at e3
    obtain ⟨rfl, rfl, rfl⟩ := e3
    have g4 := hi 4 (by decide)
    simp only [Try.cellsCel] at g4
    obtain ⟨k4, e4⟩ := open_cel_cs (show DataW.trod enc Try.prog W 0 (fun _ => true) true _ 23 [c13, c14, c15] = _ from g4)
    simp only [Cel.vs, List.cons.injEq, and_true] at e4
    obtain ⟨rfl, rfl, rfl⟩ := e4
    have g5 := hi 5 (by decide)
    simp only [Try.cellsCel] at g5
    obtain ⟨k5, e5⟩ := open_cel_cs (show DataW.trod enc Try.prog W 0 (fun _ => true) true _ 23 [c16, c17, c18] = _ from g5)
    simp only [Cel.vs, List.cons.injEq, and_true] at e5
    obtain ⟨rfl, rfl, rfl⟩ := e5
    have g6 := hi 6 (by decide)
    simp only [Try.cellsCel] at g6
    obtain ⟨k6, e6⟩ := open_cel_cs (show DataW.trod enc Try.prog W 0 (fun _ => true) true _ 23 [c19, c20, c21] = _ from g6)
    simp only [Cel.vs, List.cons.injEq, and_true] at e6
    obtain ⟨rfl, rfl, rfl⟩ := e6
    have g7 := hi 7 (by decide)
    simp only [Try.cellsCel] at g7
    obtain ⟨k7, e7⟩ := open_cel_cs (show DataW.trod enc Try.prog W 0 (fun _ => true) true _ 23 [c22, c23, c24] = _ from g7)
    simp only [Cel.vs, List.cons.injEq, and_true] at e7
    obtain ⟨rfl, rfl, rfl⟩ := e7
    exact ⟨f, [k0, k1, k2, k3, k4, k5, k6, k7], rfl, ⟨rfl⟩⟩
end

def zero8 : List Cel := List.replicate 8 ⟨0, 0, ⟨#[]⟩⟩
theorem zero8_ok : RepOK zero8 := ⟨rfl⟩
theorem z25_is : z25 = repV 0 zero8 := rfl
theorem one_new (w : World) (vs : List Value) (hv : vs.length = 25) (h1 : ∀ v ∈ vs, v.oneCell' = true) : ∃ Y, (Instr.storeAt 26 (.pointer (some ⟨w.heap.size, 0, Option.none⟩)) (.agg vs.toArray)).run Try.prog (w.alloc (.cells z25.toArray 26)) = .ok () Y ∧
    At Y w.heap.size vs 26 ∧ Below w.heap.size w Y ∧ Y.heap.size = w.heap.size + 1 := by
  have A : At (w.alloc (.cells z25.toArray 26)) w.heap.size z25 26 := heap_alloc_new w _
  refine ⟨_, store_rep A rfl hv h1, ?_, below_setCells (Nat.le_refl _) _ _ _ ((Below.refl _ _).alloc (Nat.le_refl _) _), ?_⟩
  · have := At.set vs 0 _ _ A
    rwa [setL_whole _ _ (by rw [hv]; rfl)] at this
  · rw [size_setCells]; simp
theorem new_any (w : World) : Calls Try.prog 8 #[] w fun r w' => r = .returned (.agg (repV 1 zero8).toArray) ∧ Below w.heap.size w w' := by
  obtain ⟨Y, hst, AY, bY, _⟩ := one_new w (repV 1 zero8) rfl (vone zero8 1)
  have HS : Hid ((Instr.storeAt 26 (.pointer (some ⟨w.heap.size, 0, Option.none⟩)) (.agg (repV 1 zero8).toArray)).run Try.prog (w.alloc (.cells z25.toArray 26)) = .ok () Y) := hst
  have HL : Hid ((Instr.loadAt 26 (.pointer (some ⟨w.heap.size, 0, Option.none⟩))).run Try.prog Y = .ok (.agg (repV 1 zero8).toArray) Y) := load_rep AY rfl
  clear hst AY
  go_enter Try.func8, Try.ntmps8
  go_wp2_with (refine wl_store HS.out rfl rfl ?_)
  refine bodyPost_ret (ret_one Try.results8 rfl HL.out) rfl ⟨rfl, bY⟩
end Go.Proofs.Yteebhmhjbgehjaa
