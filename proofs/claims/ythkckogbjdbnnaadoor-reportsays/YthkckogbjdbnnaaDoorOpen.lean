/- How a State that is handed in reads: its five cells, and the row of registrations behind its slice. -/
import Derived.Test.YthkckogbjdbnnaaDoorRights
namespace Go.Proofs.YthkckogbjdbnnaaDoor
open Go.ChangeShapes Go.WideShapes Go.ChangeAt Go.RowKit Go.Deep

theorem Tryd.cellsState : Tryd.prog.cellsOf 44 = 5 := by kernel_rfl
theorem Tryd.cellsRegs : Tryd.prog.cellsOf 42 = 1 := by kernel_rfl
theorem Tryd.cellsReg : Tryd.prog.cellsOf 78 = 2 := by kernel_rfl
theorem Tryd.cellsInt : Tryd.prog.cellsOf 3 = 1 := by kernel_rfl
theorem Tryd.cellsBool : Tryd.prog.cellsOf 4 = 1 := by kernel_rfl

theorem own : ownKnob Tryd.prog.godebug = Option.none := by kernel_rfl
theorem laidOut : laidOutB Tryd.prog = true := by kernel_rfl

section
variable {H : Type} {enc : TypeId × Value → H}

theorem addr_add (b off k : Nat) : (⟨b, off, Option.none⟩ : Addr).add k = ⟨b, off + k, Option.none⟩ := by
  cases k <;> simp [Addr.add]

theorem open_regs {W : World} {fuel : Nat} {cs : List Value} {x : DataW H × List MemPlace} (h : DataW.trod enc Tryd.prog W 0 (fun _ => true) true fuel 42 cs = some x) :
    ∃ a n c l, cs = [.slice a n c] ∧ Row W a n l := by
  rcases open_slice_pairs Tryd.underlying42 Tryd.underlying78 Tryd.cellsReg rfl rfl Tryd.cellsInt Tryd.cellsInt h with ⟨rfl, _⟩ | ⟨a, len, cap, m, n, V0, V1, D0, D1, P0, P1, rfl, _, hl, hm, hmm, _, hx⟩
  · exact ⟨Option.none, 0, 0, [], rfl, rfl, by decide, fun h => absurd rfl h⟩
  · have hlm : len ≤ m := by rw [hmm]; simpa using hl
    have each : ∀ i, i < len → ∃ q : Int × Int, W.cell? (a.add (i * 2)) = some (.int .i64 q.1) ∧ W.cell? (a.add (i * 2 + 1)) = some (.int .i64 q.2) := by
      intro i hi
      obtain ⟨e0, e1, t0, t1⟩ := hx i (by omega)
      obtain ⟨n0, h0, _, _⟩ := DataW.trod_int Tryd.underlying3 t0
      obtain ⟨n1, h1, _, _⟩ := DataW.trod_int Tryd.underlying3 t1
      simp only [List.cons.injEq, and_true] at h0 h1
      exact ⟨(n0, n1), by rw [e0, h0], by rw [e1, h1]⟩
    obtain ⟨q, hq⟩ := choose_lt each
    have hml : maxLen ≤ 9223372036854775807 := by unfold maxLen; decide
    refine ⟨some a, len, cap, (List.range len).map q, rfl, by simp, by omega, fun hn => ?_⟩
    obtain ⟨b, off, spot⟩ := a
    have hs : spot = Option.none := by simpa [Addr.add] using World.cell?_spot (hq 0 (by omega)).1
    subst hs
    refine ⟨b, off, rfl, fun i hi => ?_⟩
    have hi' : i < len := by simpa using hi
    have := hq i hi'
    rw [addr_add, addr_add] at this
    simpa [Nat.add_assoc] using this

set_option maxRecDepth 100000 in
theorem open_state {W : World} {base : Nat} {v : Value} {d : DataW H} {ps : List MemPlace} (hv : Value.okWide Tryd.prog W .any base 44 v) (h : DataW.Trod enc Tryd.prog W 0 (fun _ => true) true 44 v d ps) :
    ∃ g a n c t hd y l, v = .agg #[.int .i64 g, .slice a n c, .int .i64 t, .int .i64 hd, .bool y] ∧ Row W a n l := by
  obtain ⟨cs, rfl, hsz⟩ := okWide_struct Tryd.underlying44 hv
  rw [Tryd.cellsState] at hsz
  obtain ⟨cs⟩ := cs
  obtain ⟨fuel, hf⟩ := h
  match cs, hsz with
  | [c0, c1, c2, c3, c4], _ =>
    obtain ⟨xs, m, _, _, _, hlen, hfld⟩ := DataW.trod_struct Tryd.underlying44 hf
    match xs, hlen with
    | [x0, x1, x2, x3, x4], _ =>
      have f0 := hfld 0 _ rfl
      have f1 := hfld 1 _ rfl
      have f2 := hfld 2 _ rfl
      have f3 := hfld 3 _ rfl
      have f4 := hfld 4 _ rfl
      simp [Value.cells, Tryd.cellsInt, Tryd.cellsRegs, Tryd.cellsBool] at f0 f1 f2 f3 f4
      obtain ⟨g, e0, _, _⟩ := DataW.trod_int Tryd.underlying3 f0
      obtain ⟨a, n, c, l, e1, hrow⟩ := open_regs f1
      obtain ⟨t, e2, _, _⟩ := DataW.trod_int Tryd.underlying3 f2
      obtain ⟨hd, e3, _, _⟩ := DataW.trod_int Tryd.underlying3 f3
      obtain ⟨y, e4, _⟩ := DataW.trod_bool Tryd.underlying4 f4
      simp only [List.cons.injEq, and_true] at e0 e1 e2 e3 e4
      subst e0 e1 e2 e3 e4
      exact ⟨g, a, n, c, t, hd, y, l, rfl, hrow⟩
end
end Go.Proofs.YthkckogbjdbnnaaDoor
