/- How a command that is handed in reads; the variables that are laid; the row's frame with both the laid variables and the world's shape. No statement of the seat is proved here. -/
import Derived.Test.YthkckogbjdbnnaaDoorTParse
import Derived.HandedShaped
import Derived.Stop.Joined
import Derived.LaidSub
import Derived.MakeChecks
import Derived.OpenShut
import Derived.ChangeOld
import Derived.LaidMore
namespace Go.Proofs.YthkckogbjdbnnaaDoor.K
open Go.ChangeShapes Go.WideShapes Go.ChangeAt Go.RowKit Go.Maps

theorem own : ownKnob Tryd.prog.godebug = Option.none := by kernel_rfl
theorem laidOut : laidOutB Tryd.prog = true := by kernel_rfl
theorem Tryd.cellsCmd : Tryd.prog.cellsOf 23 = 9 := by kernel_rfl
theorem Tryd.cellsI : Tryd.prog.cellsOf 3 = 1 := by kernel_rfl
theorem Tryd.cellsS : Tryd.prog.cellsOf 9 = 1 := by kernel_rfl
theorem Tryd.cellsB : Tryd.prog.cellsOf 4 = 1 := by kernel_rfl

section
variable {H : Type} {enc : TypeId × Value → H}
set_option maxRecDepth 100000 in
theorem open_command {W : World} {base : Nat} {v : Value} {d : DataW H} {ps : List MemPlace} (hv : Value.okWide Tryd.prog W .any base 23 v) (h : DataW.Trod enc Tryd.prog W 0 (fun _ => true) true 23 v d ps) :
    ∃ c : Cmd, v = .agg (cl c).toArray ∧ (Lit.int .i64 c.op).wf = true ∧ c.da.size ≤ 9223372036854775807 ∧ c.wa.size ≤ 9223372036854775807 := by
  obtain ⟨cs, rfl, hsz⟩ := okWide_struct Tryd.underlying23 hv
  rw [Tryd.cellsCmd] at hsz
  obtain ⟨cs⟩ := cs
  obtain ⟨fuel, hf⟩ := h
  have hml : maxLen ≤ 9223372036854775807 := by unfold maxLen; decide
  match cs, hsz with
  | [c0, c1, c2, c3, c4, c5, c6, c7, c8], _ =>
    obtain ⟨xs, m, _, _, _, hlen, hfld⟩ := DataW.trod_struct Tryd.underlying23 hf
    match xs, hlen with
    | [x0, x1, x2, x3, x4, x5, x6, x7, x8], _ =>
      have f0 := hfld 0 _ rfl
      have f1 := hfld 1 _ rfl
      have f2 := hfld 2 _ rfl
      have f3 := hfld 3 _ rfl
      have f4 := hfld 4 _ rfl
      have f5 := hfld 5 _ rfl
      have f6 := hfld 6 _ rfl
      have f7 := hfld 7 _ rfl
      have f8 := hfld 8 _ rfl
      simp [Value.cells, Tryd.cellsI, Tryd.cellsS, Tryd.cellsB] at f0 f1 f2 f3 f4 f5 f6 f7 f8
      obtain ⟨op, e0, _, wf0⟩ := DataW.trod_int Tryd.underlying3 f0
      obtain ⟨who, e1, _, _⟩ := DataW.trod_int Tryd.underlying3 f1
      obtain ⟨key, e2, _, _⟩ := DataW.trod_int Tryd.underlying3 f2
      obtain ⟨new, e3, _, _⟩ := DataW.trod_int Tryd.underlying3 f3
      obtain ⟨kind, e4, _, _⟩ := DataW.trod_int Tryd.underlying3 f4
      obtain ⟨at', e5, _, _⟩ := DataW.trod_int Tryd.underlying3 f5
      obtain ⟨st, e6, _⟩ := DataW.trod_bool Tryd.underlying4 f6
      obtain ⟨da, e7, _, z7⟩ := DataW.trod_string Tryd.underlying9 f7
      obtain ⟨wa, e8, _, z8⟩ := DataW.trod_string Tryd.underlying9 f8
      simp only [List.cons.injEq, and_true] at e0 e1 e2 e3 e4 e5 e6 e7 e8
      subst e0 e1 e2 e3 e4 e5 e6 e7 e8
      exact ⟨⟨op, who, key, new, kind, at', st, da, wa⟩, rfl, wf0, Nat.le_trans z7 hml, Nat.le_trans z8 hml⟩

/-- A row whose variables are laid, and whose world has its shape. -/
theorem lift_both {C : Checked} {os : Os} {f : FuncId} {fn : Func} {s : ChangeSpec} {apart fresh handsOn again : Bool} {laid : List (String × DataW Unit)}
    (hown : ownKnob C.prog.godebug = Option.none) (started : os.Started) (noInit : C.prog.inits.idxOf? f = Option.none) (hfn : C.prog.funcs[f]? = some fn)
    (witness : ∃ (w : World) (tape : Tape) (i : Input), w.os = os ∧ (w.forCall tape i).Shaped C.prog ∧ i.vars = [] ∧ Input.okWide C.prog (w.forCall tape i) .any w.heap.size f i ∧
      ((s.pre enc C.prog fn [] apart (w.forCall tape i).memory i.args ∧ laidMetH C.prog laid (w.forCall tape i).memory) ∧ sizedMet enc C.prog fn (OpenSpec.ofChange s) apart (w.forCall tape i).memory i.args) ∧ ({} : Assume).holds C.prog (lone (Frame.enter C.prog f i.args .normal) [] (w.forCall tape i)))
    (contract : ∀ (W : World) (base : Nat) (args : Array Value) (ds gs : List (DataW H)) (before : List MemPlace),
      (∀ (j : Nat) t v, fn.params[j]? = some t → args[j]? = some v → Value.okWide C.prog W .any base t v) → DataW.Whole enc C.prog fn.params.toList s.vars apart W args.toList ds gs before →
      laidMetH C.prog laid W → W.ShapedOpen C.prog →
      Calls C.prog f args W fun e W' => ∃ v, e = .returned v ∧ s.post enc C.prog fn apart fresh handsOn again W args v W') :
    ReturnsInHanded {} C os f .any (fun w args => (s.pre enc C.prog fn [] apart w args ∧ laidMetH C.prog laid w) ∧ sizedMet enc C.prog fn (OpenSpec.ofChange s) apart w args) (s.post enc C.prog fn apart fresh handsOn again) := by
  refine returnsInHanded_of_calls hown started noInit witness ?_
  intro w tape i _ hsh _ hok hpre _
  obtain ⟨_, _, _, fn', hfn', _, _, _, _, hval⟩ := hok
  obtain rfl : fn' = fn := Option.some.inj (hfn'.symm.trans hfn)
  obtain ⟨⟨⟨ds, gs, before, hw, _⟩, hx⟩, _⟩ := hpre
  have hx' : laidMetH C.prog laid (w.forCall tape i).memory := hx
  refine (contract (w.forCall tape i) w.heap.size i.args ds gs before hval (hw.of_heap (by rfl)) (hx'.of_heap (by rfl)) hsh).mono fun e W' ⟨v, he, hp⟩ => ?_
  subst he
  exact ChangeSpec.post_blind hp
end

set_option maxRecDepth 100000 in
theorem iface_cells {W : World} {fuel : Nat} {cs : List Value} {n : String} {d : DataW Unit} {p : List MemPlace} {ty : TypeId} {ms : TypeDesc} (ht : Tryd.prog.underlying ty = some ms) (hms : (match ms with | .interface _ => true | _ => false) = true)
    (h : DataW.trod (fun _ => ()) Tryd.prog W 0 (fun _ => true) false fuel ty cs = some (.iface n d, p)) : ∃ u v, cs = [.iface u v] := by
  cases fuel with
  | zero => simp [DataW.trod] at h
  | succ m =>
    unfold DataW.trod at h
    rw [ht] at h
    split at h <;> simp_all
theorem sentinel {W : World} {nm : String} {n : String} {d : DataW Unit} {g : Nat} {ty : TypeId} {ms : TypeDesc} (hg : Tryd.prog.globalNamed nm = some g) (hty : (Tryd.prog.globals[g]?).map (·.type) = some ty) (ht : Tryd.prog.underlying ty = some ms) (hms : (match ms with | .interface _ => true | _ => false) = true)
    (h : laidMet Tryd.prog [(nm, .iface n d)] W) : ∃ t p, W.var? Tryd.prog nm = some #[.iface t p] := by
  obtain ⟨ps, ⟨g', t', cs, fuel, p, q, hg', ht', hvar, hd, _, _⟩, _⟩ := h
  obtain rfl := Option.some.inj (hg.symm.trans hg')
  obtain rfl := Option.some.inj (hty.symm.trans ht')
  obtain ⟨u, v, e⟩ := iface_cells ht hms hd
  obtain ⟨cs⟩ := cs
  simp only at e
  subst e
  exact ⟨u, v, hvar⟩
theorem maxlen {W : World} (h : W.ShapedOpen Tryd.prog) : ∃ m, W.var? Tryd.prog "internal/bytealg.MaxLen" = some #[.int .i64 m] := by
  have hg : Tryd.prog.globalNamed "internal/bytealg.MaxLen" = some 1 := by kernel_rfl
  have hz : 1 < Tryd.prog.globals.size := of_decide_eq_true (by kernel_rfl)
  have h0 : ((begin Tryd.prog (fun _ _ => 0) default).world.heap[1]?).bind Obj.row? = some (#[.int .i64 0], 3) := by kernel_rfl
  obtain ⟨m, hm⟩ := Go.Proofs.cell_of_shapedOpen_int h hz h0 rfl (by kernel_rfl) (by kernel_rfl) Tryd.underlying3
  obtain ⟨cs, hh, hs, _⟩ := h.1 1 _ _ hz h0
  refine ⟨m, ?_⟩
  unfold World.var?
  rw [hg]
  simp only [Option.bind_some, hh]
  obtain ⟨cs⟩ := cs
  match cs, hs with
  | [v], _ =>
    have : W.cell? ⟨1, 0, Option.none⟩ = some v := by simp [World.cell?, hh]
    rw [this] at hm
    rw [Option.some.inj hm]
end Go.Proofs.YthkckogbjdbnnaaDoor.K
