/- Acts that are handed in: their cells, and how a row of them reads. No statement of the seat is proved here. -/
import Derived.Test.YtfkmaiiainbcbaaGreatDoorRows
import Derived.WalkKit
import Derived.WalkSpells
import Derived.WalkLawsBesides
import Derived.ProofKit
import Derived.OpenShut
import Derived.ChangeOld
import Derived.Deep.SlicePairs
import Derived.Deep.Fields
import Derived.Deep.QuietTactic
import Derived.BigQuiet
import Derived.Deep.MidRow
namespace Go.Proofs.YtfkmaiiainbcbaaGreatDoor.D
open Go.ChangeShapes Go.WideShapes Go.ChangeAt Go.RowKit Go.Deep

/-- What is done to a disk, a keeper, a group or a target. -/
structure ActD where
  kind : ByteArray
  a : Int
  b : Int
  s : ByteArray
  k : Int
  gen : Int
  ra : Option Addr
  rn : Nat
  rc : Nat
  regs : List (Int × Int)
  ty : Int
  hd : Int
  st : Bool
  op : Int
  who : Int
  key : Int
  new : Int
  cty : Int
  at' : Int
  cst : Bool
  da : ByteArray
  wa : ByteArray
instance : Inhabited ActD := ⟨⟨⟨#[]⟩, 0, 0, ⟨#[]⟩, 0, 0, Option.none, 0, 0, [], 0, 0, false, 0, 0, 0, 0, 0, 0, false, ⟨#[]⟩, ⟨#[]⟩⟩⟩
def ActD.vs (x : ActD) : List Value := [.string x.kind, .int .i64 x.a, .int .i64 x.b, .string x.s, .int .u64 x.k, .int .i64 x.gen, .slice x.ra x.rn x.rc, .int .i64 x.ty, .int .i64 x.hd, .bool x.st, .int .i64 x.op, .int .i64 x.who, .int .i64 x.key, .int .i64 x.new, .int .i64 x.cty, .int .i64 x.at', .bool x.cst, .string x.da, .string x.wa]
/-- A row of registrations in memory. -/
def RegsAt (w : World) (a : Option Addr) (n : Nat) (l : List (Int × Int)) : Prop :=
  l.length = n ∧ n ≤ 9223372036854775807 ∧ (n ≠ 0 → ∃ b off, a = some ⟨b, off, none⟩ ∧ ∀ i (h : i < l.length), w.cell? ⟨b, off + i * 2, none⟩ = some (.int .i64 l[i].1) ∧ w.cell? ⟨b, off + i * 2 + 1, none⟩ = some (.int .i64 l[i].2))
theorem RegsAt.later {w w' : World} {a : Option Addr} {n : Nat} {l : List (Int × Int)} (h : RegsAt w a n l) (hb : Below w.heap.size w w') : RegsAt w' a n l := by
  refine ⟨h.1, h.2.1, fun hn => ?_⟩
  obtain ⟨b, off, ha, hc⟩ := h.2.2 hn
  exact ⟨b, off, ha, fun i hi => ⟨cell_later hb (hc i hi).1, cell_later hb (hc i hi).2⟩⟩
structure ActD.OK (W : World) (x : ActD) : Prop where
  kindz : x.kind.size ≤ 9223372036854775807
  sz : x.s.size ≤ 9223372036854775807
  kwf : (Lit.int .u64 x.k).wf = true
  row : RegsAt W x.ra x.rn x.regs
  daz : x.da.size ≤ 9223372036854775807
  waz : x.wa.size ≤ 9223372036854775807
  awf : (Lit.int .i64 x.a).wf = true
  bwf : (Lit.int .i64 x.b).wf = true
theorem ActD.OK.later {W W' : World} {x : ActD} (h : x.OK W) (hb : Below W.heap.size W W') : x.OK W' := ⟨h.kindz, h.sz, h.kwf, h.row.later hb, h.daz, h.waz, h.awf, h.bwf⟩
/-- A row of acts in memory. -/
structure Acts (W : World) (a : Option Addr) (n : Nat) (l : List ActD) : Prop where
  len : l.length = n
  max : n ≤ 9223372036854775807
  ok : ∀ x ∈ l, x.OK W
  row : n ≠ 0 → ∃ b off, a = some ⟨b, off, none⟩ ∧ ∀ i (h : i < l.length), W.rangeAt b (off + i * 19) l[i].vs
theorem rangeAt_later {W W' : World} {b o : Nat} {cs : List Value} (h : W.rangeAt b o cs) (hb : Below W.heap.size W W') : W'.rangeAt b o cs := fun j v hv => cell_later hb (h j v hv)
theorem Acts.later {W W' : World} {a : Option Addr} {n : Nat} {l : List ActD} (h : Acts W a n l) (hb : Below W.heap.size W W') : Acts W' a n l := by
  refine ⟨h.len, h.max, fun x hx => (h.ok x hx).later hb, fun hn => ?_⟩
  obtain ⟨b, off, ha, hc⟩ := h.row hn
  exact ⟨b, off, ha, fun i hi => rangeAt_later (hc i hi) hb⟩

theorem Tryz.cellsActA : Tryz.prog.cellsOf 42 = 19 := by kernel_rfl
theorem Tryz.cellsStateA : Tryz.prog.cellsOf 37 = 5 := by kernel_rfl
theorem Tryz.cellsCommandA : Tryz.prog.cellsOf 40 = 9 := by kernel_rfl
theorem Tryz.cellsRegsA : Tryz.prog.cellsOf 35 = 1 := by kernel_rfl
theorem Tryz.cellsRegA : Tryz.prog.cellsOf 73 = 2 := by kernel_rfl
theorem Tryz.cellsIntA : Tryz.prog.cellsOf 3 = 1 := by kernel_rfl
theorem Tryz.cellsBoolA : Tryz.prog.cellsOf 4 = 1 := by kernel_rfl
theorem Tryz.cellsStringA : Tryz.prog.cellsOf 9 = 1 := by kernel_rfl
theorem Tryz.cellsU64A : Tryz.prog.cellsOf 38 = 1 := by kernel_rfl

section
variable {H : Type} {enc : TypeId × Value → H}
theorem addr_addA (b off k : Nat) : (⟨b, off, Option.none⟩ : Addr).add k = ⟨b, off + k, Option.none⟩ := by
  cases k <;> simp [Addr.add]

theorem open_regsA {W : World} {fuel : Nat} {cs : List Value} {x : DataW H × List MemPlace} (h : DataW.trod enc Tryz.prog W 0 (fun _ => true) true fuel 35 cs = some x) :
    ∃ a n c l, cs = [.slice a n c] ∧ RegsAt W a n l := by
  rcases open_slice_pairs Tryz.underlying35 Tryz.underlying73 Tryz.cellsRegA rfl rfl Tryz.cellsIntA Tryz.cellsIntA h with ⟨rfl, _⟩ | ⟨a, len, cap, m, n, V0, V1, D0, D1, P0, P1, rfl, _, hl, hm, hmm, _, hx⟩
  · exact ⟨Option.none, 0, 0, [], rfl, rfl, by decide, fun h => absurd rfl h⟩
  · have hlm : len ≤ m := by rw [hmm]; simpa using hl
    have each : ∀ i, i < len → ∃ q : Int × Int, W.cell? (a.add (i * 2)) = some (.int .i64 q.1) ∧ W.cell? (a.add (i * 2 + 1)) = some (.int .i64 q.2) := by
      intro i hi
      obtain ⟨e0, e1, t0, t1⟩ := hx i (by omega)
      obtain ⟨n0, h0, _, _⟩ := DataW.trod_int Tryz.underlying3 t0
      obtain ⟨n1, h1, _, _⟩ := DataW.trod_int Tryz.underlying3 t1
      simp only [List.cons.injEq, and_true] at h0 h1
      exact ⟨(n0, n1), by rw [e0, h0], by rw [e1, h1]⟩
    obtain ⟨q, hq⟩ := choose_lt each
    have hml : maxLen ≤ 9223372036854775807 := by unfold maxLen; decide
    refine ⟨some a, len, cap, (List.range len).map q, rfl, by simp, by omega, fun hn => ?_⟩
    obtain ⟨b, off, spot⟩ := a
    have hs : spot = Option.none := by simpa [Addr.add] using World.cell?_spot (hq 0 (by omega)).1
    subst hs
    refine ⟨b, off, rfl, fun i hi => ?_⟩
    have hi' : i < len := by simpa using hi
    have := hq i hi'
    rw [addr_addA, addr_addA] at this
    simpa [Nat.add_assoc] using this

set_option maxRecDepth 100000 in
theorem open_actcells {W : World} {fuel : Nat} {cs : List Value} {x : DataW H × List MemPlace} (h : DataW.trod enc Tryz.prog W 0 (fun _ => true) true fuel 42 cs = some x) :
    ∃ y : ActD, cs = y.vs ∧ y.OK W := by
  have hml : maxLen ≤ 9223372036854775807 := by unfold maxLen; decide
  obtain ⟨xs, m, _, _, hcl, hlen, hfld⟩ := DataW.trod_struct Tryz.underlying42 h
  rw [Tryz.cellsActA] at hcl
  match cs, hcl with
  | [c0, c1, c2, c3, c4, c5, c6, c7, c8, c9, c10, c11, c12, c13, c14, c15, c16, c17, c18], _ =>
    match xs, hlen with
    | [x0, x1, x2, x3, x4, x5, x6], _ =>
      have f0 := hfld 0 _ rfl
      have f1 := hfld 1 _ rfl
      have f2 := hfld 2 _ rfl
      have f3 := hfld 3 _ rfl
      have f4 := hfld 4 _ rfl
      have f5 := hfld 5 _ rfl
      have f6 := hfld 6 _ rfl
      simp [Tryz.cellsIntA, Tryz.cellsStringA, Tryz.cellsU64A, Tryz.cellsStateA, Tryz.cellsCommandA] at f0 f1 f2 f3 f4 f5 f6
      obtain ⟨kind, e0, _, z0⟩ := DataW.trod_string Tryz.underlying9 f0
      obtain ⟨a, e1, _, w1⟩ := DataW.trod_int Tryz.underlying3 f1
      obtain ⟨b, e2, _, w2⟩ := DataW.trod_int Tryz.underlying3 f2
      obtain ⟨s, e3, _, z3⟩ := DataW.trod_string Tryz.underlying9 f3
      obtain ⟨k, e4, _, wk⟩ := DataW.trod_int Tryz.underlying38 f4
      obtain ⟨ys, m5, _, _, _, hlen5, hfld5⟩ := DataW.trod_struct Tryz.underlying37 f5
      match ys, hlen5 with
      | [y0, y1, y2, y3, y4], _ =>
        have g0 := hfld5 0 _ rfl
        have g1 := hfld5 1 _ rfl
        have g2 := hfld5 2 _ rfl
        have g3 := hfld5 3 _ rfl
        have g4 := hfld5 4 _ rfl
        simp [Tryz.cellsIntA, Tryz.cellsRegsA, Tryz.cellsBoolA] at g0 g1 g2 g3 g4
        obtain ⟨gen, e5, _, _⟩ := DataW.trod_int Tryz.underlying3 g0
        obtain ⟨ra, rn, rc, regs, e6, hrow⟩ := open_regsA g1
        obtain ⟨ty, e7, _, _⟩ := DataW.trod_int Tryz.underlying3 g2
        obtain ⟨hd, e8, _, _⟩ := DataW.trod_int Tryz.underlying3 g3
        obtain ⟨st, e9, _⟩ := DataW.trod_bool Tryz.underlying4 g4
        obtain ⟨zs, m6, _, _, _, hlen6, hfld6⟩ := DataW.trod_struct Tryz.underlying40 f6
        match zs, hlen6 with
        | [z0', z1', z2', z3', z4', z5', z6', z7', z8'], _ =>
          have k0 := hfld6 0 _ rfl
          have k1 := hfld6 1 _ rfl
          have k2 := hfld6 2 _ rfl
          have k3 := hfld6 3 _ rfl
          have k4 := hfld6 4 _ rfl
          have k5 := hfld6 5 _ rfl
          have k6 := hfld6 6 _ rfl
          have k7 := hfld6 7 _ rfl
          have k8 := hfld6 8 _ rfl
          simp [Tryz.cellsIntA, Tryz.cellsStringA, Tryz.cellsBoolA] at k0 k1 k2 k3 k4 k5 k6 k7 k8
          obtain ⟨op, e10, _, _⟩ := DataW.trod_int Tryz.underlying3 k0
          obtain ⟨who, e11, _, _⟩ := DataW.trod_int Tryz.underlying3 k1
          obtain ⟨key, e12, _, _⟩ := DataW.trod_int Tryz.underlying3 k2
          obtain ⟨new, e13, _, _⟩ := DataW.trod_int Tryz.underlying3 k3
          obtain ⟨cty, e14, _, _⟩ := DataW.trod_int Tryz.underlying3 k4
          obtain ⟨at', e15, _, _⟩ := DataW.trod_int Tryz.underlying3 k5
          obtain ⟨cst, e16, _⟩ := DataW.trod_bool Tryz.underlying4 k6
          obtain ⟨da, e17, _, z17⟩ := DataW.trod_string Tryz.underlying9 k7
          obtain ⟨wa, e18, _, z18⟩ := DataW.trod_string Tryz.underlying9 k8
          simp only [List.cons.injEq, and_true] at e0 e1 e2 e3 e4 e5 e6 e7 e8 e9 e10 e11 e12 e13 e14 e15 e16 e17 e18
          subst e0 e1 e2 e3 e4 e5 e6 e7 e8 e9 e10 e11 e12 e13 e14 e15 e16 e17 e18
          exact ⟨⟨kind, a, b, s, k, gen, ra, rn, rc, regs, ty, hd, st, op, who, key, new, cty, at', cst, da, wa⟩, rfl, ⟨by show kind.size ≤ _; omega, by show s.size ≤ _; omega, wk, hrow, by show da.size ≤ _; omega, by show wa.size ≤ _; omega, w1, w2⟩⟩

theorem open_actrows {W : World} {fuel : Nat} {cs : List Value} {x : DataW H × List MemPlace} (h : DataW.trod enc Tryz.prog W 0 (fun _ => true) true fuel 22 cs = some x) :
    ∃ a n c l, cs = [.slice a n c] ∧ Acts W a n l := by
  rcases open_slice Tryz.underlying22 h with ⟨rfl, _⟩ | ⟨a, len, cap, m, n, D, Pl, rfl, _, hl, hm, hmm, _, hx⟩
  · exact ⟨Option.none, 0, 0, [], rfl, rfl, by decide, fun x hx => by simp at hx, fun h => absurd rfl h⟩
  · have hlm : len ≤ m := by rw [hmm]; simpa using hl
    have hml : maxLen ≤ 9223372036854775807 := by unfold maxLen; decide
    have each : ∀ i, i < len → ∃ q : ActD, (∀ j v, q.vs[j]? = some v → W.cell? (a.add (i * 19 + j)) = some v) ∧ q.OK W := by
      intro i hi
      obtain ⟨cs', h1, h2⟩ := hx i (by omega)
      rw [Tryz.cellsActA] at h1
      obtain ⟨_, hlen, hcell⟩ := World.cells?_some h1
      obtain ⟨y, rfl, hy⟩ := open_actcells h2
      refine ⟨y, fun j v hv => ?_, hy⟩
      have hj : j < 19 := by have := (List.getElem?_eq_some_iff.1 hv).1; rwa [hlen] at this
      have := hcell j hj
      rw [add_add] at this
      rw [this]; exact hv
    obtain ⟨q, hq⟩ := choose_lt each
    refine ⟨some a, len, cap, (List.range len).map q, rfl, by simp, by omega, fun x hx => ?_, fun hn => ?_⟩
    · obtain ⟨i, hi, rfl⟩ := List.mem_map.1 hx
      exact (hq i (by simpa using hi)).2
    · obtain ⟨b, off, spot⟩ := a
      have hs : spot = Option.none := by simpa [Addr.add] using World.cell?_spot ((hq 0 (by omega)).1 0 _ rfl)
      subst hs
      refine ⟨b, off, rfl, fun i hi => ?_⟩
      have hi' : i < len := by simpa using hi
      intro j v hv
      have := (hq i hi').1 j v (by simpa using hv)
      rw [addr_addA] at this
      simpa [Nat.add_assoc] using this
set_option maxRecDepth 100000 in
theorem open_acts {W : World} {base : Nat} {v : Value} {d : DataW H} {ps : List MemPlace} (hv : Value.okWide Tryz.prog W .any base 22 v) (h : DataW.Trod enc Tryz.prog W 0 (fun _ => true) true 22 v d ps) :
    ∃ a n c l, v = .slice a n c ∧ Acts W a n l := by
  obtain ⟨a, n, c, rfl⟩ := okWide_slice Tryz.underlying22 hv
  obtain ⟨fuel, hf⟩ := h
  obtain ⟨a', n', c', l, e, hrow⟩ := open_actrows hf
  simp [Value.cells] at e
  obtain ⟨rfl, rfl, rfl⟩ := e
  exact ⟨_, _, _, l, rfl, hrow⟩
end
end Go.Proofs.YtfkmaiiainbcbaaGreatDoor.D
