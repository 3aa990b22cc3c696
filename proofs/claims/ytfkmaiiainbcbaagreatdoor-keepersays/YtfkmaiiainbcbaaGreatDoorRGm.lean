/- Rows of registrations that grow while a state is guessed; strings.Cut; single stores. No statement of the seat is proved here. -/
import Derived.Test.YtfkmaiiainbcbaaGreatDoorRText
import Derived.Test.YtfkmaiiainbcbaaGreatDoorTGuess
import Derived.Test.YtfkmaiiainbcbaaGreatDoorClone
namespace Go.Proofs.YtfkmaiiainbcbaaGreatDoor.K
open Go.ChangeShapes Go.WideShapes Go.ChangeAt Go.RowKit Go.Maps

theorem cut_call (x : List UInt8) (b : UInt8) (w : World) (hL : Laid w) (hs : x.length ≤ 1000000) :
    Calls Tryz.prog 35 #[.string ⟨x.toArray⟩, .string ⟨#[b]⟩] w fun e w' => e = .returned (.tuple #[.string ⟨(Lib.cut x [b]).1.toArray⟩, .string ⟨(Lib.cut x [b]).2.1.toArray⟩, .bool (Lib.cut x [b]).2.2]) ∧ ∃ n, w' = w.drewN n := by
  obtain ⟨m, hm⟩ := hL.cut
  have hm1 : ∀ g, Tryz.prog.globalNamed "internal/bytealg.MaxLen" = some g → w.cell? ⟨g, 0, Option.none⟩ = some (.int .i64 m) := by
    intro g hg
    unfold World.var? at hm
    rw [hg] at hm
    simp only [Option.bind_some] at hm
    split at hm
    · rename_i cs _ _ he
      simp only [Option.some.injEq] at hm
      subst hm
      simp [World.cell?, he]
    · cases hm
  have hsz : (⟨x.toArray⟩ : ByteArray).size ≤ 1000000 := by rw [sz_arr]; omega
  first
    | exact Tryz.strings_Cut ⟨x.toArray⟩ ⟨#[b]⟩ m w (by omega) (hm1 1 (by kernel_rfl))
    | exact Tryz.strings_Cut ⟨x.toArray⟩ ⟨#[b]⟩ m w (by omega) (hm1 0 (by kernel_rfl))
    | exact Tryz.strings_Cut ⟨x.toArray⟩ ⟨#[b]⟩ m w (by omega) (hm1 2 (by kernel_rfl))
    | exact Tryz.strings_Cut ⟨x.toArray⟩ ⟨#[b]⟩ m w (by omega) (hm1 3 (by kernel_rfl))

/-- A row of registrations of the call's own, that may be empty. -/
def OwnG (w : World) (base : Nat) (v : Value) (l : List (Int × Int)) : Prop := w.ownsRow base 73 2 v l.length (flat l)
theorem OwnG.later {X X' : World} {base B : Nat} {v : Value} {l : List (Int × Int)} (h : OwnG X base v l) (hb : Below B X X') (hB : X.heap.size ≤ B) : OwnG X' base v l := by
  refine ⟨h.1, ?_⟩
  rcases h.2 with h0 | ⟨g, cap, cur, e, h1, hg, h2⟩
  · exact .inl h0
  · have := (Array.getElem?_eq_some_iff.1 hg).1
    exact .inr ⟨g, cap, cur, e, h1, by rw [hb.block g (by omega)]; exact hg, h2⟩
theorem OwnG.block {w : World} {base : Nat} {v : Value} {l : List (Int × Int)} (h : OwnG w base v l) : ∀ k, v.ownBlock = some k → base ≤ k := by
  intro k hk
  rcases h.2 with ⟨rfl, _⟩ | ⟨g, cap, cur, rfl, hb, _⟩
  · cases hk
  · simp [Value.ownBlock] at hk; omega
theorem OwnG.set {X : World} {base : Nat} {v : Value} {l : List (Int × Int)} (h : OwnG X base v l) (p : Addr) (hp : p.block < base) (u : Value) : OwnG (X.setCell p u) base v l := by
  refine ⟨h.1, ?_⟩
  rcases h.2 with h0 | ⟨g, cap, cur, e, h1, hg, h2⟩
  · exact .inl h0
  · exact .inr ⟨g, cap, cur, e, h1, by rw [Below.heap_setCell _ _ _ _ (by omega)]; exact hg, h2⟩
theorem OwnG.drewN {X : World} {base : Nat} {v : Value} {l : List (Int × Int)} (h : OwnG X base v l) (q : Nat) : OwnG (X.drewN q) base v l := h
theorem OwnG.one {w : World} {base : Nat} {v : Value} {l : List (Int × Int)} (h : OwnG w base v l) : ∃ a n c, v = .slice a n c := by
  rcases h.2 with ⟨rfl, _⟩ | ⟨g, cap, cur, rfl, _⟩
  · exact ⟨_, _, _, rfl⟩
  · exact ⟨_, _, _, rfl⟩
theorem OwnG.row {w : World} {base : Nat} {v : Value} {l : List (Int × Int)} (h : OwnG w base v l) : ∃ a c, v = .slice a l.length c ∧ Go.Proofs.YtfkmaiiainbcbaaGreatDoor.Row w a l.length l := by
  rcases h.2 with ⟨rfl, h0⟩ | ⟨g, cap, cur, rfl, hb, hg, hnc, hcm, hs, ht⟩
  · obtain rfl := List.eq_nil_of_length_eq_zero h0
    exact ⟨_, _, rfl, rfl, by decide, fun hn => absurd rfl hn⟩
  · obtain ⟨g', c', e, ho⟩ := Own.ofRow rfl h (by simp)
    simp only [Value.slice.injEq, Option.some.injEq, Addr.mk.injEq, and_true, true_and] at e
    obtain ⟨rfl, rfl⟩ := e
    exact ⟨_, _, rfl, ho.row⟩

/-- 'append' of one registration, in a region that draws its order. -/
theorem wp_appG {o : Oper} {a : Act} {K : Act → World → Prop} {Q : Exit → Act → World → Prop} (s x : Operand) (hop : o.op = .call { callee := .builtin .append, args := #[s, x], argTypes := #[35, 35] })
    (base : Nat) (u : Value) (acc : List (Int × Int)) (b : Nat) (p : Int × Int) (X : World) (hs : a.eval s = u) (hx : a.eval x = .slice (some ⟨b, 0, Option.none⟩) 1 1) (ho : OwnG X base u acc) (hc0 : X.cell? ⟨b, 0, Option.none⟩ = some (.int .i64 p.1)) (hc1 : X.cell? ⟨b, 1, Option.none⟩ = some (.int .i64 p.2)) (hl : acc.length ≤ 1000) (hb : base ≤ X.heap.size)
    (h : ∀ v' w', OwnG w' base v' (acc ++ [p]) → Below base X w' → K (a.put o.dst v') w') : Oper.wp Tryz.prog o a X K Q := by
  obtain ⟨i0, hi, hz0, hz1, hz2⟩ := zero_reg
  refine wp_append_own X s x 35 hop base 73 i0 _ 2 16 Tryz.underlying35 hi hz0 hz1 hz2 rfl (by decide) u acc.length _ hs ho ⟨b, 0, Option.none⟩ 1 1 [.int .i64 p.1, .int .i64 p.2] hx rfl
    (fun j v hj => by match j, hj with
      | 0, hj => simp at hj; subst hj; rw [Addr.add_lit]; exact hc0
      | 1, hj => simp at hj; subst hj; rw [Addr.add_lit]; exact hc1
      | j + 2, hj => simp at hj) (fun v hv => by simp at hv; rcases hv with rfl | rfl <;> rfl) (by simp only [maxLen]; omega) (by omega) hb ?_
  intro v' w' hown hgrow _
  have hO : OwnG w' base v' (acc ++ [p]) := by
    have e : (acc ++ [p]).length = acc.length + 1 := by simp
    unfold OwnG
    rw [e, flat_append]
    exact hown
  exact h v' w' hO ((Below.refl _ _).grown hgrow hb ho.block)
/-- One field of a block is stored. -/
theorem At.store1 {W : World} {b : Nat} {T0 : TypeId} {cs : List Value} (h : At W b cs T0) {T : TypeId} {i : Nat} {v : Value} (hT : (Tryz.prog.info? T).map (·.size) = some 1) (hi : i < cs.length) (hv : v.cells = #[v]) (hv1 : v.oneCell' = true) :
    (Instr.storeAt T (.pointer (some ⟨b, i, Option.none⟩)) v).run Tryz.prog W = .ok () (W.setCell ⟨b, i, Option.none⟩ v) := by
  have hth := h.there i 1 (by omega) 0 (by decide)
  have hc : (W.cell? ⟨b, i, Option.none⟩).isSome = true := hth.1
  have hf : W.frozen? ⟨b, i, Option.none⟩ = false := hth.2
  cases hq : Tryz.prog.info? T with
  | none => rw [hq] at hT; cases hT
  | some inf =>
    have hs : inf.size = 1 := by rw [hq] at hT; simpa using hT
    have e1 : ∀ j, j < [v].length → (W.cell? ⟨b, i + 0 + j, Option.none⟩).isSome = true := by
      intro j hj
      have : j = 0 := by simpa using hj
      subst this
      exact hc
    have e2 : ∀ j, j < [v].length → W.frozen? ⟨b, i + 0 + j, Option.none⟩ = false := by
      intro j hj
      have : j = 0 := by simpa using hj
      subst this
      exact hf
    have e3 : ∀ u ∈ [v], u.oneCell' = true := by
      intro u hu
      have : u = v := by simpa using hu
      subst this
      exact hv1
    have := run_storeCells_cells (P := Tryz.prog) b i [v] 0 W e1 e2 e3
    simp only [Nat.add_zero] at this
    simp only [Instr.storeAt, Instr.sureAddr, Sem.run_bind, Sem.run_pure, Result.andThen_ok]
    simp [storeVar, sizeOf, typeInfo, hq, hs, hv, this, World.setCells]
theorem wpOp_store {P : Program} {ops : Array Oper} {i : Nat} {dst : Option Tmp} {T ty : TypeId} {x y : Operand} {pos : String} {after : Array Edge} {a : Act} {w w' : World} {Q : Exit → Act → World → Prop} {K : Act → World → Prop} {p v : Value}
    (law : (Instr.storeAt T p v).run P w = .ok () w') (ho : ops[i]? = some ⟨dst, .store T x y, ty, pos, after, Option.none⟩) (hd : dst = Option.none) (hx : a.eval x = p) (hy : a.eval y = v) (h : K a w') : wpOp P ops Q i K a w := by
  unfold wpOp
  rw [ho]
  subst hd
  simp only [Region.wanted, if_true]
  refine .inl ?_
  unfold Oper.wp execOp
  simp only [hx, hy, Sem.run_bind, law, Result.andThen_ok, Sem.run_pure]
  exact h
theorem szS : (Tryz.prog.info? 37).map (·.size) = some 5 := by kernel_rfl
theorem undS : ∃ d, Tryz.prog.underlying 37 = some d ∧ d.isRow = true := ⟨_, Tryz.underlying37, rfl⟩
theorem load_st {X : World} {b : Nat} {T : TypeId} {cs : List Value} (h : At X b cs T) (hl : cs.length = 5) :
    (Instr.loadAt 37 (.pointer (some ⟨b, 0, Option.none⟩))).run Tryz.prog X = .ok (.agg cs.toArray) X := by
  obtain ⟨d, hd, hr⟩ := undS
  exact run_loadAt_mid X b 0 _ cs d h.whole hd hr (by rw [hl]; exact szS)
theorem store_st {X : World} {b : Nat} {T : TypeId} {cs vs : List Value} (h : At X b cs T) (hc : cs.length = 5) (hl : vs.length = 5) (h1 : ∀ v ∈ vs, v.oneCell' = true) :
    (Instr.storeAt 37 (.pointer (some ⟨b, 0, Option.none⟩)) (.agg vs.toArray)).run Tryz.prog X = .ok () (X.setCells b 0 vs) :=
  run_storeAt_mid X b 0 _ vs.toArray (by simpa using h.there 0 vs.length (by omega)) (by simpa [hl] using szS) (all_oneCell_toArray h1)

/-- The registrations that are guessed out of the first words behind the fourth. -/
def regsG : Nat → List UInt8 → List (Int × Int)
  | 0, _ => []
  | j + 1, s => regsG j s ++ if (Lib.cut (nxW (4 + j) s) [58]).2.2 then [(numOf ⟨(Lib.cut (nxW (4 + j) s) [58]).1.toArray⟩, numOf ⟨(Lib.cut (nxW (4 + j) s) [58]).2.1.toArray⟩)] else []
theorem regsG_len : ∀ (j : Nat) (s : List UInt8), (regsG j s).length ≤ j
  | 0, _ => Nat.le_refl _
  | j + 1, s => by
    have := regsG_len j s
    unfold regsG
    split <;> simp <;> omega
end Go.Proofs.YtfkmaiiainbcbaaGreatDoor.K
