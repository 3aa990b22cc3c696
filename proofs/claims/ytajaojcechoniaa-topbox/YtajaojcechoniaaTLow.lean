/- What tell.asks, slices.Clone, slices.Grow and slices.Concat of numbers hand back. No statement of the seat is proved here. -/
import Derived.Test.YtajaojcechoniaaNumsSame
import Derived.Lib.AppendZeros
import Derived.Laws.AppendOwnNone
namespace Go.Proofs.Ytajaojcechoniaa
open Go.ChangeShapes Go.WideShapes Go.ChangeAt Go.RowKit

theorem asks_any (who : Int) (w : World) : Calls Try.prog 13 #[.int .i64 who] w fun e w' => e = .returned (.bool (decide (1 ≤ who ∧ who ≤ 4))) ∧ w' = w := by
  go_enter Try.func13, Try.ntmps13
  by_cases h1 : 1 ≤ who <;> by_cases h4 : who ≤ 4 <;> go_wp2 <;> go_ret <;> exact ⟨ret_bool (by simp [h1, h4]), rfl⟩

theorem ints_one (l : List Int) : ∀ u ∈ l.map (Value.int .i64), u.oneCell' = true := by
  intro u hu
  obtain ⟨x, _, rfl⟩ := List.mem_map.1 hu
  rfl

/-- 'append' of a row of numbers to a row of the call's own. -/
theorem wpList_appN {ops : Array Oper} {rest : List Oper} {o : Oper} {a : Act} {Q : Exit → Act → World → Prop} (hgd : o.guard = Option.none) (s x : Operand) (hop : o.op = .call { callee := .builtin .append, args := #[s, x], argTypes := #[24, 24] })
    (base : Nat) (u : Value) (acc : List Int) (ax : Option Addr) (nx cx : Nat) (l : List Int) (X : World) (hs : a.eval s = u) (hx : a.eval x = .slice ax nx cx) (hnil : ax = Option.none → cx = 0) (ho : OwnI X base u acc) (hr : Nums X ax nx l) (hl : acc.length + l.length ≤ 1000000) (hb : base ≤ X.heap.size)
    (h : ∀ v' w', OwnI w' base v' (acc ++ l) → Below base X w' → (u ≠ .slice Option.none 0 0 → v' ≠ .slice Option.none 0 0) → wpList Try.prog ops Q rest (a.put o.dst v') w') :
    wpList Try.prog ops Q (o :: rest) a X := by
  obtain ⟨i0, hi, hz0, hz1, hz2⟩ := zero_int
  have hrl := hr.1
  cases ax with
  | none =>
    have h0 : nx = 0 := by
      rcases Nat.eq_zero_or_pos nx with h | h
      · exact h
      · obtain ⟨b, off, e, _⟩ := hr.2.2 (by omega)
        cases e
    subst h0
    obtain rfl := hnil rfl
    have hl0 : l = [] := List.eq_nil_of_length_eq_zero hrl
    subst hl0
    exact wpList_append_own_none hgd s x 24 hop base 3 i0 1 Try.underlying24 hi u acc.length _ hs ho hx (h u X (by simpa using ho) (Below.refl _ _) id)
  | some ad =>
    refine wpList_append_own _ hgd s x 24 hop base 3 i0 _ 1 8 Try.underlying24 hi hz0 hz1 hz2 rfl (by decide) u acc.length _ hs ho ad nx cx (l.map (Value.int .i64)) hx (by simp [hrl])
      (fun j v hj => by
        have hlt : j < l.length := by simpa using (List.getElem?_eq_some_iff.1 hj).1
        obtain ⟨b, off, e, hc⟩ := hr.2.2 (by omega)
        simp only [Option.some.injEq] at e
        subst e
        rw [Addr.add_lit, hc j hlt]
        simpa [hlt] using hj) (ints_one l) (by simp only [maxLen]; omega) (by omega) hb ?_
    intro v' w' hown hgrow hiff
    refine h v' w' ?_ ((Below.refl _ _).grown hgrow hb ho.block) (fun hu hv => hu (hiff.1 hv).1)
    unfold OwnI
    rw [List.length_append, List.map_append, hrl]
    exact hown

theorem ownI_made (w : World) : OwnI (w.alloc (.cells #[] 3)) w.heap.size (.slice (some ⟨w.heap.size, 0, Option.none⟩) 0 0) [] := by
  have := World.ownsRow_made (e := 3) (size := 1) w #[] 0 (Nat.le_refl _) (Nat.zero_le _) (by simp)
  simpa [OwnI] using this

theorem cloneI_nil (n c : Nat) (w : World) : Calls Try.prog 14 #[.slice Option.none n c] w fun e w' => e = .returned (.slice Option.none 0 0) ∧ w' = w := by
  have q22 : ∀ (w : World) (a : Option Addr) (n c n' c' : Nat), (binOp .eql 24 (.slice a n c) (.slice Option.none n' c')).run Try.prog w = .ok (.bool a.isNone) w := fun w a n c n' c' => Lib.run_eql_slice_nil w _ _ a n c n' c' Try.underlying24
  go_enter Try.func14, Try.ntmps14
  go_wp2
  go_ret
  exact ⟨rfl, rfl⟩

set_option maxHeartbeats 2000000 in
theorem cloneI_some (ad : Addr) (n c : Nat) (l : List Int) (w : World) (hr : Nums w (some ad) n l) (hn : n ≤ 1000000) :
    Calls Try.prog 14 #[.slice (some ad) n c] w fun e w' => ∃ v, e = .returned v ∧ OwnI w' w.heap.size v l ∧ Below w.heap.size w w' := by
  have q22 : ∀ (w : World) (a : Option Addr) (n c n' c' : Nat), (binOp .eql 24 (.slice a n c) (.slice Option.none n' c')).run Try.prog w = .ok (.bool a.isNone) w := fun w a n c n' c' => Lib.run_eql_slice_nil w _ _ a n c n' c' Try.underlying24
  have hl := hr.1
  have HR : Hid (Nums w (some ad) n l) := hr
  clear hr
  go_enter Try.func14, Try.ntmps14
  have hX : ∀ o, Below w.heap.size w (w.alloc o) := fun o => (Below.refl _ _).alloc (Nat.le_refl _) o
  go_wp2_with (at_builtin; refine wpList_appN rfl _ _ rfl w.heap.size (.slice (some ⟨w.heap.size, 0, Option.none⟩) 0 0) [] (some ad) n c l (w.alloc (.cells #[] 3)) rfl rfl (fun h => by cases h) (ownI_made w) (HR.out.later (hX _)) (by simp; omega) (by simp) ?_)
  intro v' w1 hown hb _
  go_wp2
  go_ret
  exact ⟨v', rfl, by simpa using hown, (hX _).trans hb⟩
end Go.Proofs.Ytajaojcechoniaa
