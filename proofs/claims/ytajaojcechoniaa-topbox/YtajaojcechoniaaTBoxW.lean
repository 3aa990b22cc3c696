/- 'append' of one number to a row of the call's own, and what else there was. No statement of the seat is proved here. -/
import Derived.Test.YtajaojcechoniaaTAdd
import Derived.Test.YtajaojcechoniaaTTake
import Derived.Test.YtajaojcechoniaaTPow
import Derived.Test.YtajaojcechoniaaNumsQ
import Derived.Deep.AppendLies
namespace Go.Proofs.Ytajaojcechoniaa
open Go.ChangeShapes Go.WideShapes Go.ChangeAt Go.RowKit Go.Deep

theorem Fl.grown {w w' : World} {lo : Nat} {a : Option Addr} {n c : Nat} {l : List Int} {row : Option Nat} (h : Fl w lo a n c l) (hg : w.grownBy w' row) (hne : ∀ ad, a = some ad → n ≠ 0 → row ≠ some ad.block) : Fl w' lo a n c l := by
  refine ⟨⟨h.1.1, h.1.2.1, fun hn => ?_⟩, h.2⟩
  obtain ⟨b, off, rfl, hc⟩ := h.1.2.2 hn
  refine ⟨b, off, rfl, fun i hi => ?_⟩
  have hci := hc i hi
  rw [World.grownBy.cell_far hg _ (World.block_lt_of_cell? _ _ hci) (fun e => hne _ rfl hn e.symm)]
  exact hci
theorem PBox.grown {w w' : World} {M : Nat} {A : Nat → Option Addr} {N C : Nat → Nat} {row : Option Nat} (h : PBox w M A N C) (hg : w.grownBy w' row) (hne : row ≠ some M) : PBox w' M A N C := by
  unfold PBox
  rw [hg.block M h.lt (fun e => hne e.symm)]
  exact h
theorem OwnI.beside {w w' : World} {base M : Nat} {v : Value} {l : List Int} (h : OwnI w base v l) (hb : Beside M w w') (hM : M < base) : OwnI w' base v l := by
  refine ⟨h.1, ?_⟩
  rcases h.2 with h0 | ⟨g, cap, cur, e, h1, hg, h2⟩
  · exact .inl h0
  · have hlt := (Array.getElem?_eq_some_iff.1 hg).1
    exact .inr ⟨g, cap, cur, e, h1, by rw [hb.block g hlt (by omega)]; exact hg, h2⟩
theorem OwnI.lt {w : World} {base : Nat} {v : Value} {l : List Int} (h : OwnI w base v l) : ∀ k, v.ownBlock = some k → k < w.heap.size := by
  intro k hk
  rcases h.2 with ⟨rfl, _⟩ | ⟨g, cap, cur, rfl, hb, hg, _⟩
  · cases hk
  · simp [Value.ownBlock] at hk
    subst hk
    exact (Array.getElem?_eq_some_iff.1 hg).1

/-- Rows of a box and a row of the call's own lie apart. -/
def Apart (A : Nat → Option Addr) (N : Nat → Nat) (v : Value) : Prop := ∀ i, i < 4 → ∀ ad, A i = some ad → N i ≠ 0 → v.ownBlock ≠ some ad.block
theorem Apart.fresh {A A' : Nat → Option Addr} {N N' : Nat → Nat} {v : Value} {z : Nat} (h : Apart A N v) (hf : Fresh z A N A' N') (hv : ∀ k, v.ownBlock = some k → k < z) : Apart A' N' v := by
  intro i hi ad ha hn he
  rcases hf i with ⟨e1, e2⟩ | hz
  · exact h i hi ad (e1 ▸ ha) (e2 ▸ hn) he
  · have := hz ad ha
    have := hv _ he
    omega
theorem Apart.grown {A : Nat → Option Addr} {N C : Nat → Nat} {L : Nat → List Int} {w : World} {lo : Nat} {v v' : Value} (h : Apart A N v) (hB : BoxIs w lo A N C L) (g z : Nat) (hg : v'.ownBlock = some g) (hor : v.ownBlock = some g ∨ g = z) (hz : w.heap.size ≤ z) : Apart A N v' := by
  intro i hi ad ha hn he
  rw [hg] at he
  simp only [Option.some.injEq] at he
  rcases hor with h1 | h1
  · exact h i hi ad ha hn (by rw [h1, he])
  · have hF := hB i hi
    obtain ⟨b, off, e, hc⟩ := hF.1.2.2 hn
    rw [ha] at e
    simp only [Option.some.injEq] at e
    subst e
    have hlt := World.block_lt_of_cell? _ _ (hc 0 (by have := hF.1.1; omega))
    simp only at hlt he
    omega
theorem BoxIs.grown {w w' : World} {lo : Nat} {A : Nat → Option Addr} {N C : Nat → Nat} {L : Nat → List Int} {v : Value} (h : BoxIs w lo A N C L) (hg : w.grownBy w' v.ownBlock) (hA : Apart A N v) : BoxIs w' lo A N C L := fun i hi => (h i hi).grown hg (fun ad e hn => hA i hi ad e hn)

/-- 'append' of one number that lies in a new block: what it leaves of all else. -/
theorem wpList_appG {ops : Array Oper} {rest : List Oper} {o : Oper} {a : Act} {Q : Exit → Act → World → Prop} (hgd : o.guard = Option.none) (s x : Operand) (hop : o.op = .call { callee := .builtin .append, args := #[s, x], argTypes := #[24, 24] })
    (base : Nat) (u : Value) (acc : List Int) (p : Int) (X : World) (hs : a.eval s = u) (hx : a.eval x = .slice (some ⟨X.heap.size, 0, Option.none⟩) 1 1) (ho : OwnI X base u acc) (hl : acc.length ≤ 1000000) (hb : base ≤ X.heap.size)
    (h : ∀ g n' c' w', OwnI w' base (.slice (some ⟨g, 0, Option.none⟩) n' c') (acc ++ [p]) → (X.alloc (.cells #[.int .i64 p] 3)).grownBy w' u.ownBlock → (u.ownBlock = some g ∨ g = X.heap.size + 1) → Below base X w' → wpList Try.prog ops Q rest (a.put o.dst (.slice (some ⟨g, 0, Option.none⟩) n' c')) w') :
    wpList Try.prog ops Q (o :: rest) a (X.alloc (.cells #[.int .i64 p] 3)) := by
  obtain ⟨i0, hi, hz0, hz1, hz2⟩ := zero_int
  have hX : Below X.heap.size X (X.alloc (.cells #[.int .i64 p] 3)) := (Below.refl _ _).alloc (Nat.le_refl _) _
  have ho' := ho.later hX (Nat.le_refl _)
  refine wpList_append_lies _ hgd s x 24 hop base 3 i0 _ 1 8 Try.underlying24 hi hz0 hz1 hz2 rfl (by decide) u acc.length _ hs ho' ⟨X.heap.size, 0, Option.none⟩ 1 1 [.int .i64 p] hx rfl
    (fun j v hj => by cases j with
      | zero => simp at hj; subst hj; simp [Addr.add, go_sem]
      | succ j => simp at hj) (fun v hv => by simp at hv; subst hv; rfl) (by decide) (by simp only [maxLen]; omega) (by omega) (by have := hX.size; omega) (X.heap.size + 1) (by simp) ?_
  intro g cap w' hown hgrow hor _
  have hO : OwnI w' base (.slice (some ⟨g, 0, Option.none⟩) (acc.length + 1) cap) (acc ++ [p]) := by
    have e : (acc ++ [p]).length = acc.length + 1 := by simp
    unfold OwnI
    rw [e, List.map_append]
    exact hown
  exact h _ _ _ w' hO hgrow hor ((hX.mono hb).grown hgrow (by have := hX.size; omega) ho.block)
end Go.Proofs.Ytajaojcechoniaa
