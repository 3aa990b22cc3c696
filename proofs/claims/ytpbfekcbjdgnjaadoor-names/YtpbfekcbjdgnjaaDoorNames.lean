/- Proved: the law Names returns true, for whatever the listed package-level variables hold as the program's text lays them; and the tied card of it. -/
import Derived.Test.YtpbfekcbjdgnjaaDoorRows
import Derived.Test.YtpbfekcbjdgnjaaDoorTie
import Derived.Test.YtpbfekcbjdgnjaaDoorCards
import Derived.WalkKit
import Derived.WalkSpells
import Derived.WalkLawsBesides
import Derived.ProofKit
import Derived.OpenShut
import Derived.ChangeOld
import Derived.LaidMore
import Derived.Stop.Joined
import Derived.SevenTiedAt
import Derived.Deep.QuietTactic
import Derived.BigQuiet
namespace Go.Proofs.YtpbfekcbjdgnjaaDoor
open Go.ChangeShapes Go.WideShapes Go.ChangeAt Go.RowKit

theorem ret_bool {a b : Bool} (h : a = b) : Ending.returned (.bool a) = .returned (.bool b) := by rw [h]

/-- A row of numbers in memory. -/
def Nums (w : World) (a : Option Addr) (n : Nat) (l : List Int) : Prop :=
  l.length = n ∧ n ≤ 9223372036854775807 ∧ (n ≠ 0 → ∃ b off, a = some ⟨b, off, Option.none⟩ ∧ ∀ i (h : i < l.length), w.cell? ⟨b, off + i, Option.none⟩ = some (.int .i64 l[i]))
theorem Nums.later {w w' : World} {a : Option Addr} {n : Nat} {l : List Int} (h : Nums w a n l) (hb : Below w.heap.size w w') : Nums w' a n l := by
  refine ⟨h.1, h.2.1, fun hn => ?_⟩
  obtain ⟨b, off, ha, hc⟩ := h.2.2 hn
  exact ⟨b, off, ha, fun i hi => cell_later hb (hc i hi)⟩

/-- Numbers in a row of the call's own. -/
def OwnI (w : World) (base : Nat) (v : Value) (l : List Int) : Prop := w.ownsRow base 3 1 v l.length (l.map (Value.int .i64))
theorem OwnI.form {w : World} {base : Nat} {v : Value} {l : List Int} (h : OwnI w base v l) : ∃ a n c, v = .slice a n c ∧ Nums w a n l := by
  rcases h.2 with ⟨rfl, h0⟩ | ⟨g, cap, cur, rfl, hb, hg, hnc, hcm, hs, ht⟩
  · have : l = [] := List.eq_nil_of_length_eq_zero h0
    subst this
    exact ⟨_, _, _, rfl, rfl, by decide, fun h => absurd rfl h⟩
  · have hm : cap ≤ 9223372036854775807 := by simpa [maxLen] using hcm
    refine ⟨_, _, _, rfl, rfl, by omega, fun _ => ⟨g, 0, rfl, fun i hi => ?_⟩⟩
    have := World.ownsRow.cellAt h i (by omega)
    rw [Nat.zero_add, this]
    simp [hi]
theorem OwnI.later {X X' : World} {base B : Nat} {v : Value} {l : List Int} (h : OwnI X base v l) (hb : Below B X X') (hB : X.heap.size ≤ B) : OwnI X' base v l := by
  refine ⟨h.1, ?_⟩
  rcases h.2 with h0 | ⟨g, cap, cur, e, h1, hg, h2⟩
  · exact .inl h0
  · have := (Array.getElem?_eq_some_iff.1 hg).1
    exact .inr ⟨g, cap, cur, e, h1, by rw [hb.block g (by omega)]; exact hg, h2⟩
theorem OwnI.block {w : World} {base : Nat} {v : Value} {l : List Int} (h : OwnI w base v l) : ∀ k, v.ownBlock = some k → base ≤ k := by
  intro k hk
  rcases h.2 with ⟨rfl, _⟩ | ⟨g, cap, cur, rfl, hb, _⟩
  · cases hk
  · simp [Value.ownBlock] at hk; omega

theorem zero_int : ∃ i, Tryd.prog.info? 3 = some i ∧ i.zero = some (.int .i64 0) ∧ i.size = 1 ∧ i.bytes = 8 := by
  have h : (Tryd.prog.info? 3).map (fun i => (i.zero, i.size, i.bytes)) = some (some (.int .i64 0), 1, 8) := by kernel_rfl
  cases hi : Tryd.prog.info? 3 with
  | none => rw [hi] at h; cases h
  | some i => rw [hi] at h; simp at h; exact ⟨i, rfl, h.1, h.2.1, h.2.2⟩

/-- 'append' of numbers that lie in a new block. -/
theorem wpList_appL {ops : Array Oper} {rest : List Oper} {o : Oper} {a : Act} {Q : Exit → Act → World → Prop} (hgd : o.guard = Option.none) (s x : Operand) (hop : o.op = .call { callee := .builtin .append, args := #[s, x], argTypes := #[22, 22] })
    (base : Nat) (u : Value) (acc C : List Int) (news : List Value) (hC : news = C.map (Value.int .i64)) (m : Nat) (hm : C.length = m) (X : World) (hs : a.eval s = u) (hx : a.eval x = .slice (some ⟨X.heap.size, 0, Option.none⟩) m m) (ho : OwnI X base u acc) (hl : acc.length + m ≤ 1000000) (hb : base ≤ X.heap.size)
    (h : ∀ a' n' c' w', OwnI w' base (.slice a' n' c') (acc ++ C) → Below base X w' → (∀ k, k < X.heap.size → some k ≠ u.ownBlock → w'.heap[k]? = X.heap[k]?) → wpList Tryd.prog ops Q rest (a.put o.dst (.slice a' n' c')) w') :
    wpList Tryd.prog ops Q (o :: rest) a (X.alloc (.cells news.toArray 3)) := by
  obtain ⟨i0, hi, hz0, hz1, hz2⟩ := zero_int
  have hX : Below X.heap.size X (X.alloc (.cells news.toArray 3)) := (Below.refl _ _).alloc (Nat.le_refl _) _
  have ho' := ho.later hX (Nat.le_refl _)
  have hnl : news.length = m := by rw [hC]; simpa using hm
  have hcell : ∀ j v, news[j]? = some v → (X.alloc (.cells news.toArray 3)).cell? ((⟨X.heap.size, 0, Option.none⟩ : Addr).add j) = some v := fun j v hj => by
    have hh : (X.alloc (.cells news.toArray 3)).heap[X.heap.size]? = some (.cells news.toArray 3 (0, 0)) := heap_alloc_new X _
    rw [Addr.add_lit, Nat.zero_add]
    simp only [World.cell?, hh]
    simpa using hj
  refine wpList_append_own _ hgd s x 22 hop base 3 i0 _ 1 8 Tryd.underlying22 hi hz0 hz1 hz2 rfl (by decide) u acc.length _ hs ho' ⟨X.heap.size, 0, Option.none⟩ m m news hx (by omega)
    hcell (fun v hv => by rw [hC] at hv; obtain ⟨z, _, rfl⟩ := List.mem_map.1 hv; rfl) (by simp only [maxLen]; omega) (by omega) (by have := hX.size; omega) ?_
  intro v' w' hown hgrow hnil
  have hO : OwnI w' base v' (acc ++ C) := by
    have e : (acc ++ C).length = acc.length + m := by simp [hm]
    unfold OwnI
    rw [e, List.map_append, ← hC]
    exact hown
  obtain ⟨a', n', c', rfl, _⟩ := hO.form
  refine h _ _ _ w' hO ((hX.mono hb).grown hgrow (by have := hX.size; omega) ho.block) (fun k hk hne => ?_)
  rw [hgrow.block k (by have := hX.size; omega) hne]
  exact Below.heap_alloc X _ k hk

theorem OwnI.keep {X X' : World} {base : Nat} {v : Value} {l : List Int} (h : OwnI X base v l) (hk : ∀ k, v.ownBlock = some k → X'.heap[k]? = X.heap[k]?) : OwnI X' base v l := by
  refine ⟨h.1, ?_⟩
  rcases h.2 with h0 | ⟨g, cap, cur, rfl, h1, hg, h2⟩
  · exact .inl h0
  · exact .inr ⟨g, cap, cur, rfl, h1, by rw [hk g rfl]; exact hg, h2⟩

theorem OwnI.lt {X : World} {base : Nat} {v : Value} {l : List Int} (h : OwnI X base v l) : ∀ k, v.ownBlock = some k → k < X.heap.size := by
  intro k hk
  rcases h.2 with ⟨rfl, _⟩ | ⟨g, cap, cur, rfl, _, hg, _⟩
  · cases hk
  · simp [Value.ownBlock] at hk; subst hk; exact (Array.getElem?_eq_some_iff.1 hg).1
theorem OwnI.apart {X : World} {base base' g' n' c' : Nat} {v : Value} {l l' : List Int} (h : OwnI X base v l) (h' : OwnI X base' (.slice (some ⟨g', 0, Option.none⟩) n' c') l') (hc : c' < l.length) : ∀ k, v.ownBlock = some k → k ≠ g' := by
  rintro k hk rfl
  rcases h.2 with ⟨rfl, _⟩ | ⟨g, cap, cur, rfl, _, hg, hn, _, hs, _⟩
  · cases hk
  · simp [Value.ownBlock] at hk
    subst hk
    rcases h'.2 with ⟨e, _⟩ | ⟨g2, cap2, cur2, e, _, hg2, _, _, hs2, _⟩
    · simp at e
    · simp only [Value.slice.injEq, Option.some.injEq, Addr.mk.injEq, and_true] at e
      obtain ⟨rfl, _, rfl⟩ := e
      rw [hg] at hg2
      simp only [Option.some.injEq, Obj.cells.injEq] at hg2
      obtain ⟨rfl, _⟩ := hg2
      omega

set_option maxHeartbeats 2000000 in
theorem sameNums_any (a a' : Option Addr) (n n' c c' : Nat) (l : List Int) (w : World) (hr : Nums w a n l) (hr' : Nums w a' n' l) :
    Calls Tryd.prog 5 #[.slice a n c, .slice a' n' c'] w fun e w' => e = .returned (.bool true) ∧ Below w.heap.size w w' := by
  obtain ⟨hl, hn, hrow⟩ := hr
  obtain ⟨hl', hn', hrow'⟩ := hr'
  have hnn : n' = n := by omega
  subst hnn
  go_enter Tryd.func5, Tryd.ntmps5
  go_wp2
  go_loopw [5] (fun i wr => ∃ k : Nat, k ≤ n' ∧ i = .int .i64 k ∧ Below w.heap.size w wr) (fun i _ => n' - (intOf i).toNat)
  case atStart => exact ⟨0, Nat.zero_le _, rfl, Below.refl _ _⟩
  case round =>
    obtain ⟨k, hk, rfl, bw⟩ := hrel
    by_cases hlt : k < n'
    · obtain ⟨b, off, rfl, hc⟩ := hrow (by omega)
      obtain ⟨b', off', rfl, hc'⟩ := hrow' (by omega)
      have hc0 := cell_later bw (hc k (by omega))
      have hc1 := cell_later bw (hc' k (by omega))
      have hki : (k : Int) < (n' : Int) := by omega
      clear hc hc' hrow hrow'
      go_wp2
      go_quiet (fail)
      go_wp2
      go_roundw
      case rel => exact ⟨k + 1, by omega, by go_num, below_drewN bw _⟩
      case measure => simp [intOf]; omega
    · have hlt' : decide ((k : Int) < (n' : Int)) = false := by simp; omega
      go_wp2
      go_ret
      exact ⟨rfl, bw⟩

theorem assert_errno (f : Int) (w : World) : (Instr.typeAssert (.iface 23 (.int .i64 f)) 27 23 true).run Tryd.prog w = .ok (.tuple #[.int .i64 f, .bool true]) w := by kernel_rfl
theorem same_some (f : Int) (hp : 0 < f) (w : World) : Calls Tryd.prog 4 #[.iface 23 (.int .i64 f), .int .i64 f] w fun e w' => e = .returned (.bool true) ∧ w = w' := by
  have hta := assert_errno
  go_enter Tryd.func4, Tryd.ntmps4
  go_wp2
  go_ret
  exact ⟨rfl, rfl⟩

set_option maxRecDepth 100000 in
theorem small_10 (w : World) : Calls Tryd.prog 10 #[.int .i64 10] w fun e w' => e = .returned (.string ⟨#[49, 48]⟩) ∧ w = w' := by
  go_enter Tryd.func10, Tryd.ntmps10
  go_wp2
  go_ret
  exact ⟨rfl, rfl⟩
set_option maxRecDepth 100000 in
theorem format_10 (w : World) : Calls Tryd.prog 9 #[.int .i64 10, .int .i64 10] w fun e w' => e = .returned (.string ⟨#[49, 48]⟩) ∧ w = w' := by
  go_enter Tryd.func9, Tryd.ntmps9
  go_wp2_with (go_at_call 10; refine (small_10 _).mono ?_; rintro e w' ⟨rfl, rfl⟩)
  go_ret
  exact ⟨rfl, rfl⟩
theorem itoa_in_10 (w : World) : Calls Tryd.prog 8 #[.int .i64 10] w fun e w' => e = .returned (.string ⟨#[49, 48]⟩) ∧ w = w' := by
  go_enter Tryd.func8, Tryd.ntmps8
  go_wp2_with (go_at_call 9; refine (format_10 _).mono ?_; rintro e w' ⟨rfl, rfl⟩)
  go_ret
  exact ⟨rfl, rfl⟩
theorem itoa_10 (w : World) : Calls Tryd.prog 7 #[.int .i64 10] w fun e w' => e = .returned (.string ⟨#[49, 48]⟩) ∧ w = w' := by
  go_enter Tryd.func7, Tryd.ntmps7
  go_wp2_with (go_at_call 8; refine (itoa_in_10 _).mono ?_; rintro e w' ⟨rfl, rfl⟩)
  go_ret
  exact ⟨rfl, rfl⟩
theorem error_10 (w : World) : Calls Tryd.prog 6 #[.int .i64 10] w fun e w' => e = .returned (.string ⟨#[107, 105, 115, 115, 105, 110, 103, 103, 97, 116, 101, 58, 32, 101, 114, 114, 111, 114, 32, 49, 48]⟩) ∧ w = w' := by
  go_enter Tryd.func6, Tryd.ntmps6
  go_wp2_with (go_at_call 7; refine (itoa_10 _).mono ?_; rintro e w' ⟨rfl, rfl⟩)
  go_ret
  exact ⟨rfl, rfl⟩

/-- The first numbers of both lists, and the rest. -/
def first15 : List Int := [4, 999, 7, 8, 5, 1000000000, 1000000, 6, 40, 3, 2, 64, 40, 80, 60]
def rest19 : List Int := [1, 3, 5, 6, 7, 8, 1, 2, 3, 4, 5, 6, 7, 8, 9, 1, 2, 3, 4]

theorem owns15 (X : World) (base : Nat) (hb : base ≤ X.heap.size) : OwnI (X.alloc (.cells #[.int .i64 4, .int .i64 999, .int .i64 7, .int .i64 8, .int .i64 5, .int .i64 1000000000, .int .i64 1000000, .int .i64 6, .int .i64 40, .int .i64 3, .int .i64 2, .int .i64 64, .int .i64 40, .int .i64 80, .int .i64 60] 3)) base (.slice (some ⟨X.heap.size, 0, Option.none⟩) 15 15) first15 :=
  World.ownsRow_lit X #[.int .i64 4, .int .i64 999, .int .i64 7, .int .i64 8, .int .i64 5, .int .i64 1000000000, .int .i64 1000000, .int .i64 6, .int .i64 40, .int .i64 3, .int .i64 2, .int .i64 64, .int .i64 40, .int .i64 80, .int .i64 60] 15 hb (by decide) rfl

set_option maxHeartbeats 4000000 in
set_option maxRecDepth 100000 in
theorem names_walk (w : World) : Calls Tryd.prog 3 #[] w fun e w' => e = .returned (.bool true) ∧ Below w.heap.size w w' := by
  have hO1 : OwnI ((w.alloc (.cells #[.int .i64 4, .int .i64 999, .int .i64 7, .int .i64 8, .int .i64 5, .int .i64 1000000000, .int .i64 1000000, .int .i64 6, .int .i64 40, .int .i64 3, .int .i64 2, .int .i64 64, .int .i64 40, .int .i64 80, .int .i64 60] 3)).alloc (.cells #[.int .i64 4, .int .i64 999, .int .i64 7, .int .i64 8, .int .i64 5, .int .i64 1000000000, .int .i64 1000000, .int .i64 6, .int .i64 40, .int .i64 3, .int .i64 2, .int .i64 64, .int .i64 40, .int .i64 80, .int .i64 60] 3)) w.heap.size (.slice (some ⟨w.heap.size, 0, Option.none⟩) 15 15) first15 := (owns15 w w.heap.size (Nat.le_refl _)).later ((Below.refl _ _).alloc (Nat.le_refl _) _) (Nat.le_refl _)
  have hO2 : OwnI ((w.alloc (.cells #[.int .i64 4, .int .i64 999, .int .i64 7, .int .i64 8, .int .i64 5, .int .i64 1000000000, .int .i64 1000000, .int .i64 6, .int .i64 40, .int .i64 3, .int .i64 2, .int .i64 64, .int .i64 40, .int .i64 80, .int .i64 60] 3)).alloc (.cells #[.int .i64 4, .int .i64 999, .int .i64 7, .int .i64 8, .int .i64 5, .int .i64 1000000000, .int .i64 1000000, .int .i64 6, .int .i64 40, .int .i64 3, .int .i64 2, .int .i64 64, .int .i64 40, .int .i64 80, .int .i64 60] 3)) (w.heap.size + 1) (.slice (some ⟨w.heap.size + 1, 0, Option.none⟩) 15 15) first15 := by
    have := owns15 (w.alloc (.cells #[.int .i64 4, .int .i64 999, .int .i64 7, .int .i64 8, .int .i64 5, .int .i64 1000000000, .int .i64 1000000, .int .i64 6, .int .i64 40, .int .i64 3, .int .i64 2, .int .i64 64, .int .i64 40, .int .i64 80, .int .i64 60] 3)) (w.heap.size + 1) (by simp)
    simpa using this
  have bw0 : Below w.heap.size w ((w.alloc (.cells #[.int .i64 4, .int .i64 999, .int .i64 7, .int .i64 8, .int .i64 5, .int .i64 1000000000, .int .i64 1000000, .int .i64 6, .int .i64 40, .int .i64 3, .int .i64 2, .int .i64 64, .int .i64 40, .int .i64 80, .int .i64 60] 3)).alloc (.cells #[.int .i64 4, .int .i64 999, .int .i64 7, .int .i64 8, .int .i64 5, .int .i64 1000000000, .int .i64 1000000, .int .i64 6, .int .i64 40, .int .i64 3, .int .i64 2, .int .i64 64, .int .i64 40, .int .i64 80, .int .i64 60] 3)) := ((Below.refl _ _).alloc (Nat.le_refl _) _).alloc (by simp) _
  have hs0 : ((w.alloc (.cells #[.int .i64 4, .int .i64 999, .int .i64 7, .int .i64 8, .int .i64 5, .int .i64 1000000000, .int .i64 1000000, .int .i64 6, .int .i64 40, .int .i64 3, .int .i64 2, .int .i64 64, .int .i64 40, .int .i64 80, .int .i64 60] 3)).alloc (.cells #[.int .i64 4, .int .i64 999, .int .i64 7, .int .i64 8, .int .i64 5, .int .i64 1000000000, .int .i64 1000000, .int .i64 6, .int .i64 40, .int .i64 3, .int .i64 2, .int .i64 64, .int .i64 40, .int .i64 80, .int .i64 60] 3)).heap.size = w.heap.size + 2 := by simp
  have HO1 : Hid (OwnI ((w.alloc (.cells #[.int .i64 4, .int .i64 999, .int .i64 7, .int .i64 8, .int .i64 5, .int .i64 1000000000, .int .i64 1000000, .int .i64 6, .int .i64 40, .int .i64 3, .int .i64 2, .int .i64 64, .int .i64 40, .int .i64 80, .int .i64 60] 3)).alloc (.cells #[.int .i64 4, .int .i64 999, .int .i64 7, .int .i64 8, .int .i64 5, .int .i64 1000000000, .int .i64 1000000, .int .i64 6, .int .i64 40, .int .i64 3, .int .i64 2, .int .i64 64, .int .i64 40, .int .i64 80, .int .i64 60] 3)) w.heap.size (.slice (some ⟨w.heap.size, 0, Option.none⟩) 15 15) first15) := hO1
  have HO2 : Hid (OwnI ((w.alloc (.cells #[.int .i64 4, .int .i64 999, .int .i64 7, .int .i64 8, .int .i64 5, .int .i64 1000000000, .int .i64 1000000, .int .i64 6, .int .i64 40, .int .i64 3, .int .i64 2, .int .i64 64, .int .i64 40, .int .i64 80, .int .i64 60] 3)).alloc (.cells #[.int .i64 4, .int .i64 999, .int .i64 7, .int .i64 8, .int .i64 5, .int .i64 1000000000, .int .i64 1000000, .int .i64 6, .int .i64 40, .int .i64 3, .int .i64 2, .int .i64 64, .int .i64 40, .int .i64 80, .int .i64 60] 3)) (w.heap.size + 1) (.slice (some ⟨w.heap.size + 1, 0, Option.none⟩) 15 15) first15) := hO2
  have HS : Hid (((w.alloc (.cells #[.int .i64 4, .int .i64 999, .int .i64 7, .int .i64 8, .int .i64 5, .int .i64 1000000000, .int .i64 1000000, .int .i64 6, .int .i64 40, .int .i64 3, .int .i64 2, .int .i64 64, .int .i64 40, .int .i64 80, .int .i64 60] 3)).alloc (.cells #[.int .i64 4, .int .i64 999, .int .i64 7, .int .i64 8, .int .i64 5, .int .i64 1000000000, .int .i64 1000000, .int .i64 6, .int .i64 40, .int .i64 3, .int .i64 2, .int .i64 64, .int .i64 40, .int .i64 80, .int .i64 60] 3)).heap.size = w.heap.size + 2) := hs0
  have HB : Hid (Below w.heap.size w ((w.alloc (.cells #[.int .i64 4, .int .i64 999, .int .i64 7, .int .i64 8, .int .i64 5, .int .i64 1000000000, .int .i64 1000000, .int .i64 6, .int .i64 40, .int .i64 3, .int .i64 2, .int .i64 64, .int .i64 40, .int .i64 80, .int .i64 60] 3)).alloc (.cells #[.int .i64 4, .int .i64 999, .int .i64 7, .int .i64 8, .int .i64 5, .int .i64 1000000000, .int .i64 1000000, .int .i64 6, .int .i64 40, .int .i64 3, .int .i64 2, .int .i64 64, .int .i64 40, .int .i64 80, .int .i64 60] 3))) := bw0
  clear hO1 hO2 hs0 bw0
  go_enter Tryd.func3, Tryd.ntmps3
  go_wp2_with (at_builtin; refine wpList_appL rfl _ _ rfl w.heap.size (.slice (some ⟨w.heap.size, 0, Option.none⟩) 15 15) first15 rest19 [.int .i64 1, .int .i64 3, .int .i64 5, .int .i64 6, .int .i64 7, .int .i64 8, .int .i64 1, .int .i64 2, .int .i64 3, .int .i64 4, .int .i64 5, .int .i64 6, .int .i64 7, .int .i64 8, .int .i64 9, .int .i64 1, .int .i64 2, .int .i64 3, .int .i64 4] rfl 19 rfl ((w.alloc (.cells #[.int .i64 4, .int .i64 999, .int .i64 7, .int .i64 8, .int .i64 5, .int .i64 1000000000, .int .i64 1000000, .int .i64 6, .int .i64 40, .int .i64 3, .int .i64 2, .int .i64 64, .int .i64 40, .int .i64 80, .int .i64 60] 3)).alloc (.cells #[.int .i64 4, .int .i64 999, .int .i64 7, .int .i64 8, .int .i64 5, .int .i64 1000000000, .int .i64 1000000, .int .i64 6, .int .i64 40, .int .i64 3, .int .i64 2, .int .i64 64, .int .i64 40, .int .i64 80, .int .i64 60] 3)) rfl (by simp [Act.eval]) HO1.out (by decide) (by rw [HS.out]; omega) ?_)
  intro a1 n1 c1 w1 ho1 hb1 hk1
  have hsz1 : w.heap.size + 2 ≤ w1.heap.size := by have := hb1.size; rw [HS.out] at this; exact this
  have bw1 := HB.out.trans hb1
  have HO3 : Hid (OwnI w1 (w.heap.size + 1) (.slice (some ⟨w.heap.size + 1, 0, Option.none⟩) 15 15) first15) := HO2.out.keep (fun k hk => hk1 k (by simp [Value.ownBlock] at hk; first | omega | (rw [HS.out]; omega)) (by simp [Value.ownBlock] at hk; first | omega | (simp [Value.ownBlock]; omega)))
  have HA1 : Hid (∀ k, (Value.slice a1 n1 c1).ownBlock = some k → k ≠ w.heap.size + 1) := ho1.apart HO3.out (by decide)
  have HO4 : Hid (OwnI w1 w.heap.size (.slice a1 n1 c1) (first15 ++ rest19)) := ho1
  clear hk1 ho1 HO1 HO2 HS HB hb1
  go_wp2_with (at_builtin; refine wpList_appL rfl _ _ rfl (w.heap.size + 1) (.slice (some ⟨w.heap.size + 1, 0, Option.none⟩) 15 15) first15 rest19 [.int .i64 1, .int .i64 3, .int .i64 5, .int .i64 6, .int .i64 7, .int .i64 8, .int .i64 1, .int .i64 2, .int .i64 3, .int .i64 4, .int .i64 5, .int .i64 6, .int .i64 7, .int .i64 8, .int .i64 9, .int .i64 1, .int .i64 2, .int .i64 3, .int .i64 4] rfl 19 rfl w1 rfl (by simp [Act.eval]) HO3.out (by decide) (by omega) ?_)
  intro a2 n2 c2 w2 ho2 hb2 hk2
  have bw2 := bw1.trans (hb2.mono (by omega))
  obtain ⟨a1', n1', c1', e1, hN1⟩ := (HO4.out.keep (X' := w2) (fun k hk => hk2 k (HO4.out.lt k hk) (by have := HA1.out k hk; first | omega | (simp [Value.ownBlock]; omega)))).form
  simp only [Value.slice.injEq] at e1
  obtain ⟨rfl, rfl, rfl⟩ := e1
  obtain ⟨a2', n2', c2', e2, hN2⟩ := ho2.form
  simp only [Value.slice.injEq] at e2
  obtain ⟨rfl, rfl, rfl⟩ := e2
  have HN1 : Hid (Nums w2 a1 n1 (first15 ++ rest19)) := hN1
  have HN2 : Hid (Nums w2 a2 n2 (first15 ++ rest19)) := hN2
  have bw3 : Below w.heap.size w (w2.alloc (.cells #[.iface 23 (.int .i64 1), .iface 23 (.int .i64 2), .iface 23 (.int .i64 3), .iface 23 (.int .i64 4), .iface 23 (.int .i64 5), .iface 23 (.int .i64 6), .iface 23 (.int .i64 7), .iface 23 (.int .i64 8), .iface 23 (.int .i64 9), .iface 23 (.int .i64 10), .iface 23 (.int .i64 11)] 27)) := bw2.alloc bw2.size _
  have b23 : Below w2.heap.size w2 (w2.alloc (.cells #[.iface 23 (.int .i64 1), .iface 23 (.int .i64 2), .iface 23 (.int .i64 3), .iface 23 (.int .i64 4), .iface 23 (.int .i64 5), .iface 23 (.int .i64 6), .iface 23 (.int .i64 7), .iface 23 (.int .i64 8), .iface 23 (.int .i64 9), .iface 23 (.int .i64 10), .iface 23 (.int .i64 11)] 27)) := (Below.refl _ _).alloc (Nat.le_refl _) _
  have hcells : ∀ k : Nat, k < 11 → (w2.alloc (.cells #[.iface 23 (.int .i64 1), .iface 23 (.int .i64 2), .iface 23 (.int .i64 3), .iface 23 (.int .i64 4), .iface 23 (.int .i64 5), .iface 23 (.int .i64 6), .iface 23 (.int .i64 7), .iface 23 (.int .i64 8), .iface 23 (.int .i64 9), .iface 23 (.int .i64 10), .iface 23 (.int .i64 11)] 27)).cell? ⟨w2.heap.size, k, Option.none⟩ = some (.iface 23 (.int .i64 ((k : Int) + 1))) := by
    intro k hk
    have hh : (w2.alloc (.cells #[.iface 23 (.int .i64 1), .iface 23 (.int .i64 2), .iface 23 (.int .i64 3), .iface 23 (.int .i64 4), .iface 23 (.int .i64 5), .iface 23 (.int .i64 6), .iface 23 (.int .i64 7), .iface 23 (.int .i64 8), .iface 23 (.int .i64 9), .iface 23 (.int .i64 10), .iface 23 (.int .i64 11)] 27)).heap[w2.heap.size]? = some (.cells #[.iface 23 (.int .i64 1), .iface 23 (.int .i64 2), .iface 23 (.int .i64 3), .iface 23 (.int .i64 4), .iface 23 (.int .i64 5), .iface 23 (.int .i64 6), .iface 23 (.int .i64 7), .iface 23 (.int .i64 8), .iface 23 (.int .i64 9), .iface 23 (.int .i64 10), .iface 23 (.int .i64 11)] 27 (0, 0)) := heap_alloc_new w2 _
    simp only [World.cell?, hh]
    match k, hk with
    | 0, _ => rfl
    | 1, _ => rfl
    | 2, _ => rfl
    | 3, _ => rfl
    | 4, _ => rfl
    | 5, _ => rfl
    | 6, _ => rfl
    | 7, _ => rfl
    | 8, _ => rfl
    | 9, _ => rfl
    | 10, _ => rfl
  have HC : Hid (∀ k : Nat, k < 11 → (w2.alloc (.cells #[.iface 23 (.int .i64 1), .iface 23 (.int .i64 2), .iface 23 (.int .i64 3), .iface 23 (.int .i64 4), .iface 23 (.int .i64 5), .iface 23 (.int .i64 6), .iface 23 (.int .i64 7), .iface 23 (.int .i64 8), .iface 23 (.int .i64 9), .iface 23 (.int .i64 10), .iface 23 (.int .i64 11)] 27)).cell? ⟨w2.heap.size, k, Option.none⟩ = some (.iface 23 (.int .i64 ((k : Int) + 1)))) := hcells
  clear hk2 ho2 hN1 hN2 HO3 HA1 HO4 hb2 hcells
  go_wp2
  go_loopw [4] (fun i wr => ∃ k : Nat, k ≤ 11 ∧ i = .int .i64 k ∧ wr = w2.alloc (.cells #[.iface 23 (.int .i64 1), .iface 23 (.int .i64 2), .iface 23 (.int .i64 3), .iface 23 (.int .i64 4), .iface 23 (.int .i64 5), .iface 23 (.int .i64 6), .iface 23 (.int .i64 7), .iface 23 (.int .i64 8), .iface 23 (.int .i64 9), .iface 23 (.int .i64 10), .iface 23 (.int .i64 11)] 27)) (fun i _ => 11 - (intOf i).toNat)
  case atStart => exact ⟨0, Nat.zero_le _, rfl, rfl⟩
  case round =>
    obtain ⟨k, hk, rfl, hwr⟩ := hrel
    by_cases hlt : k < 11
    · have hc := HC.out k hlt
      rw [← hwr] at hc
      have HW : Hid (wr = w2.alloc (.cells #[.iface 23 (.int .i64 1), .iface 23 (.int .i64 2), .iface 23 (.int .i64 3), .iface 23 (.int .i64 4), .iface 23 (.int .i64 5), .iface 23 (.int .i64 6), .iface 23 (.int .i64 7), .iface 23 (.int .i64 8), .iface 23 (.int .i64 9), .iface 23 (.int .i64 10), .iface 23 (.int .i64 11)] 27)) := hwr
      clear hwr
      go_wp2_with (go_at_call 4; refine (same_some ((k : Int) + 1) (by omega) _).mono ?_; rintro e w' ⟨rfl, rfl⟩)
      go_roundw
      case rel => exact ⟨k + 1, by omega, by go_num, HW.out⟩
      case measure => simp [intOf]; omega
    · have hlt' : decide ((k : Int) < 11) = false := by simp; omega
      have hb4 : Below w2.heap.size w2 wr := by rw [hwr]; exact b23
      have bw4 : Below w.heap.size w wr := by rw [hwr]; exact bw3
      clear hwr b23 bw3
      go_wp2_with fail
      refine (sameNums_any a1 a2 n1 n2 c1 c2 (first15 ++ rest19) _ (HN1.out.later hb4) (HN2.out.later hb4)).mono ?_
      rintro e w5 ⟨rfl, hb5⟩
      go_wp2_with (go_at_call 6; refine (error_10 _).mono ?_; rintro e w' ⟨rfl, rfl⟩)
      go_ret
      exact ⟨rfl, bw4.trans (hb5.mono bw4.size)⟩
end Go.Proofs.YtpbfekcbjdgnjaaDoor
