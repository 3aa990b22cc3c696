/- What order.tells and the document's own tellAll answer: one and the same to each. No statement of the seat is proved here. -/
import Derived.Test.YtokjacbipmfjkaaOLeaf
namespace Go.Proofs.Ytokjacbipmfjkaa
open Go.ChangeShapes Go.WideShapes Go.ChangeAt Go.RowKit

/-- The same is told to each. -/
def tellL (l : List Int) (what : Int) : List (Int × Int) := l.map fun x => (x, what)
theorem tellL_len (l : List Int) (what : Int) : (tellL l what).length = l.length := by simp [tellL]
theorem tellL_succ (l : List Int) (what : Int) (k : Nat) (h : k < l.length) : tellL (l.take (k + 1)) what = tellL (l.take k) what ++ [(l[k], what)] := by
  unfold tellL
  rw [List.take_succ_eq_append_getElem h, List.map_append]
  rfl

/-- Tells in a row of the call's own. -/
def OwnT (w : World) (base : Nat) (v : Value) (l : List (Int × Int)) : Prop := w.ownsRow base 52 2 v l.length (flat l)
theorem OwnT.nil (w : World) (base : Nat) : OwnT w base (.slice Option.none 0 0) [] := ⟨rfl, .inl ⟨rfl, rfl⟩⟩
theorem OwnT.row {X : World} {base : Nat} {v : Value} {l : List (Int × Int)} (h : OwnT X base v l) : ∃ a n c, v = .slice a n c ∧ Row X a n l := by
  rcases h.2 with ⟨rfl, h0⟩ | ⟨g, cap, cur, rfl, hb, hg, hnc, hcm, hs, ht⟩
  · have : l = [] := List.eq_nil_of_length_eq_zero h0
    subst this
    exact ⟨_, _, _, rfl, row_nil _⟩
  · have hm : cap ≤ 9223372036854775807 := by simpa [maxLen] using hcm
    refine ⟨_, _, _, rfl, rfl, by omega, fun _ => ⟨g, 0, rfl, fun i hi => ?_⟩⟩
    have h1 := World.ownsRow.cellAt h (i * 2) (by omega)
    have h2 := World.ownsRow.cellAt h (i * 2 + 1) (by omega)
    rw [flat_even l i hi] at h1
    rw [flat_odd l i hi] at h2
    simpa using ⟨h1, h2⟩
theorem OwnT.later {X X' : World} {base B : Nat} {v : Value} {l : List (Int × Int)} (h : OwnT X base v l) (hb : Below B X X') (hB : X.heap.size ≤ B) : OwnT X' base v l := by
  refine ⟨h.1, ?_⟩
  rcases h.2 with h0 | ⟨g, cap, cur, e, h1, hg, h2⟩
  · exact .inl h0
  · have := (Array.getElem?_eq_some_iff.1 hg).1
    exact .inr ⟨g, cap, cur, e, h1, by rw [hb.block g (by omega)]; exact hg, h2⟩
theorem OwnT.block {w : World} {base : Nat} {v : Value} {l : List (Int × Int)} (h : OwnT w base v l) : ∀ k, v.ownBlock = some k → base ≤ k := by
  intro k hk
  rcases h.2 with ⟨rfl, _⟩ | ⟨g, cap, cur, rfl, hb, _⟩
  · cases hk
  · simp [Value.ownBlock] at hk; omega

theorem OwnT.far {w : World} {base : Nat} {a : Option Addr} {n c : Nat} {l : List (Int × Int)} (h : OwnT w base (.slice a n c) l) : Far base a := by
  rintro ad rfl
  exact h.block ad.block (by simp [Value.ownBlock])

theorem zero_tell : ∃ i, Try.prog.info? 52 = some i ∧ i.zero = some (.agg #[.int .i64 0, .int .i64 0]) ∧ i.size = 2 ∧ i.bytes = 16 := by
  have h : (Try.prog.info? 52).map (fun i => (i.zero, i.size, i.bytes)) = some (some (.agg #[.int .i64 0, .int .i64 0]), 2, 16) := by kernel_rfl
  cases hi : Try.prog.info? 52 with
  | none => rw [hi] at h; cases h
  | some i => rw [hi] at h; simp at h; exact ⟨i, rfl, h.1, h.2.1, h.2.2⟩

/-- 'append' of one tell that lies in a new block. -/
theorem wpList_appT {ops : Array Oper} {rest : List Oper} {o : Oper} {a : Act} {Q : Exit → Act → World → Prop} (hgd : o.guard = Option.none) (s x : Operand) (hop : o.op = .call { callee := .builtin .append, args := #[s, x], argTypes := #[32, 32] })
    (base : Nat) (u : Value) (acc : List (Int × Int)) (p q : Int) (X : World) (hs : a.eval s = u) (hx : a.eval x = .slice (some ⟨X.heap.size, 0, Option.none⟩) 1 1) (ho : OwnT X base u acc) (hl : acc.length ≤ 1000000) (hb : base ≤ X.heap.size)
    (h : ∀ a' n' c' w', OwnT w' base (.slice a' n' c') (acc ++ [(p, q)]) → Below base X w' → wpList Try.prog ops Q rest (a.put o.dst (.slice a' n' c')) w') :
    wpList Try.prog ops Q (o :: rest) a (X.alloc (.cells #[.int .i64 p, .int .i64 q] 52)) := by
  obtain ⟨i0, hi, hz0, hz1, hz2⟩ := zero_tell
  have hX : Below X.heap.size X (X.alloc (.cells #[.int .i64 p, .int .i64 q] 52)) := (Below.refl _ _).alloc (Nat.le_refl _) _
  have ho' := ho.later hX (Nat.le_refl _)
  refine wpList_append_own _ hgd s x 32 hop base 52 i0 _ 2 16 Try.underlying32 hi hz0 hz1 hz2 rfl (by decide) u acc.length (flat acc) hs ho' ⟨X.heap.size, 0, Option.none⟩ 1 1 [.int .i64 p, .int .i64 q] hx rfl
    (one_news (by simp [go_sem]) (by simp [go_sem])) (one_one p q) (by simp only [maxLen]; omega) (by omega) (by have := hX.size; omega) ?_
  intro v' w' hown hgrow _
  have hO : OwnT w' base v' (acc ++ [(p, q)]) := by
    have hfl : (acc ++ [(p, q)]).length = acc.length + 1 := by simp
    unfold OwnT
    rw [hfl, flat_append]
    exact hown
  obtain ⟨a', n', c', rfl, _⟩ := hO.row
  exact h _ _ _ w' hO ((hX.mono hb).grown hgrow (by have := hX.size; omega) ho.block)

set_option maxHeartbeats 4000000 in
theorem tells_any (a : Option Addr) (n c : Nat) (l : List Int) (what : Int) (w : World) (hr : Nums w a n l) (hn : n ≤ 1000000) :
    Calls Try.prog 49 #[.slice a n c, .int .i64 what] w fun e w' => ∃ a' n' c', e = .returned (.slice a' n' c') ∧ Row w' a' n' (tellL l what) ∧ Below w.heap.size w w' ∧ Far w.heap.size a' := by
  have hl := hr.1
  go_enter Try.func49, Try.ntmps49
  go_wp2
  go_loopw [5, 10] (fun u i wr => ∃ (k : Nat) (a' : Option Addr) (n' c' : Nat), k ≤ n ∧ u = .slice a' n' c' ∧ i = .int .i64 k ∧ OwnT wr w.heap.size (.slice a' n' c') (tellL (l.take k) what) ∧ Below w.heap.size w wr) (fun _ i _ => n - (intOf i).toNat)
  case atStart => exact ⟨0, Option.none, 0, 0, Nat.zero_le _, rfl, rfl, OwnT.nil _ _, Below.refl _ _⟩
  case round =>
    obtain ⟨k, a1, n1, c1, hk, rfl, rfl, ho, bw⟩ := hrel
    have hsz := bw.size
    by_cases hlt : k < n
    · have HSt := tellL_succ l what k (by omega)
      have hlen : (tellL (l.take k) what).length ≤ 1000000 := by rw [tellL_len]; simp; omega
      obtain ⟨b, off, rfl, hc⟩ := (hr.later bw).2.2 (by omega)
      have hc0 := hc k (by omega)
      clear hc
      have hki : (k : Int) < (n : Int) := by omega
      generalize hst : tellL (l.take k) what = acc at *
      have HN : Hid (tellL (l.take (k + 1)) what = acc ++ [(l[k], what)]) := HSt
      have HO : Hid (OwnT wr w.heap.size (.slice a1 n1 c1) acc) := ho
      clear ho hst HSt
      go_wp2_with (at_builtin; refine wpList_appT rfl _ _ rfl w.heap.size (.slice a1 n1 c1) acc l[k] what wr rfl (by simp [Act.eval]) HO.out hlen hsz ?_)
      intro a2 n2 c2 w1 ho1 hb1
      have HO2 : Hid (OwnT w1 w.heap.size (.slice a2 n2 c2) (acc ++ [(l[k], what)])) := ho1
      clear ho1
      go_wp2
      go_roundw
      case rel => exact ⟨k + 1, a2, n2, c2, by omega, rfl, by go_num, by rw [HN.out]; exact HO2.out, bw.trans hb1⟩
      case measure => simp [intOf]; omega
    · have hkn : k = n := by omega
      subst hkn
      have hst : tellL (l.take k) what = tellL l what := by rw [List.take_of_length_le (by omega)]
      rw [hst] at ho
      have hfar := ho.far
      obtain ⟨a2, n2, c2, e, hnum⟩ := ho.row
      simp only [Value.slice.injEq] at e
      obtain ⟨rfl, rfl, rfl⟩ := e
      have HA : Hid (Row wr a1 n1 (tellL l what)) := hnum
      have HFar : Hid (Far w.heap.size a1) := hfar
      clear hnum ho hst hfar
      go_wp2
      go_ret
      exact ⟨a1, n1, c1, rfl, HA.out, bw, HFar.out⟩

set_option maxHeartbeats 4000000 in
theorem tellAll_any (a : Option Addr) (n c : Nat) (l : List Int) (what : Int) (w : World) (hr : Nums w a n l) (hn : n ≤ 1000000) :
    Calls Try.prog 40 #[.slice a n c, .int .i64 what] w fun e w' => ∃ a' n' c', e = .returned (.slice a' n' c') ∧ Row w' a' n' (tellL l what) ∧ Below w.heap.size w w' ∧ Far w.heap.size a' := by
  have hl := hr.1
  go_enter Try.func40, Try.ntmps40
  go_wp2
  go_loopw [5, 6] (fun u i wr => ∃ (k : Nat) (a' : Option Addr) (n' c' : Nat), k ≤ n ∧ u = .slice a' n' c' ∧ i = .int .i64 k ∧ OwnT wr w.heap.size (.slice a' n' c') (tellL (l.take k) what) ∧ Below w.heap.size w wr) (fun _ i _ => n - (intOf i).toNat)
  case atStart => exact ⟨0, Option.none, 0, 0, Nat.zero_le _, rfl, rfl, OwnT.nil _ _, Below.refl _ _⟩
  case round =>
    obtain ⟨k, a1, n1, c1, hk, rfl, rfl, ho, bw⟩ := hrel
    have hsz := bw.size
    by_cases hlt : k < n
    · have HSt := tellL_succ l what k (by omega)
      have hlen : (tellL (l.take k) what).length ≤ 1000000 := by rw [tellL_len]; simp; omega
      obtain ⟨b, off, rfl, hc⟩ := (hr.later bw).2.2 (by omega)
      have hc0 := hc k (by omega)
      clear hc
      have hki : (k : Int) < (n : Int) := by omega
      generalize hst : tellL (l.take k) what = acc at *
      have HN : Hid (tellL (l.take (k + 1)) what = acc ++ [(l[k], what)]) := HSt
      have HO : Hid (OwnT wr w.heap.size (.slice a1 n1 c1) acc) := ho
      clear ho hst HSt
      go_wp2_with (at_builtin; refine wpList_appT rfl _ _ rfl w.heap.size (.slice a1 n1 c1) acc l[k] what wr rfl (by simp [Act.eval]) HO.out hlen hsz ?_)
      intro a2 n2 c2 w1 ho1 hb1
      have HO2 : Hid (OwnT w1 w.heap.size (.slice a2 n2 c2) (acc ++ [(l[k], what)])) := ho1
      clear ho1
      go_wp2
      go_roundw
      case rel => exact ⟨k + 1, a2, n2, c2, by omega, rfl, by go_num, by rw [HN.out]; exact HO2.out, bw.trans hb1⟩
      case measure => simp [intOf]; omega
    · have hkn : k = n := by omega
      subst hkn
      have hlt' : decide ((k : Int) < (k : Int)) = false := by simp
      have hst : tellL (l.take k) what = tellL l what := by rw [List.take_of_length_le (by omega)]
      rw [hst] at ho
      have hfar := ho.far
      obtain ⟨a2, n2, c2, e, hnum⟩ := ho.row
      simp only [Value.slice.injEq] at e
      obtain ⟨rfl, rfl, rfl⟩ := e
      have HA : Hid (Row wr a1 n1 (tellL l what)) := hnum
      have HFar : Hid (Far w.heap.size a1) := hfar
      clear hnum ho hst hfar
      go_wp2
      go_ret
      exact ⟨a1, n1, c1, rfl, HA.out, bw, HFar.out⟩
end Go.Proofs.Ytokjacbipmfjkaa
