/- What hold.Others and the document's own Others answer, and that the document's comparison of numbers says yes of two equal lists. -/
import Derived.Test.YtpbfekcbjdgnjaaRWith
namespace Go.Proofs.Ytpbfekcbjdgnjaa
open Go.ChangeShapes Go.WideShapes Go.ChangeAt Go.RowKit

/-- A row of numbers in memory. -/
def Nums (w : World) (a : Option Addr) (n : Nat) (l : List Int) : Prop :=
  l.length = n ∧ n ≤ 9223372036854775807 ∧ (n ≠ 0 → ∃ b off, a = some ⟨b, off, Option.none⟩ ∧ ∀ i (h : i < l.length), w.cell? ⟨b, off + i, Option.none⟩ = some (.int .i64 l[i]))
theorem Nums.later {w w' : World} {a : Option Addr} {n : Nat} {l : List Int} (h : Nums w a n l) (hb : Below w.heap.size w w') : Nums w' a n l := by
  refine ⟨h.1, h.2.1, fun hn => ?_⟩
  obtain ⟨b, off, ha, hc⟩ := h.2.2 hn
  exact ⟨b, off, ha, fun i hi => cell_later hb (hc i hi)⟩

/-- Numbers in a row of the call's own. -/
def OwnI (w : World) (base : Nat) (v : Value) (l : List Int) : Prop := w.ownsRow base 3 1 v l.length (l.map (Value.int .i64))
theorem OwnI.form {w : World} {base : Nat} {v : Value} {l : List Int} (h : OwnI w base v l) : ∃ a n c, v = .slice a n c ∧ Nums w a n l := by
  rcases h.2 with ⟨rfl, h0⟩ | ⟨g, cap, cur, rfl, hb, hg, hnc, hcm, hs, ht⟩
  · have : l = [] := List.eq_nil_of_length_eq_zero h0
    subst this
    exact ⟨_, _, _, rfl, rfl, by decide, fun h => absurd rfl h⟩
  · have hm : cap ≤ 9223372036854775807 := by simpa [maxLen] using hcm
    refine ⟨_, _, _, rfl, rfl, by omega, fun _ => ⟨g, 0, rfl, fun i hi => ?_⟩⟩
    have := World.ownsRow.cellAt h i (by omega)
    rw [Nat.zero_add, this]
    simp [hi]
theorem OwnI.later {X X' : World} {base B : Nat} {v : Value} {l : List Int} (h : OwnI X base v l) (hb : Below B X X') (hB : X.heap.size ≤ B) : OwnI X' base v l := by
  refine ⟨h.1, ?_⟩
  rcases h.2 with h0 | ⟨g, cap, cur, e, h1, hg, h2⟩
  · exact .inl h0
  · have := (Array.getElem?_eq_some_iff.1 hg).1
    exact .inr ⟨g, cap, cur, e, h1, by rw [hb.block g (by omega)]; exact hg, h2⟩
theorem OwnI.block {w : World} {base : Nat} {v : Value} {l : List Int} (h : OwnI w base v l) : ∀ k, v.ownBlock = some k → base ≤ k := by
  intro k hk
  rcases h.2 with ⟨rfl, _⟩ | ⟨g, cap, cur, rfl, hb, _⟩
  · cases hk
  · simp [Value.ownBlock] at hk; omega

theorem zero_int : ∃ i, Try.prog.info? 3 = some i ∧ i.zero = some (.int .i64 0) ∧ i.size = 1 ∧ i.bytes = 8 := by
  have h : (Try.prog.info? 3).map (fun i => (i.zero, i.size, i.bytes)) = some (some (.int .i64 0), 1, 8) := by kernel_rfl
  cases hi : Try.prog.info? 3 with
  | none => rw [hi] at h; cases h
  | some i => rw [hi] at h; simp at h; exact ⟨i, rfl, h.1, h.2.1, h.2.2⟩

/-- 'append' of one number that lies in a new block. -/
theorem wpList_appI {ops : Array Oper} {rest : List Oper} {o : Oper} {a : Act} {Q : Exit → Act → World → Prop} (hgd : o.guard = Option.none) (s x : Operand) (hop : o.op = .call { callee := .builtin .append, args := #[s, x], argTypes := #[41, 41] })
    (base : Nat) (u : Value) (acc : List Int) (p : Int) (X : World) (hs : a.eval s = u) (hx : a.eval x = .slice (some ⟨X.heap.size, 0, Option.none⟩) 1 1) (ho : OwnI X base u acc) (hl : acc.length ≤ 1000000) (hb : base ≤ X.heap.size)
    (h : ∀ a' n' c' w', OwnI w' base (.slice a' n' c') (acc ++ [p]) → Below base X w' → wpList Try.prog ops Q rest (a.put o.dst (.slice a' n' c')) w') :
    wpList Try.prog ops Q (o :: rest) a (X.alloc (.cells #[.int .i64 p] 3)) := by
  obtain ⟨i0, hi, hz0, hz1, hz2⟩ := zero_int
  have hX : Below X.heap.size X (X.alloc (.cells #[.int .i64 p] 3)) := (Below.refl _ _).alloc (Nat.le_refl _) _
  have ho' := ho.later hX (Nat.le_refl _)
  refine wpList_append_own _ hgd s x 41 hop base 3 i0 _ 1 8 Try.underlying41 hi hz0 hz1 hz2 rfl (by decide) u acc.length _ hs ho' ⟨X.heap.size, 0, Option.none⟩ 1 1 [.int .i64 p] hx rfl
    (fun j v hj => by cases j with
      | zero => simp at hj; subst hj; simp [Addr.add, go_sem]
      | succ j => simp at hj) (fun v hv => by simp at hv; subst hv; rfl) (by simp only [maxLen]; omega) (by omega) (by have := hX.size; omega) ?_
  intro v' w' hown hgrow hnil
  have hO : OwnI w' base v' (acc ++ [p]) := by
    have e : (acc ++ [p]).length = acc.length + 1 := by simp
    unfold OwnI
    rw [e, List.map_append]
    exact hown
  obtain ⟨a', n', c', rfl, _⟩ := hO.form
  exact h _ _ _ w' hO ((hX.mono hb).grown hgrow (by have := hX.size; omega) ho.block)

/-- The others who are known. -/
def othersL (l : List (Int × Int)) (who : Int) : List Int := (kept who l).map (·.1)
theorem others_step (l : List (Int × Int)) (who : Int) (k : Nat) (h : k < l.length) : othersL (l.take (k + 1)) who = if l[k].1 = who then othersL (l.take k) who else othersL (l.take k) who ++ [l[k].1] := by
  unfold othersL
  rw [kept_take_succ who l k h]
  split <;> simp
theorem others_len (l : List (Int × Int)) (who : Int) (k : Nat) : (othersL (l.take k) who).length ≤ k := by
  unfold othersL
  rw [List.length_map]
  exact Nat.le_trans (kept_le _ _) (by simp; omega)

set_option maxHeartbeats 4000000 in
theorem others_any (g t h : Int) (a : Option Addr) (n c : Nat) (y : Bool) (l : List (Int × Int)) (who : Int) (w : World) (hr : Row w a n l) (hn : n ≤ 1000000) :
    Calls Try.prog 24 #[.agg #[.int .i64 g, .slice a n c, .int .i64 t, .int .i64 h, .bool y], .int .i64 who] w fun e w' => ∃ a' n' c', e = .returned (.slice a' n' c') ∧ Nums w' a' n' (othersL l who) ∧ Below w.heap.size w w' := by
  have hl := hr.1
  go_enter Try.func24, Try.ntmps24
  go_wp2
  go_loopw [5, 11] (fun u i wr => ∃ (k : Nat) (a' : Option Addr) (n' c' : Nat), k ≤ n ∧ u = .slice a' n' c' ∧ i = .int .i64 k ∧ OwnI wr w.heap.size (.slice a' n' c') (othersL (l.take k) who) ∧ Below w.heap.size w wr) (fun _ i _ => n - (intOf i).toNat)
  case atStart => exact ⟨0, Option.none, 0, 0, Nat.zero_le _, rfl, rfl, ⟨rfl, .inl ⟨rfl, rfl⟩⟩, (Below.refl _ _).alloc (Nat.le_refl _) _⟩
  case round =>
    obtain ⟨k, a1, n1, c1, hk, rfl, rfl, ho, bw⟩ := hrel
    have hlen := others_len l who k
    have hsz := bw.size
    by_cases hlt : k < n
    · have HSt : Hid (othersL (l.take (k + 1)) who = if l[k].1 = who then othersL (l.take k) who else othersL (l.take k) who ++ [l[k].1]) := others_step l who k (by omega)
      obtain ⟨b, off, rfl, hc⟩ := (hr.later bw).2.2 (by omega)
      obtain ⟨hc0, hc1⟩ := hc k (by omega)
      clear hc
      generalize hst : othersL (l.take k) who = acc at *
      have HO : Hid (OwnI wr w.heap.size (.slice a1 n1 c1) acc) := ho
      clear ho hst
      by_cases heq : l[k].1 = who
      · have hb9 : (l[k].1 != who) = false := by simpa using heq
        have HN : Hid (othersL (l.take (k + 1)) who = acc) := by show _ = _; rw [HSt.out, if_pos heq]
        clear heq
        go_wp2
        go_roundw
        case rel => exact ⟨k + 1, a1, n1, c1, by omega, rfl, by go_num, by rw [HN.out]; exact HO.out.later ((Below.refl _ _).alloc (Nat.le_refl _) _) (Nat.le_refl _), bw.alloc hsz _⟩
        case measure => simp [intOf]; omega
      · have hb9 : (l[k].1 != who) = true := by simpa using heq
        have HN : Hid (othersL (l.take (k + 1)) who = acc ++ [l[k].1]) := by show _ = _; rw [HSt.out, if_neg heq]
        have HO1 : Hid (OwnI (wr.alloc (.cells #[.int .i64 l[k].1, .int .i64 l[k].2] 27)) w.heap.size (.slice a1 n1 c1) acc) := HO.out.later ((Below.refl _ _).alloc (Nat.le_refl _) _) (Nat.le_refl _)
        have bw1 := bw.alloc hsz (.cells #[.int .i64 l[k].1, .int .i64 l[k].2] 27)
        have hsz1 := bw1.size
        clear heq
        go_wp2_with (at_builtin; refine wpList_appI rfl _ _ rfl w.heap.size (.slice a1 n1 c1) acc l[k].1 (wr.alloc (.cells #[.int .i64 l[k].1, .int .i64 l[k].2] 27)) rfl (by simp [Act.eval]) HO1.out (by omega) hsz1 ?_)
        intro a2 n2 c2 w1 ho1 hb1
        have HO2 : Hid (OwnI w1 w.heap.size (.slice a2 n2 c2) (acc ++ [l[k].1])) := ho1
        clear ho1
        go_wp2
        go_roundw
        case rel => exact ⟨k + 1, a2, n2, c2, by omega, rfl, by go_num, by rw [HN.out]; exact HO2.out, bw1.trans hb1⟩
        case measure => simp [intOf]; omega
    · have hkn : k = n := by omega
      subst hkn
      have hst : othersL (l.take k) who = othersL l who := by rw [List.take_of_length_le (by omega)]
      rw [hst] at ho
      obtain ⟨a2, n2, c2, e, hnum⟩ := ho.form
      simp only [Value.slice.injEq] at e
      obtain ⟨rfl, rfl, rfl⟩ := e
      have HA : Hid (Nums wr a1 n1 (othersL l who)) := hnum
      clear hnum ho hst
      go_wp2
      go_ret
      exact ⟨a1, n1, c1, rfl, HA.out, bw⟩

set_option maxHeartbeats 4000000 in
theorem rothers_any (g t h : Int) (a : Option Addr) (n c : Nat) (y : Bool) (l : List (Int × Int)) (who : Int) (w : World) (hr : Row w a n l) (hn : n ≤ 1000000) :
    Calls Try.prog 25 #[.agg #[.int .i64 g, .slice a n c, .int .i64 t, .int .i64 h, .bool y], .int .i64 who] w fun e w' => ∃ a' n' c', e = .returned (.slice a' n' c') ∧ Nums w' a' n' (othersL l who) ∧ Below w.heap.size w w' := by
  have hl := hr.1
  go_enter Try.func25, Try.ntmps25
  go_wp2
  go_loopw [5, 6] (fun u i wr => ∃ (k : Nat) (a' : Option Addr) (n' c' : Nat), k ≤ n ∧ u = .slice a' n' c' ∧ i = .int .i64 k ∧ OwnI wr (w.heap.size + 1) (.slice a' n' c') (othersL (l.take k) who) ∧ B5 wr w.heap.size (.int .i64 g) (.slice a n c) (.int .i64 t) (.int .i64 h) (.bool y) ∧ Below w.heap.size w wr ∧ w.heap.size + 1 ≤ wr.heap.size) (fun _ i _ => n - (intOf i).toNat)
  case atStart => exact ⟨0, Option.none, 0, 0, Nat.zero_le _, rfl, rfl, ⟨rfl, .inl ⟨rfl, rfl⟩⟩, box5 (Below.refl _ _), (Below.refl _ _).alloc (Nat.le_refl _) _, by simp⟩
  case round =>
    obtain ⟨k, a1, n1, c1, hk, rfl, rfl, ho, hbx, bw, hsz⟩ := hrel
    have hlen := others_len l who k
    obtain ⟨b0, b1, b2, b3, b4⟩ := id hbx
    by_cases hlt : k < n
    · have HSt : Hid (othersL (l.take (k + 1)) who = if l[k].1 = who then othersL (l.take k) who else othersL (l.take k) who ++ [l[k].1]) := others_step l who k (by omega)
      obtain ⟨b, off, rfl, hc⟩ := (hr.later bw).2.2 (by omega)
      obtain ⟨hc0, hc1⟩ := hc k (by omega)
      clear hc
      generalize hst : othersL (l.take k) who = acc at *
      have HO : Hid (OwnI wr (w.heap.size + 1) (.slice a1 n1 c1) acc) := ho
      clear ho hst
      by_cases heq : l[k].1 = who
      · have hb9 : (l[k].1 != who) = false := by simpa using heq
        have HN : Hid (othersL (l.take (k + 1)) who = acc) := by show _ = _; rw [HSt.out, if_pos heq]
        clear heq
        go_wp2
        go_roundw
        case rel => exact ⟨k + 1, a1, n1, c1, by omega, rfl, by go_num, by rw [HN.out]; exact HO.out, hbx, bw, hsz⟩
        case measure => simp [intOf]; omega
      · have hb9 : (l[k].1 != who) = true := by simpa using heq
        have HN : Hid (othersL (l.take (k + 1)) who = acc ++ [l[k].1]) := by show _ = _; rw [HSt.out, if_neg heq]
        clear heq
        go_wp2_with (at_builtin; refine wpList_appI rfl _ _ rfl (w.heap.size + 1) (.slice a1 n1 c1) acc l[k].1 _ rfl rfl HO.out (by omega) hsz ?_)
        intro a2 n2 c2 w1 ho1 hb1
        have HO2 : Hid (OwnI w1 (w.heap.size + 1) (.slice a2 n2 c2) (acc ++ [l[k].1])) := ho1
        have hbx1 : B5 w1 w.heap.size (.int .i64 g) (.slice (some ⟨b, off, Option.none⟩) n c) (.int .i64 t) (.int .i64 h) (.bool y) := by
          refine ⟨?_, ?_, ?_, ?_, ?_⟩
          · rw [hb1.cell (p := ⟨w.heap.size, 0, Option.none⟩) (Nat.lt_succ_self _)]; exact b0
          · rw [hb1.cell (p := ⟨w.heap.size, 1, Option.none⟩) (Nat.lt_succ_self _)]; exact b1
          · rw [hb1.cell (p := ⟨w.heap.size, 2, Option.none⟩) (Nat.lt_succ_self _)]; exact b2
          · rw [hb1.cell (p := ⟨w.heap.size, 3, Option.none⟩) (Nat.lt_succ_self _)]; exact b3
          · rw [hb1.cell (p := ⟨w.heap.size, 4, Option.none⟩) (Nat.lt_succ_self _)]; exact b4
        clear ho1 b0 b1 b2 b3 b4 hc0 hc1
        go_wp2
        go_roundw
        case rel => exact ⟨k + 1, a2, n2, c2, by omega, rfl, by go_num, by rw [HN.out]; exact HO2.out, hbx1, bw.trans (hb1.mono (by omega)), by have := hb1.size; omega⟩
        case measure => simp [intOf]; omega
    · have hkn : k = n := by omega
      subst hkn
      have hlt' : decide ((k : Int) < (k : Int)) = false := by simp
      have hst : othersL (l.take k) who = othersL l who := by rw [List.take_of_length_le (by omega)]
      rw [hst] at ho
      obtain ⟨a2, n2, c2, e, hnum⟩ := ho.form
      simp only [Value.slice.injEq] at e
      obtain ⟨rfl, rfl, rfl⟩ := e
      have HA : Hid (Nums wr a1 n1 (othersL l who)) := hnum
      clear hnum ho hst
      go_wp2
      go_ret
      exact ⟨a1, n1, c1, rfl, HA.out, bw⟩

set_option maxHeartbeats 2000000 in
theorem sameNums_any (a a' : Option Addr) (n n' c c' : Nat) (l : List Int) (w : World) (hr : Nums w a n l) (hr' : Nums w a' n' l) :
    Calls Try.prog 23 #[.slice a n c, .slice a' n' c'] w fun e w' => e = .returned (.bool true) ∧ Below w.heap.size w w' := by
  obtain ⟨hl, hn, hrow⟩ := hr
  obtain ⟨hl', hn', hrow'⟩ := hr'
  have hnn : n' = n := by omega
  subst hnn
  go_enter Try.func23, Try.ntmps23
  go_wp2
  go_loopw [5] (fun i wr => ∃ k : Nat, k ≤ n' ∧ i = .int .i64 k ∧ Below w.heap.size w wr) (fun i _ => n' - (intOf i).toNat)
  case atStart => exact ⟨0, Nat.zero_le _, rfl, Below.refl _ _⟩
  case round =>
    obtain ⟨k, hk, rfl, bw⟩ := hrel
    by_cases hlt : k < n'
    · obtain ⟨b, off, rfl, hc⟩ := hrow (by omega)
      obtain ⟨b', off', rfl, hc'⟩ := hrow' (by omega)
      have hc0 := cell_later bw (hc k (by omega))
      have hc1 := cell_later bw (hc' k (by omega))
      have hki : (k : Int) < (n' : Int) := by omega
      clear hc hc' hrow hrow'
      go_wp2
      go_quiet (fail)
      go_wp2
      go_roundw
      case rel => exact ⟨k + 1, by omega, by go_num, below_drewN bw _⟩
      case measure => simp [intOf]; omega
    · have hlt' : decide ((k : Int) < (n' : Int)) = false := by simp; omega
      go_wp2
      go_ret
      exact ⟨rfl, bw⟩
end Go.Proofs.Ytpbfekcbjdgnjaa
