/- What the document's own With answers, for every state with not too many who are known, anybody and any key. -/
import Derived.Test.YtokjacbipmfjkaaWith
namespace Go.Proofs.Ytokjacbipmfjkaa
open Go.ChangeShapes Go.WideShapes Go.ChangeAt Go.RowKit

/-- One step of the document's With: what is gathered, and whether who is asked for is laid. -/
def rwStep (who key : Int) (s : List (Int × Int) × Bool) (r : Int × Int) : List (Int × Int) × Bool :=
  if s.2 = false ∧ who ≤ r.1 then (if r.1 = who then (s.1 ++ [(who, key)], true) else (s.1 ++ [(who, key)] ++ [r], true)) else (if r.1 = who then s else (s.1 ++ [r], s.2))
/-- What is gathered behind k of them. -/
def rwTo (l : List (Int × Int)) (who key : Int) (k : Nat) : List (Int × Int) × Bool := (l.take k).foldl (rwStep who key) ([], key == 0)
theorem rwTo_succ (l : List (Int × Int)) (who key : Int) (k : Nat) (h : k < l.length) : rwTo l who key (k + 1) = rwStep who key (rwTo l who key k) l[k] := by
  unfold rwTo; rw [List.take_succ_eq_append_getElem h, List.foldl_append]; rfl
/-- The document's With. -/
def rwith (l : List (Int × Int)) (who key : Int) : List (Int × Int) := if (rwTo l who key l.length).2 then (rwTo l who key l.length).1 else (rwTo l who key l.length).1 ++ [(who, key)]
theorem rwTo_len (l : List (Int × Int)) (who key : Int) : ∀ k, k ≤ l.length → (rwTo l who key k).1.length ≤ 2 * k
  | 0, _ => by simp [rwTo]
  | k + 1, h => by
    have ih := rwTo_len l who key k (by omega)
    rw [rwTo_succ l who key k (by omega)]
    unfold rwStep
    split <;> split <;> simp <;> omega

theorem OwnV.toRow {w : World} {base : Nat} {v : Value} {l : List (Int × Int)} (h : OwnV w base v l) : w.ownsRow base 49 2 v l.length (flat l) := by
  rcases h with ⟨rfl, rfl⟩ | ⟨g, cap, rfl, ho⟩
  · exact ⟨rfl, .inl ⟨rfl, rfl⟩⟩
  · exact ho.toRow
theorem OwnV.block {w : World} {base : Nat} {v : Value} {l : List (Int × Int)} (h : OwnV w base v l) : ∀ k, v.ownBlock = some k → base ≤ k := by
  intro k hk
  rcases h with ⟨rfl, rfl⟩ | ⟨g, cap, rfl, ho⟩
  · cases hk
  · simp [Value.ownBlock] at hk; have := ho.1; omega

/-- 'append' of one registration that lies in a new block. -/
theorem wpList_app {ops : Array Oper} {rest : List Oper} {o : Oper} {a : Act} {Q : Exit → Act → World → Prop} (hgd : o.guard = Option.none) (s x : Operand) (hop : o.op = .call { callee := .builtin .append, args := #[s, x], argTypes := #[22, 22] })
    (base : Nat) (u : Value) (acc : List (Int × Int)) (p q : Int) (X : World) (hs : a.eval s = u) (hx : a.eval x = .slice (some ⟨X.heap.size, 0, Option.none⟩) 1 1) (ho : OwnV X base u acc) (hl : acc.length ≤ 1000000) (hb : base ≤ X.heap.size)
    (h : ∀ a' n' c' w', OwnV w' base (.slice a' n' c') (acc ++ [(p, q)]) → Below base X w' → wpList Try.prog ops Q rest (a.put o.dst (.slice a' n' c')) w') :
    wpList Try.prog ops Q (o :: rest) a (X.alloc (.cells #[.int .i64 p, .int .i64 q] 49)) := by
  obtain ⟨i0, hi, hz0, hz1, hz2⟩ := zero_reg
  have hX : Below X.heap.size X (X.alloc (.cells #[.int .i64 p, .int .i64 q] 49)) := (Below.refl _ _).alloc (Nat.le_refl _) _
  have ho' := ho.later hX (Nat.le_refl _)
  refine wpList_append_own _ hgd s x 22 hop base 49 i0 _ 2 16 Try.underlying22 hi hz0 hz1 hz2 rfl (by decide) u acc.length (flat acc) hs ho'.toRow ⟨X.heap.size, 0, Option.none⟩ 1 1 [.int .i64 p, .int .i64 q] hx rfl
    (one_news (by simp [go_sem]) (by simp [go_sem])) (one_one p q) (by simp only [maxLen]; omega) (by omega) (by have := hX.size; omega) ?_
  intro v' w' hown hgrow hnil
  have hfl : (acc ++ [(p, q)]).length = acc.length + 1 := by simp
  have hown' : w'.ownsRow base 49 2 v' (acc.length + 1) (flat (acc ++ [(p, q)])) := by rw [flat_append]; exact hown
  obtain ⟨g, cap, rfl, hO⟩ := Own.ofRow hfl hown' (by simpa using hnil)
  refine h _ _ _ w' (.inr ⟨g, cap, by rw [hfl], hO⟩) ?_
  exact (hX.mono hb).grown hgrow (by have := hX.size; omega) ho.block

/-- The two blocks that the document's With lays: its state, and what it hands back. -/
def Two (X : World) (N : Nat) (v0 v1 v2 v3 v4 : Value) : Prop :=
  X.heap[N]? = some (.cells #[v0, v1, v2, v3, v4] 24 (0, 0)) ∧ X.heap[N + 1]? = some (.cells #[.int .i64 0, .slice Option.none 0 0, .int .i64 0, .int .i64 0, .bool false] 24 (0, 0))
theorem Two.later {X X' : World} {N B : Nat} {v0 v1 v2 v3 v4 : Value} (h : Two X N v0 v1 v2 v3 v4) (hb : Below B X X') (hB : N + 2 ≤ B) : Two X' N v0 v1 v2 v3 v4 :=
  ⟨by rw [hb.block _ (by omega)]; exact h.1, by rw [hb.block _ (by omega)]; exact h.2⟩
theorem Two.start (w : World) (v0 v1 v2 v3 v4 : Value) :
    Two ((w.alloc (.cells #[v0, v1, v2, v3, v4] 24)).alloc (.cells #[.int .i64 0, .slice Option.none 0 0, .int .i64 0, .int .i64 0, .bool false] 24)) w.heap.size v0 v1 v2 v3 v4 := by
  refine ⟨?_, ?_⟩
  · rw [Below.heap_alloc _ _ _ (by simp)]; exact heap_alloc_new w _
  · simpa using heap_alloc_new (w.alloc (.cells #[v0, v1, v2, v3, v4] 24)) (.cells #[.int .i64 0, .slice Option.none 0 0, .int .i64 0, .int .i64 0, .bool false] 24)
theorem Two.cells {X : World} {N : Nat} {v0 v1 v2 v3 v4 : Value} (h : Two X N v0 v1 v2 v3 v4) :
    (X.cell? ⟨N, 0, Option.none⟩ = some v0 ∧ X.cell? ⟨N, 1, Option.none⟩ = some v1 ∧ X.cell? ⟨N, 2, Option.none⟩ = some v2 ∧ X.cell? ⟨N, 3, Option.none⟩ = some v3 ∧ X.cell? ⟨N, 4, Option.none⟩ = some v4 ∧ X.frozen? ⟨N, 1, Option.none⟩ = false) ∧
    (X.cell? ⟨N + 1, 0, Option.none⟩ = some (.int .i64 0) ∧ X.cell? ⟨N + 1, 1, Option.none⟩ = some (.slice Option.none 0 0) ∧ X.cell? ⟨N + 1, 2, Option.none⟩ = some (.int .i64 0) ∧ X.cell? ⟨N + 1, 3, Option.none⟩ = some (.int .i64 0) ∧ X.cell? ⟨N + 1, 4, Option.none⟩ = some (.bool false)) ∧
    (X.frozen? ⟨N + 1, 0, Option.none⟩ = false ∧ X.frozen? ⟨N + 1, 1, Option.none⟩ = false ∧ X.frozen? ⟨N + 1, 2, Option.none⟩ = false ∧ X.frozen? ⟨N + 1, 3, Option.none⟩ = false ∧ X.frozen? ⟨N + 1, 4, Option.none⟩ = false) := by
  obtain ⟨h1, h2⟩ := h
  simp [World.cell?, World.frozen?, h1, h2]

set_option maxHeartbeats 4000000 in
theorem rwith_any (g t h : Int) (a : Option Addr) (n c : Nat) (y : Bool) (l : List (Int × Int)) (who key : Int) (w : World) (hr : Row w a n l) (hn : n ≤ 100000) :
    Calls Try.prog 38 #[.agg #[.int .i64 g, .slice a n c, .int .i64 t, .int .i64 h, .bool y], .int .i64 who, .int .i64 key] w fun e w' =>
      ∃ a' n' c', e = .returned (.agg #[.int .i64 g, .slice a' n' c', .int .i64 t, .int .i64 h, .bool y]) ∧ Row w' a' n' (rwith l who key) ∧ Below w.heap.size w w' := by
  have hl := hr.1
  have T0 := Two.start w (.int .i64 g) (.slice a n c) (.int .i64 t) (.int .i64 h) (.bool y)
  have bw0 : Below w.heap.size w ((w.alloc (.cells #[.int .i64 g, .slice a n c, .int .i64 t, .int .i64 h, .bool y] 24)).alloc (.cells #[.int .i64 0, .slice Option.none 0 0, .int .i64 0, .int .i64 0, .bool false] 24)) :=
    ((Below.refl _ _).alloc (Nat.le_refl _) _).alloc (by simp) _
  have hs0 : ((w.alloc (.cells #[.int .i64 g, .slice a n c, .int .i64 t, .int .i64 h, .bool y] 24)).alloc (.cells #[.int .i64 0, .slice Option.none 0 0, .int .i64 0, .int .i64 0, .bool false] 24)).heap.size = w.heap.size + 2 := by simp
  have HS : Hid _ := hs0
  clear hs0
  go_enter Try.func38, Try.ntmps38
  go_wp2
  go_loopw [7, 8, 9] (fun u b i wr => ∃ (k : Nat) (a' : Option Addr) (n' c' : Nat), k ≤ n ∧ u = .slice a' n' c' ∧ b = .bool (rwTo l who key k).2 ∧ i = .int .i64 k ∧ OwnV wr (w.heap.size + 2) (.slice a' n' c') (rwTo l who key k).1 ∧ Two wr w.heap.size (.int .i64 g) (.slice a n c) (.int .i64 t) (.int .i64 h) (.bool y) ∧ Below w.heap.size w wr ∧ w.heap.size + 2 ≤ wr.heap.size) (fun _ _ i _ => n - (intOf i).toNat)
  case atStart => exact ⟨0, Option.none, 0, 0, Nat.zero_le _, rfl, rfl, rfl, .inl ⟨rfl, rfl⟩, T0, bw0, by rw [HS.out]; exact Nat.le_refl _⟩
  case round =>
    clear T0 bw0 HS
    obtain ⟨k, a1, n1, c1, hk, rfl, rfl, rfl, ho, T, bw, hsz⟩ := hrel
    have HO0 : Hid (OwnV wr (w.heap.size + 2) (.slice a1 n1 c1) (rwTo l who key k).1) := ho
    clear ho
    obtain ⟨⟨b0, b1, b2, b3, b4, f1⟩, ⟨e0, e1, e2, e3, e4⟩, q0, q1, q2, q3, q4⟩ := T.cells
    by_cases hlt : k < n
    · have hlen := rwTo_len l who key k (by omega)
      have HSt : Hid _ := rwTo_succ l who key k (by omega)
      obtain ⟨b, off, rfl, hc⟩ := (hr.later bw).2.2 (by omega)
      obtain ⟨hc0, hc1⟩ := hc k (by omega)
      clear hc
      have hcr : ∀ wx, Below w.heap.size w wx → wx.cell? ⟨b, off + k * 2, Option.none⟩ = some (.int .i64 l[k].1) ∧ wx.cell? ⟨b, off + k * 2 + 1, Option.none⟩ = some (.int .i64 l[k].2) := fun wx hb => by
        obtain ⟨b', off', e, hc'⟩ := (hr.later hb).2.2 (by omega)
        simp only [Option.some.injEq, Addr.mk.injEq, and_true] at e
        obtain ⟨rfl, rfl⟩ := e
        exact hc' k (by omega)
      have HC : Hid _ := hcr
      clear hcr
      generalize hst : rwTo l who key k = st at *
      obtain ⟨acc, laid⟩ := st
      simp only at hlen
      have HO : Hid (OwnV wr (w.heap.size + 2) (.slice a1 n1 c1) acc) := HO0
      clear HO0
      by_cases heq : l[k].1 = who
      · have hb9 : (l[k].1 != who) = false := by simpa using heq
        cases laid
        · have hge : who ≤ l[k].1 := by omega
          have HN : Hid (rwTo l who key (k + 1) = (acc ++ [(who, key)], true)) := by show _ = _; rw [HSt.out]; simp [rwStep, heq]
          clear hst heq
          go_wp2_with (at_builtin; refine wpList_app rfl _ _ rfl (w.heap.size + 2) (.slice a1 n1 c1) acc who key _ rfl rfl HO.out (by omega) (by omega) ?_)
          intro a2 n2 c2 w1 ho1 hb1
          clear b0 b1 b2 b3 b4 f1 e0 e1 e2 e3 e4 q0 q1 q2 q3 q4 hc0 hc1
          have T1 := T.later hb1 (Nat.le_refl _)
          have bw1 := bw.trans (hb1.mono (by omega))
          have hsz1 : w.heap.size + 2 ≤ w1.heap.size := by have := hb1.size; omega
          have HO1 : Hid (OwnV w1 (w.heap.size + 2) (.slice a2 n2 c2) (acc ++ [(who, key)])) := ho1
          clear ho1
          obtain ⟨⟨b0, b1, b2, b3, b4, f1⟩, ⟨e0, e1, e2, e3, e4⟩, q0, q1, q2, q3, q4⟩ := T1.cells
          obtain ⟨hc0, hc1⟩ := HC.out w1 bw1
          go_wp2
          go_roundw
          case rel => exact ⟨k + 1, a2, n2, c2, by omega, rfl, by rw [HN.out], by go_num, by rw [HN.out]; exact HO1.out, T1, bw1, hsz1⟩
          case measure => simp [intOf]; omega
        · have HN : Hid (rwTo l who key (k + 1) = (acc, true)) := by show _ = _; rw [HSt.out]; simp [rwStep, heq]
          clear hst heq
          go_wp2
          go_roundw
          case rel => exact ⟨k + 1, a1, n1, c1, by omega, rfl, by rw [HN.out], by go_num, by rw [HN.out]; exact HO.out, T, bw, hsz⟩
          case measure => simp [intOf]; omega
      · have hb9 : (l[k].1 != who) = true := by simpa using heq
        cases laid
        · by_cases hge : who ≤ l[k].1
          · have HN : Hid (rwTo l who key (k + 1) = (acc ++ [(who, key)] ++ [l[k]], true)) := by show _ = _; rw [HSt.out]; simp [rwStep, heq, hge]
            clear hst heq
            go_wp2_with (at_builtin; refine wpList_app rfl _ _ rfl (w.heap.size + 2) (.slice a1 n1 c1) acc who key _ rfl rfl HO.out (by omega) (by omega) ?_)
            intro a2 n2 c2 w1 ho1 hb1
            clear b0 b1 b2 b3 b4 f1 e0 e1 e2 e3 e4 q0 q1 q2 q3 q4 hc0 hc1
            have T1 := T.later hb1 (Nat.le_refl _)
            have bw1 := bw.trans (hb1.mono (by omega))
            have hsz1 : w.heap.size + 2 ≤ w1.heap.size := by have := hb1.size; omega
            have HO1 : Hid (OwnV w1 (w.heap.size + 2) (.slice a2 n2 c2) (acc ++ [(who, key)])) := ho1
            clear ho1
            obtain ⟨⟨b0, b1, b2, b3, b4, f1⟩, ⟨e0, e1, e2, e3, e4⟩, q0, q1, q2, q3, q4⟩ := T1.cells
            obtain ⟨hc0, hc1⟩ := HC.out w1 bw1
            go_wp2_with (at_builtin; refine wpList_app rfl _ _ rfl (w.heap.size + 2) (.slice a2 n2 c2) (acc ++ [(who, key)]) l[k].1 l[k].2 _ rfl rfl HO1.out (by rw [List.length_append]; simp only [List.length_cons, List.length_nil]; omega) (by omega) ?_)
            intro a3 n3 c3 w2 ho2 hb2
            have HO2 : Hid (OwnV w2 (w.heap.size + 2) (.slice a3 n3 c3) (acc ++ [(who, key)] ++ [(l[k].1, l[k].2)])) := by show OwnV _ _ _ _; simpa using ho2
            clear ho2
            go_wp2
            go_roundw
            case rel => exact ⟨k + 1, a3, n3, c3, by omega, rfl, by rw [HN.out], by go_num, by rw [HN.out]; exact HO2.out, T1.later hb2 (Nat.le_refl _), bw1.trans (hb2.mono (by omega)), by have := hb2.size; omega⟩
            case measure => simp [intOf]; omega
          · have hge' : decide (who ≤ l[k].1) = false := by simpa using hge
            have HN : Hid (rwTo l who key (k + 1) = (acc ++ [l[k]], false)) := by show _ = _; rw [HSt.out]; simp [rwStep, heq, hge]
            clear hst heq
            go_wp2_with (at_builtin; refine wpList_app rfl _ _ rfl (w.heap.size + 2) (.slice a1 n1 c1) acc l[k].1 l[k].2 _ rfl rfl HO.out (by omega) (by omega) ?_)
            intro a2 n2 c2 w1 ho1 hb1
            clear b0 b1 b2 b3 b4 f1 e0 e1 e2 e3 e4 q0 q1 q2 q3 q4 hc0 hc1
            have T1 := T.later hb1 (Nat.le_refl _)
            have bw1 := bw.trans (hb1.mono (by omega))
            have hsz1 : w.heap.size + 2 ≤ w1.heap.size := by have := hb1.size; omega
            have HO1 : Hid (OwnV w1 (w.heap.size + 2) (.slice a2 n2 c2) (acc ++ [(l[k].1, l[k].2)])) := ho1
            clear ho1
            go_wp2
            go_roundw
            case rel => exact ⟨k + 1, a2, n2, c2, by omega, rfl, by rw [HN.out], by go_num, by rw [HN.out]; exact HO1.out, T1, bw1, hsz1⟩
            case measure => simp [intOf]; omega
        · have HN : Hid (rwTo l who key (k + 1) = (acc ++ [l[k]], true)) := by show _ = _; rw [HSt.out]; simp [rwStep, heq]
          clear hst heq
          go_wp2_with (at_builtin; refine wpList_app rfl _ _ rfl (w.heap.size + 2) (.slice a1 n1 c1) acc l[k].1 l[k].2 _ rfl rfl HO.out (by omega) (by omega) ?_)
          intro a2 n2 c2 w1 ho1 hb1
          clear b0 b1 b2 b3 b4 f1 e0 e1 e2 e3 e4 q0 q1 q2 q3 q4 hc0 hc1
          have T1 := T.later hb1 (Nat.le_refl _)
          have bw1 := bw.trans (hb1.mono (by omega))
          have hsz1 : w.heap.size + 2 ≤ w1.heap.size := by have := hb1.size; omega
          have HO1 : Hid (OwnV w1 (w.heap.size + 2) (.slice a2 n2 c2) (acc ++ [(l[k].1, l[k].2)])) := ho1
          clear ho1
          go_wp2
          go_roundw
          case rel => exact ⟨k + 1, a2, n2, c2, by omega, rfl, by rw [HN.out], by go_num, by rw [HN.out]; exact HO1.out, T1, bw1, hsz1⟩
          case measure => simp [intOf]; omega
    · have hkn : k = n := by omega
      subst hkn
      have hlt' : decide ((k : Int) < (k : Int)) = false := by simp
      have hlen := rwTo_len l who key k (by omega)
      have HW0 : Hid (rwith l who key = if (rwTo l who key k).2 then (rwTo l who key k).1 else (rwTo l who key k).1 ++ [(who, key)]) := by show _ = _; rw [rwith, hl]
      generalize hst : rwTo l who key k = st at *
      obtain ⟨acc, laid⟩ := st
      simp only at hlen
      have HO : Hid (OwnV wr (w.heap.size + 2) (.slice a1 n1 c1) acc) := HO0
      clear HO0 hst hr
      cases laid
      · have HW : Hid (rwith l who key = acc ++ [(who, key)]) := by show _ = _; rw [HW0.out]; rfl
        go_wp2_with (at_builtin; refine wpList_app rfl _ _ rfl (w.heap.size + 2) (.slice a1 n1 c1) acc who key _ rfl rfl HO.out (by omega) (by omega) ?_)
        intro a2 n2 c2 w1 ho1 hb1
        clear b0 b1 b2 b3 b4 f1 e0 e1 e2 e3 e4 q0 q1 q2 q3 q4
        have T1 := T.later hb1 (Nat.le_refl _)
        have bw1 := bw.trans (hb1.mono (by omega))
        have HO1 : Hid (OwnV w1 (w.heap.size + 2) (.slice a2 n2 c2) (acc ++ [(who, key)])) := ho1
        clear ho1
        obtain ⟨⟨b0, b1, b2, b3, b4, f1⟩, ⟨e0, e1, e2, e3, e4⟩, q0, q1, q2, q3, q4⟩ := T1.cells
        go_wp2
        obtain ⟨Z, hZ, z0, z1, z2, z3, z4⟩ := Zend.cells (N := w.heap.size) (v0 := .int .i64 g) (v1 := .slice a2 n2 c2) (v2 := .int .i64 t) (v3 := .int .i64 h) (v4 := .bool y) T1.2 (by omega)
        have hZ' := hZ
        unfold Zend at hZ'
        rw [← hZ']
        clear hZ'
        have HZ : Hid (Z = Zend w1 w.heap.size (w.heap.size + 1) (.int .i64 g) (.slice a2 n2 c2) (.int .i64 t) (.int .i64 h) (.bool y)) := hZ
        clear hZ
        have HA : Row Z a2 n2 (rwith l who key) := by
          obtain ⟨a4, n4, c4, e, hrow⟩ := (Zend.own (N := w.heap.size) (M := w.heap.size + 1) (v0 := .int .i64 g) (v1 := .slice a2 n2 c2) (v2 := .int .i64 t) (v3 := .int .i64 h) (v4 := .bool y) HO1.out (by omega) (by omega)).row
          simp only [Value.slice.injEq] at e
          obtain ⟨rfl, rfl, rfl⟩ := e
          rw [HZ.out, HW.out]
          exact hrow
        have HB : Below w.heap.size w Z := by rw [HZ.out]; exact Zend.below bw1 (Nat.le_refl _) (by omega)
        refine bodyPost_ret (v := .agg #[.int .i64 g, .slice a2 n2 c2, .int .i64 t, .int .i64 h, .bool y]) (by simp [results, Try.results38, go_sem, z0, z1, z2, z3, z4]) rfl ?_
        first | exact ⟨a2, n2, c2, rfl, HA, HB⟩ | exact ⟨a2, n2, ⟨c2, rfl⟩, HA, HB⟩
      · have HW : Hid (rwith l who key = acc) := by show _ = _; rw [HW0.out]; rfl
        go_wp2
        obtain ⟨Z, hZ, z0, z1, z2, z3, z4⟩ := Zend.cells (N := w.heap.size) (v0 := .int .i64 g) (v1 := .slice a1 n1 c1) (v2 := .int .i64 t) (v3 := .int .i64 h) (v4 := .bool y) T.2 (by omega)
        have hZ' := hZ
        unfold Zend at hZ'
        rw [← hZ']
        clear hZ'
        have HZ : Hid (Z = Zend wr w.heap.size (w.heap.size + 1) (.int .i64 g) (.slice a1 n1 c1) (.int .i64 t) (.int .i64 h) (.bool y)) := hZ
        clear hZ
        have HA : Row Z a1 n1 (rwith l who key) := by
          obtain ⟨a4, n4, c4, e, hrow⟩ := (Zend.own (N := w.heap.size) (M := w.heap.size + 1) (v0 := .int .i64 g) (v1 := .slice a1 n1 c1) (v2 := .int .i64 t) (v3 := .int .i64 h) (v4 := .bool y) HO.out (by omega) (by omega)).row
          simp only [Value.slice.injEq] at e
          obtain ⟨rfl, rfl, rfl⟩ := e
          rw [HZ.out, HW.out]
          exact hrow
        have HB : Below w.heap.size w Z := by rw [HZ.out]; exact Zend.below bw (Nat.le_refl _) (by omega)
        refine bodyPost_ret (v := .agg #[.int .i64 g, .slice a1 n1 c1, .int .i64 t, .int .i64 h, .bool y]) (by simp [results, Try.results38, go_sem, z0, z1, z2, z3, z4]) rfl ?_
        first | exact ⟨a1, n1, c1, rfl, HA, HB⟩ | exact ⟨a1, n1, ⟨c1, rfl⟩, HA, HB⟩
end Go.Proofs.Ytokjacbipmfjkaa
