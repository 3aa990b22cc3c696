/- What hold.With answers, for every state with not too many who are known, anybody and any key: the same state, but for who is known by which key. -/
import Derived.Test.YtokjacbipmfjkaaInsGrow
import Derived.Deep.RegionHeld3
namespace Go.Proofs.Ytokjacbipmfjkaa
open Go.ChangeShapes Go.WideShapes Go.ChangeAt Go.RowKit

/-- The place of somebody, so that they rise. -/
def pl (l : List (Int × Int)) (who : Int) : Nat := (l.takeWhile fun r => decide (r.1 < who)).length
theorem pl_le (l : List (Int × Int)) (who : Int) : pl l who ≤ l.length := (List.takeWhile_prefix _).length_le
theorem pl_eq : ∀ (l : List (Int × Int)) (who : Int) (k : Nat), k ≤ l.length → (∀ j (h : j < l.length), j < k → l[j].1 < who) → (∀ h : k < l.length, ¬ l[k].1 < who) → pl l who = k
  | [], _, k, hk, _, _ => by simp at hk; subst hk; rfl
  | r :: l, who, 0, _, _, h => by have := h (by simp); simp at this; simp [pl, List.takeWhile_cons]; omega
  | r :: l, who, k + 1, hk, ha, h => by
    have h0 := ha 0 (by simp) (by omega)
    have ih := pl_eq l who k (by simpa using hk) (fun j hj hjk => ha (j + 1) (by simpa using hj) (by omega)) (fun hk' => h (by simpa using hk'))
    simp at h0
    unfold pl at ih ⊢
    simp [h0, ih]

/-- Who is known by which key, once one is known by a key (0: not any more). -/
def withL (l : List (Int × Int)) (who key : Int) : List (Int × Int) := if key = 0 then kept who l else put (kept who l) (pl (kept who l) who) (who, key)

/-- A slice of the call's own, or none. -/
def OwnV (w : World) (base : Nat) (v : Value) (l : List (Int × Int)) : Prop := (v = .slice Option.none 0 0 ∧ l = []) ∨ ∃ g cap, v = .slice (some ⟨g, 0, Option.none⟩) l.length cap ∧ Own w base g cap l

set_option maxHeartbeats 1000000 in
theorem place_any (a : Option Addr) (n c : Nat) (l : List (Int × Int)) (who : Int) (w : World) (hr : Row w a n l) :
    Calls Try.prog 63 #[.slice a n c, .int .i64 who] w fun e w' => e = .returned (.int .i64 (pl l who)) ∧ w = w' := by
  obtain ⟨hl, hn, hrow⟩ := hr
  go_enter Try.func63, Try.ntmps63
  go_wp2
  go_loop [5] (fun i => ∃ k : Nat, k ≤ n ∧ i = .int .i64 k ∧ Hid (∀ j (h : j < l.length), j < k → l[j].1 < who)) (fun i => n - (intOf i).toNat)
  case atStart => exact ⟨0, Nat.zero_le _, rfl, fun j _ h => absurd h (Nat.not_lt_zero _)⟩
  case round =>
    obtain ⟨k, hk, rfl, hall⟩ := hrel
    by_cases hlt : k < n
    · obtain ⟨b, off, rfl, hc⟩ := hrow (by omega)
      have hc0 := (hc k (by omega)).1
      clear hc hrow
      by_cases hw : l[k].1 < who
      · go_wp2
        go_round
        case rel => exact ⟨k + 1, by omega, by go_num, fun j hj hjk => by
          rcases Nat.lt_or_ge j k with h | h
          · exact hall.out j hj h
          · have : j = k := by omega
            subst this
            exact hw⟩
        case measure => simp [intOf]; omega
      · have hw' : decide (l[k].1 < who) = false := by simpa using hw
        go_wp2
        go_ret
        exact ⟨ret_int (by rw [pl_eq l who k (by omega) hall.out (fun _ => by omega)]), rfl⟩
    · have hlt' : decide ((k : Int) < (n : Int)) = false := by simp; omega
      go_wp2
      go_ret
      exact ⟨ret_int (by rw [pl_eq l who k (by omega) hall.out (fun h => by omega)]), rfl⟩

theorem insert_any (a c : Nat) (base : Nat) (v : Value) (l : List (Int × Int)) (i : Nat) (x k : Int) (w : World) (ho : OwnV w base v l) (hi : i ≤ l.length) (hn : l.length ≤ 1000000) (hbase : base ≤ w.heap.size)
    (ha : w.heap[a]? = some (.cells #[.int .i64 x, .int .i64 k] 49 (0, 0))) (hne : ∀ g cap, v = .slice (some ⟨g, 0, Option.none⟩) l.length cap → a ≠ g) :
    Calls Try.prog 62 #[v, .int .i64 (i : Int), .slice (some ⟨a, 0, Option.none⟩) 1 c] w fun e w' =>
      ∃ v', e = .returned v' ∧ OwnV w' base v' (put l i (x, k)) ∧ Below base w w' := by
  have c0 : w.cell? ⟨a, 0, Option.none⟩ = some (.int .i64 x) := by simp [World.cell?, ha]
  have c1 : w.cell? ⟨a, 1, Option.none⟩ = some (.int .i64 k) := by simp [World.cell?, ha]
  have hpl := put_length l i (x, k) hi
  rcases ho with ⟨rfl, rfl⟩ | ⟨g, cap, rfl, ho⟩
  · have h0 : i = 0 := by simpa using hi
    subst h0
    refine (ins_nil a c base x k w hbase c0 c1).mono ?_
    rintro e w' ⟨g, cap, rfl, h1, h2⟩
    exact ⟨_, rfl, .inr ⟨g, cap, rfl, h1⟩, h2⟩
  · rcases Nat.lt_or_ge i l.length with hlt | hge
    · rcases Nat.lt_or_ge cap (l.length + 1) with hc | hc
      · refine (ins_grow a c g cap i base l x k w ho hlt hc hn ha).mono ?_
        rintro e w' ⟨g', cap', rfl, h1, h2⟩
        exact ⟨_, rfl, .inr ⟨g', cap', by rw [hpl], h1⟩, h2⟩
      · refine (ins_room a c g cap i base l x k w ho hlt hc hn (hne g cap rfl) ha).mono ?_
        rintro e w' ⟨g', cap', rfl, h1, h2⟩
        exact ⟨_, rfl, .inr ⟨g', cap', by rw [hpl], h1⟩, h2⟩
    · obtain rfl : i = l.length := by omega
      refine (ins_end a c g cap base l x k w ho hn c0 c1).mono ?_
      rintro e w' ⟨g', cap', rfl, h1, h2⟩
      exact ⟨_, rfl, .inr ⟨g', cap', by rw [hpl], h1⟩, h2⟩

set_option maxHeartbeats 1000000 in
theorem deleteFunc_nil (B : Nat) (w : World) :
    Calls Try.prog 61 #[.slice Option.none 0 0, .func (.func 60) #[] #[.pointer (some ⟨B, 0, Option.none⟩)]] w fun e w' => e = .returned (.slice Option.none 0 0) ∧ w = w' := by
  have hi : Calls Try.prog 67 #[.slice Option.none 0 0, .func (.func 60) #[] #[.pointer (some ⟨B, 0, Option.none⟩)]] w fun e w' => e = .returned (.int .i64 (-1)) ∧ w = w' := by
    go_enter Try.func67, Try.ntmps67
    go_wp2
    refine wp_loop_rounds 1 ?_
    rw [rounds_succ]
    go_wp2
    go_ret
    exact ⟨rfl, rfl⟩
  go_enter Try.func61, Try.ntmps61
  go_wp2_with fail
  refine hi.mono ?_
  rintro e w' ⟨rfl, rfl⟩
  go_wp2
  go_ret
  exact ⟨rfl, rfl⟩

theorem delete_any (v : Value) (l : List (Int × Int)) (who : Int) (B base : Nat) (w : World) (ho : OwnV w base v l) (hB : B < base) (hc : w.cell? ⟨B, 0, Option.none⟩ = some (.int .i64 who)) :
    Calls Try.prog 61 #[v, .func (.func 60) #[] #[.pointer (some ⟨B, 0, Option.none⟩)]] w fun e w' => ∃ v', e = .returned v' ∧ OwnV w' base v' (kept who l) ∧ Below base w w' := by
  rcases ho with ⟨rfl, rfl⟩ | ⟨g, cap, rfl, ho⟩
  · refine (deleteFunc_nil B w).mono ?_
    rintro e w' ⟨rfl, rfl⟩
    exact ⟨_, rfl, .inl ⟨rfl, rfl⟩, Below.refl _ _⟩
  · refine (deleteFunc_any g cap l who B base w ho hB hc).mono ?_
    rintro e w' ⟨rfl, h1, h2⟩
    exact ⟨_, rfl, .inr ⟨g, cap, rfl, h1⟩, h2⟩

theorem clone_any (a : Option Addr) (n c : Nat) (l : List (Int × Int)) (w : World) (hr : Row w a n l) (hn : n ≤ 1000000) :
    Calls Try.prog 30 #[.slice a n c] w fun e w' => ∃ v', e = .returned v' ∧ OwnV w' w.heap.size v' l ∧ Below w.heap.size w w' := by
  cases a with
  | none =>
    have h0 : l = [] := by
      by_cases h : n = 0
      · have := hr.1; exact List.eq_nil_of_length_eq_zero (by omega)
      · obtain ⟨b, off, e, _⟩ := hr.2.2 h; cases e
    refine (clone_nil n c w).mono ?_
    rintro e w' ⟨rfl, rfl⟩
    exact ⟨_, rfl, .inl ⟨rfl, h0⟩, Below.refl _ _⟩
  | some ad =>
    refine (clone_some ad n c l w hr hn).mono ?_
    rintro e w' ⟨g, cap, rfl, h1, h2⟩
    exact ⟨_, rfl, .inr ⟨g, cap, by rw [hr.1], h1⟩, h2⟩

theorem OwnV.row {X : World} {base : Nat} {v : Value} {l : List (Int × Int)} (h : OwnV X base v l) : ∃ a n c, v = .slice a n c ∧ Row X a n l := by
  rcases h with ⟨rfl, rfl⟩ | ⟨g, cap, rfl, ho⟩
  · exact ⟨_, _, _, rfl, row_nil _⟩
  · exact ⟨_, _, _, rfl, ho.row⟩
theorem OwnV.later {X X' : World} {base B : Nat} {v : Value} {l : List (Int × Int)} (h : OwnV X base v l) (hb : Below B X X') (hB : X.heap.size ≤ B) : OwnV X' base v l := by
  rcases h with ⟨rfl, rfl⟩ | ⟨g, cap, rfl, ho⟩
  · exact .inl ⟨rfl, rfl⟩
  · exact .inr ⟨g, cap, rfl, ho.later hb (by have := ho.lt; omega)⟩
theorem OwnV.set {X : World} {base : Nat} {v : Value} {l : List (Int × Int)} (h : OwnV X base v l) (p : Addr) (hp : p.block < base) (u : Value) : OwnV (X.setCell p u) base v l := by
  rcases h with ⟨rfl, rfl⟩ | ⟨g, cap, rfl, ho⟩
  · exact .inl ⟨rfl, rfl⟩
  · obtain ⟨h1, h2, h3, cur, h4, h5⟩ := ho
    exact .inr ⟨g, cap, rfl, h1, h2, h3, cur, by rw [Below.heap_setCell _ _ _ _ (by omega)]; exact h4, h5⟩

/-- The three blocks that With lays: its state, who, and what it hands back. -/
def Three (X : World) (N : Nat) (v0 v1 v2 v3 v4 : Value) (who : Int) : Prop :=
  X.heap[N]? = some (.cells #[v0, v1, v2, v3, v4] 24 (0, 0)) ∧ X.heap[N + 1]? = some (.cells #[.int .i64 who] 3 (0, 0)) ∧ X.heap[N + 1 + 1]? = some (.cells #[.int .i64 0, .slice Option.none 0 0, .int .i64 0, .int .i64 0, .bool false] 24 (0, 0))
theorem Three.later {X X' : World} {N B : Nat} {v0 v1 v2 v3 v4 : Value} {who : Int} (h : Three X N v0 v1 v2 v3 v4 who) (hb : Below B X X') (hB : N + 3 ≤ B) : Three X' N v0 v1 v2 v3 v4 who :=
  ⟨by rw [hb.block _ (by omega)]; exact h.1, by rw [hb.block _ (by omega)]; exact h.2.1, by rw [hb.block _ (by omega)]; exact h.2.2⟩
theorem Three.start (w : World) (v0 v1 v2 v3 v4 : Value) (who : Int) :
    Three (((w.alloc (.cells #[v0, v1, v2, v3, v4] 24)).alloc (.cells #[.int .i64 who] 3)).alloc (.cells #[.int .i64 0, .slice Option.none 0 0, .int .i64 0, .int .i64 0, .bool false] 24)) w.heap.size v0 v1 v2 v3 v4 who := by
  refine ⟨?_, ?_, ?_⟩
  · rw [Below.heap_alloc _ _ _ (by simp; omega), Below.heap_alloc _ _ _ (by simp)]; exact heap_alloc_new w _
  · rw [Below.heap_alloc _ _ _ (by simp)]; simpa using heap_alloc_new (w.alloc (.cells #[v0, v1, v2, v3, v4] 24)) (.cells #[.int .i64 who] 3)
  · simpa using heap_alloc_new ((w.alloc (.cells #[v0, v1, v2, v3, v4] 24)).alloc (.cells #[.int .i64 who] 3)) (.cells #[.int .i64 0, .slice Option.none 0 0, .int .i64 0, .int .i64 0, .bool false] 24)
theorem Three.cells {X : World} {N : Nat} {v0 v1 v2 v3 v4 : Value} {who : Int} (h : Three X N v0 v1 v2 v3 v4 who) :
    (X.cell? ⟨N, 0, Option.none⟩ = some v0 ∧ X.cell? ⟨N, 1, Option.none⟩ = some v1 ∧ X.cell? ⟨N, 2, Option.none⟩ = some v2 ∧ X.cell? ⟨N, 3, Option.none⟩ = some v3 ∧ X.cell? ⟨N, 4, Option.none⟩ = some v4 ∧ X.frozen? ⟨N, 1, Option.none⟩ = false) ∧
    X.cell? ⟨N + 1, 0, Option.none⟩ = some (.int .i64 who) ∧
    (X.cell? ⟨N + 1 + 1, 0, Option.none⟩ = some (.int .i64 0) ∧ X.cell? ⟨N + 1 + 1, 1, Option.none⟩ = some (.slice Option.none 0 0) ∧ X.cell? ⟨N + 1 + 1, 2, Option.none⟩ = some (.int .i64 0) ∧ X.cell? ⟨N + 1 + 1, 3, Option.none⟩ = some (.int .i64 0) ∧ X.cell? ⟨N + 1 + 1, 4, Option.none⟩ = some (.bool false)) ∧
    (X.frozen? ⟨N + 1 + 1, 0, Option.none⟩ = false ∧ X.frozen? ⟨N + 1 + 1, 1, Option.none⟩ = false ∧ X.frozen? ⟨N + 1 + 1, 2, Option.none⟩ = false ∧ X.frozen? ⟨N + 1 + 1, 3, Option.none⟩ = false ∧ X.frozen? ⟨N + 1 + 1, 4, Option.none⟩ = false) := by
  obtain ⟨h1, h2, h3⟩ := h
  simp [World.cell?, World.frozen?, h1, h2, h3]

/-- What With leaves: its state with another row, handed back. -/
def Zend (X : World) (N M : Nat) (v0 v1 v2 v3 v4 : Value) : World :=
  (((((X.setCell ⟨N, 1, Option.none⟩ v1).setCell ⟨M, 0, Option.none⟩ v0).setCell ⟨M, 1, Option.none⟩ v1).setCell ⟨M, 2, Option.none⟩ v2).setCell ⟨M, 3, Option.none⟩ v3).setCell ⟨M, 4, Option.none⟩ v4
theorem Zend.cells {X : World} {N M : Nat} {u0 u1 u2 u3 u4 v0 v1 v2 v3 v4 : Value} {T : TypeId} (h : X.heap[M]? = some (.cells #[u0, u1, u2, u3, u4] T (0, 0))) (hne : M ≠ N) : ∃ Z, Z = Zend X N M v0 v1 v2 v3 v4 ∧
    Z.cell? ⟨M, 0, Option.none⟩ = some v0 ∧ Z.cell? ⟨M, 1, Option.none⟩ = some v1 ∧ Z.cell? ⟨M, 2, Option.none⟩ = some v2 ∧ Z.cell? ⟨M, 3, Option.none⟩ = some v3 ∧ Z.cell? ⟨M, 4, Option.none⟩ = some v4 := by
  have h' : (X.setCell ⟨N, 1, Option.none⟩ v1).heap[M]? = some (.cells #[u0, u1, u2, u3, u4] T (0, 0)) := by rw [Below.heap_setCell _ _ _ _ hne]; exact h
  have h0 := heap_setCell_same _ M 0 _ T v0 h'
  have h1 := heap_setCell_same _ M 1 _ T v1 h0
  have h2 := heap_setCell_same _ M 2 _ T v2 h1
  have h3 := heap_setCell_same _ M 3 _ T v3 h2
  have h4 := heap_setCell_same _ M 4 _ T v4 h3
  refine ⟨_, rfl, ?_, ?_, ?_, ?_, ?_⟩ <;> (unfold Zend; simp only [World.cell?, h4]; simp)
theorem Zend.own {X : World} {N M base : Nat} {v0 v1 v2 v3 v4 v : Value} {l : List (Int × Int)} (h : OwnV X base v l) (hN : N < base) (hM : M < base) : OwnV (Zend X N M v0 v1 v2 v3 v4) base v l :=
  (((((h.set _ hN _).set _ hM _).set _ hM _).set _ hM _).set _ hM _).set _ hM _
theorem Zend.below {w X : World} {N M B : Nat} {v0 v1 v2 v3 v4 : Value} (h : Below B w X) (hN : B ≤ N) (hM : B ≤ M) : Below B w (Zend X N M v0 v1 v2 v3 v4) :=
  (((((h.setCell (by exact hN) _).setCell (by exact hM) _).setCell (by exact hM) _).setCell (by exact hM) _).setCell (by exact hM) _).setCell (by exact hM) _

/-- A slice is nil, or lies in memory from a bound on. -/
def Far (z : Nat) (a : Option Addr) : Prop := ∀ ad, a = some ad → z ≤ ad.block
theorem OwnV.far {X : World} {base : Nat} {a : Option Addr} {n c : Nat} {l : List (Int × Int)} (h : OwnV X base (.slice a n c) l) : Far base a := by
  rintro ad rfl
  rcases h with ⟨e, _⟩ | ⟨g, cap, e, ho⟩
  · simp at e
  · simp only [Value.slice.injEq, Option.some.injEq] at e
    rw [e.1]
    exact ho.1

set_option maxHeartbeats 4000000 in
theorem with_far (g t h : Int) (a : Option Addr) (n c : Nat) (y : Bool) (l : List (Int × Int)) (who key : Int) (w : World) (hr : Row w a n l) (hn : n ≤ 1000000) :
    Calls Try.prog 46 #[.agg #[.int .i64 g, .slice a n c, .int .i64 t, .int .i64 h, .bool y], .int .i64 who, .int .i64 key] w fun e w' =>
      ∃ a' n' c', e = .returned (.agg #[.int .i64 g, .slice a' n' c', .int .i64 t, .int .i64 h, .bool y]) ∧ Row w' a' n' (withL l who key) ∧ Below w.heap.size w w' ∧ Far w.heap.size a' := by
  have hl := hr.1
  have hkl := kept_le who l
  have T0 := Three.start w (.int .i64 g) (.slice a n c) (.int .i64 t) (.int .i64 h) (.bool y) who
  have bw0 : Below w.heap.size w (((w.alloc (.cells #[.int .i64 g, .slice a n c, .int .i64 t, .int .i64 h, .bool y] 24)).alloc (.cells #[.int .i64 who] 3)).alloc (.cells #[.int .i64 0, .slice Option.none 0 0, .int .i64 0, .int .i64 0, .bool false] 24)) :=
    (((Below.refl _ _).alloc (Nat.le_refl _) _).alloc (by simp) _).alloc (by simp; omega) _
  have hs0 : (((w.alloc (.cells #[.int .i64 g, .slice a n c, .int .i64 t, .int .i64 h, .bool y] 24)).alloc (.cells #[.int .i64 who] 3)).alloc (.cells #[.int .i64 0, .slice Option.none 0 0, .int .i64 0, .int .i64 0, .bool false] 24)).heap.size = w.heap.size + 3 := by simp
  have HS : Hid _ := hs0
  clear hs0
  go_enter Try.func46, Try.ntmps46
  go_wp2_with fail
  refine (clone_any a n c l _ (hr.later bw0) hn).mono ?_
  rintro e w1 ⟨v1, rfl, ho1, hb1⟩
  rw [HS.out] at ho1 hb1
  have T1 := T0.later hb1 (Nat.le_refl _)
  have bw1 := bw0.trans (hb1.mono (by omega))
  have hz1 : w.heap.size + 3 ≤ w1.heap.size := by have := hb1.size; rw [HS.out] at this; exact this
  clear T0 bw0 HS hb1
  go_wp2_with fail
  refine (delete_any v1 l who (w.heap.size + 1) (w.heap.size + 3) w1 ho1 (by omega) T1.cells.2.1).mono ?_
  rintro e w2 ⟨v2, rfl, ho2, hb2⟩
  have T2 := T1.later hb2 (Nat.le_refl _)
  have bw2 := bw1.trans (hb2.mono (by omega))
  have hz2 : w.heap.size + 3 ≤ w2.heap.size := by have := hb2.size; omega
  clear T1 bw1 hb2 ho1 hz1
  obtain ⟨a2, n2, c2, rfl, hr2⟩ := ho2.row
  have HO : Hid (OwnV w2 (w.heap.size + 3) (.slice a2 n2 c2) (kept who l)) := ho2
  have HR : Hid (Row w2 a2 n2 (kept who l)) := hr2
  clear ho2 hr2
  obtain ⟨⟨c0, c1, c2', c3, c4, f1⟩, d0, ⟨e0, e1, e2, e3, e4⟩, q0, q1, q2, q3, q4⟩ := T2.cells
  by_cases hk : key = 0
  · subst hk
    go_wp2
    obtain ⟨Z, hZ, z0, z1, z2, z3, z4⟩ := Zend.cells (N := w.heap.size) (v0 := .int .i64 g) (v1 := .slice a2 n2 c2) (v2 := .int .i64 t) (v3 := .int .i64 h) (v4 := .bool y) T2.2.2 (by omega)
    have hZ' := hZ
    unfold Zend at hZ'
    rw [← hZ']
    clear hZ'
    have HZ : Hid (Z = Zend w2 w.heap.size (w.heap.size + 1 + 1) (.int .i64 g) (.slice a2 n2 c2) (.int .i64 t) (.int .i64 h) (.bool y)) := hZ
    clear hZ
    refine bodyPost_ret (v := .agg #[.int .i64 g, .slice a2 n2 c2, .int .i64 t, .int .i64 h, .bool y]) (by simp [results, Try.results46, go_sem, z0, z1, z2, z3, z4]) rfl ⟨a2, n2, c2, rfl, ?_, ?_, fun ad e => Nat.le_trans (by omega) (HO.out.far ad e)⟩
    · obtain ⟨a3, n3, c3, e, hrow⟩ := (Zend.own (N := w.heap.size) (M := w.heap.size + 1 + 1) (v0 := .int .i64 g) (v1 := .slice a2 n2 c2) (v2 := .int .i64 t) (v3 := .int .i64 h) (v4 := .bool y) HO.out (by omega) (by omega)).row
      simp only [Value.slice.injEq] at e
      obtain ⟨rfl, rfl, rfl⟩ := e
      rw [HZ.out]
      simpa [withL] using hrow
    · rw [HZ.out]; exact Zend.below bw2 (Nat.le_refl _) (by omega)
  · have hkb : (key != 0) = true := by simpa using hk
    have hX : Below w2.heap.size w2 ((w2.alloc (.cells #[.int .i64 who, .int .i64 key] 49)).drew) := ((Below.refl _ _).alloc (Nat.le_refl _) _).drew
    have HI : ∀ cc, Calls Try.prog 62 #[.slice a2 n2 c2, .int .i64 (pl (kept who l) who : Int), .slice (some ⟨w2.heap.size, 0, Option.none⟩) 1 cc] ((w2.alloc (.cells #[.int .i64 who, .int .i64 key] 49)).drew) fun e w' =>
        ∃ v', e = .returned v' ∧ OwnV w' (w.heap.size + 3) v' (put (kept who l) (pl (kept who l) who) (who, key)) ∧ Below (w.heap.size + 3) ((w2.alloc (.cells #[.int .i64 who, .int .i64 key] 49)).drew) w' := fun cc =>
      insert_any w2.heap.size cc (w.heap.size + 3) _ (kept who l) _ who key _ (HO.out.later hX (Nat.le_refl _)) (pl_le _ _) (by omega) (by have := hX.size; omega) (heap_alloc_new w2 _) (fun g cap hg => by
        rcases HO.out with ⟨e, _⟩ | ⟨g', cap', e, ho⟩
        · rw [e] at hg; simp at hg
        · have := ho.lt
          rw [e] at hg
          simp at hg
          omega)
    have HII : Hid _ := HI
    clear HI
    go_wp2_with fail
    go_region_held3 (fun w' => w'.cell? ⟨w.heap.size + 1, 0, Option.none⟩ = some (.int .i64 who))
      (first | exact d0 | exact cell_later hX d0 | exact ((‹Below (w.heap.size + 3) _ _›).cell (p := ⟨w.heap.size + 1, 0, Option.none⟩) (by show w.heap.size + 1 < w.heap.size + 3; omega)).trans (cell_later hX d0) | go_keep)
      (first
      | (go_at_call 63; refine (place_any a2 n2 c2 (kept who l) who _ (by first | exact HR.out.later ((Below.refl _ _).drew) | exact HR.out.later (((Below.refl _ _).alloc (Nat.le_refl _) _).drew))).mono ?_; rintro e w' ⟨rfl, rfl⟩)
      | (go_at_call 62; refine (HII.out _).mono ?_; rintro e w3 ⟨v3, rfl, ho3, hb3⟩))
    all_goals
      clear c0 c1 c2' c3 c4 f1 d0 e0 e1 e2 e3 e4 q0 q1 q2 q3 q4
      have hs3 : w.heap.size + 3 ≤ w3.heap.size := by have := hb3.size; have := hX.size; omega
      have T3 := (T2.later hX (by omega)).later hb3 (Nat.le_refl _)
      have bw3 := (bw2.trans (hX.mono bw2.size)).trans (hb3.mono (by omega))
      obtain ⟨a3, n3, c3, rfl, hr3⟩ := ho3.row
      have HO3 : Hid (OwnV w3 (w.heap.size + 3) (.slice a3 n3 c3) (put (kept who l) (pl (kept who l) who) (who, key))) := ho3
      clear ho3 hr3 hb3 hX T2 bw2
      obtain ⟨⟨c0, c1, c2', c3', c4, f1⟩, d0, ⟨e0, e1, e2, e3, e4⟩, q0, q1, q2, q3, q4⟩ := T3.cells
      go_wp2
      obtain ⟨Z, hZ, z0, z1, z2, z3, z4⟩ := Zend.cells (N := w.heap.size) (v0 := .int .i64 g) (v1 := .slice a3 n3 c3) (v2 := .int .i64 t) (v3 := .int .i64 h) (v4 := .bool y) T3.2.2 (by omega)
      have hZ' := hZ
      unfold Zend at hZ'
      rw [← hZ']
      clear hZ'
      have HZ : Hid (Z = Zend w3 w.heap.size (w.heap.size + 1 + 1) (.int .i64 g) (.slice a3 n3 c3) (.int .i64 t) (.int .i64 h) (.bool y)) := hZ
      clear hZ
      refine bodyPost_ret (v := .agg #[.int .i64 g, .slice a3 n3 c3, .int .i64 t, .int .i64 h, .bool y]) (by simp [results, Try.results46, go_sem, z0, z1, z2, z3, z4]) rfl ⟨a3, n3, c3, rfl, ?_, ?_, fun ad e => Nat.le_trans (by omega) (HO3.out.far ad e)⟩
      · obtain ⟨a4, n4, c4, e, hrow⟩ := (Zend.own (N := w.heap.size) (M := w.heap.size + 1 + 1) (v0 := .int .i64 g) (v1 := .slice a3 n3 c3) (v2 := .int .i64 t) (v3 := .int .i64 h) (v4 := .bool y) HO3.out (by omega) (by omega)).row
        simp only [Value.slice.injEq] at e
        obtain ⟨rfl, rfl, rfl⟩ := e
        rw [HZ.out]
        simpa [withL, hk] using hrow
      · rw [HZ.out]; exact Zend.below bw3 (Nat.le_refl _) (by omega)

theorem with_any (g t h : Int) (a : Option Addr) (n c : Nat) (y : Bool) (l : List (Int × Int)) (who key : Int) (w : World) (hr : Row w a n l) (hn : n ≤ 1000000) :
    Calls Try.prog 46 #[.agg #[.int .i64 g, .slice a n c, .int .i64 t, .int .i64 h, .bool y], .int .i64 who, .int .i64 key] w fun e w' =>
      ∃ a' n' c', e = .returned (.agg #[.int .i64 g, .slice a' n' c', .int .i64 t, .int .i64 h, .bool y]) ∧ Row w' a' n' (withL l who key) ∧ Below w.heap.size w w' :=
  (with_far g t h a n c y l who key w hr hn).mono fun _ _ ⟨a', n', c', h1, h2, h3, _⟩ => ⟨a', n', c', h1, h2, h3⟩
end Go.Proofs.Ytokjacbipmfjkaa
