/- What slices.IndexFunc and slices.DeleteFunc do to a row of the call's own, asked with hold.With's own closure. -/
import Derived.Test.YtokjacbipmfjkaaClone
namespace Go.Proofs.Ytokjacbipmfjkaa
open Go.ChangeShapes Go.WideShapes Go.ChangeAt Go.RowKit

theorem isWho_any (x k who : Int) (B : Nat) (w : World) (hc : w.cell? ⟨B, 0, Option.none⟩ = some (.int .i64 who)) :
    Calls Try.prog 60 #[.agg #[.int .i64 x, .int .i64 k], .pointer (some ⟨B, 0, Option.none⟩)] w fun e w' => e = .returned (.bool (x == who)) ∧ w.alloc (.cells #[.int .i64 x, .int .i64 k] 49) = w' := by
  have hc1 := Lib.cell?_alloc_some (.cells #[.int .i64 x, .int .i64 k] 49) hc
  go_enter Try.func60, Try.ntmps60
  go_wp2
  go_ret
  exact ⟨rfl, rfl⟩

set_option maxHeartbeats 1000000 in
theorem indexFunc_any (b off n c : Nat) (l : List (Int × Int)) (who : Int) (B : Nat) (w : World) (hr : Row w (some ⟨b, off, Option.none⟩) n l) (hc : w.cell? ⟨B, 0, Option.none⟩ = some (.int .i64 who)) :
    Calls Try.prog 67 #[.slice (some ⟨b, off, Option.none⟩) n c, .func (.func 60) #[] #[.pointer (some ⟨B, 0, Option.none⟩)]] w fun e w' =>
      (∃ i : Int, e = .returned (.int .i64 i) ∧ ((i = -1 ∧ ∀ j (h : j < l.length), l[j].1 ≠ who) ∨ ∃ k : Nat, i = k ∧ ∃ h : k < l.length, l[k].1 = who ∧ ∀ j (h : j < k), l[j].1 ≠ who)) ∧ Below w.heap.size w w' := by
  obtain ⟨hl, hn, hrow⟩ := hr
  go_enter Try.func67, Try.ntmps67
  go_wp2
  go_loopw [8] (fun i wr => ∃ k : Nat, k ≤ n ∧ i = .int .i64 k ∧ Below w.heap.size w wr ∧ Hid (∀ j (h : j < l.length), j < k → l[j].1 ≠ who)) (fun i _ => n - (intOf i).toNat)
  case atStart => exact ⟨0, Nat.zero_le _, rfl, Below.refl _ _, fun j _ h => absurd h (Nat.not_lt_zero _)⟩
  case round =>
    obtain ⟨k, hk, rfl, hb, hall⟩ := hrel
    by_cases hlt : k < n
    · obtain ⟨b', off', e, hcs⟩ := hrow (by omega)
      simp only [Option.some.injEq, Addr.mk.injEq, and_true] at e
      obtain ⟨rfl, rfl⟩ := e
      have hc0 := cell_later hb (hcs k (by omega)).1
      have hc1 := cell_later hb (hcs k (by omega)).2
      have hcb := cell_later hb hc
      clear hcs hrow hc
      cases hq : (l[k].1 == who)
      · go_wp2_with (go_at_call 60; refine (isWho_any _ _ who B _ hcb).mono ?_; rintro e w' ⟨rfl, rfl⟩)
        go_roundw
        case rel => exact ⟨k + 1, by omega, by go_num, hb.alloc hb.size _, fun j hj hjk => by
          rcases Nat.lt_or_ge j k with h | h
          · exact hall.out j hj h
          · have : j = k := by omega
            subst this
            simpa using hq⟩
        case measure => simp [intOf]; omega
      · go_wp2_with (go_at_call 60; refine (isWho_any _ _ who B _ hcb).mono ?_; rintro e w' ⟨rfl, rfl⟩)
        go_ret
        exact ⟨⟨(k : Int), rfl, .inr ⟨k, rfl, by omega, by simpa using hq, fun j hj => hall.out j (by omega) hj⟩⟩, hb.alloc hb.size _⟩
    · go_wp2
      go_ret
      exact ⟨⟨-1, rfl, .inl ⟨rfl, fun j hj => hall.out j hj (by omega)⟩⟩, hb⟩

/-- Who is left. -/
def kept (who : Int) (l : List (Int × Int)) : List (Int × Int) := l.filter fun r => r.1 != who
theorem kept_le (who : Int) (l : List (Int × Int)) : (kept who l).length ≤ l.length := List.length_filter_le _ _
theorem kept_all {who : Int} {l : List (Int × Int)} (h : ∀ j (h : j < l.length), l[j].1 ≠ who) : kept who l = l := by
  refine List.filter_eq_self.2 fun r hr => ?_
  obtain ⟨j, hj, rfl⟩ := List.mem_iff_getElem.1 hr
  simpa using h j hj
theorem kept_take_succ (who : Int) (l : List (Int × Int)) (j : Nat) (h : j < l.length) : kept who (l.take (j + 1)) = kept who (l.take j) ++ (if l[j].1 = who then [] else [l[j]]) := by
  rw [List.take_succ_eq_append_getElem h, kept, kept, List.filter_append]
  by_cases e : l[j].1 = who <;> simp [e]

theorem set_take2 (x y : Value) : ∀ (cur : List Value) (p : Nat), p + 1 < cur.length → ((cur.set p x).set (p + 1) y).take (p + 2) = cur.take p ++ [x, y]
  | [], _, h => by simp at h
  | [_], p, h => by simp at h
  | _ :: _ :: r, 0, _ => by simp
  | _ :: b :: r, p + 1, h => by
    have := set_take2 x y (b :: r) p (by simpa using h)
    simpa using this

theorem set_drop2 (cur : List Value) (p q : Nat) (x y : Value) (h : p + 2 ≤ q) : ((cur.set p x).set (p + 1) y).drop q = cur.drop q := by
  rw [List.drop_set_of_lt (by omega), List.drop_set_of_lt (by omega)]

/-- A row while DeleteFunc goes over it: i are laid, j are looked at. -/
def Mid (who : Int) (w : World) (g cap : Nat) (l : List (Int × Int)) (i j : Nat) : Prop :=
  i = (kept who (l.take j)).length ∧ i < j ∧ j ≤ l.length ∧ l.length ≤ cap ∧ ∃ cur : List Value, w.heap[g]? = some (.cells cur.toArray 49 (0, 0)) ∧ cur.length = cap * 2 ∧ cur.take (i * 2) = flat (kept who (l.take j)) ∧ (cur.drop (j * 2)).take ((l.length - j) * 2) = flat (l.drop j)

theorem Mid.later {who : Int} {w w' : World} {g cap i j B : Nat} {l : List (Int × Int)} (h : Mid who w g cap l i j) (hb : Below B w w') (hg : g < B) : Mid who w' g cap l i j := by
  obtain ⟨h1, h2, h3, h4, cur, h5, h6⟩ := h
  exact ⟨h1, h2, h3, h4, cur, by rw [hb.block g hg]; exact h5, h6⟩
theorem Mid.lt {who : Int} {w : World} {g cap i j : Nat} {l : List (Int × Int)} (h : Mid who w g cap l i j) : g < w.heap.size := by
  obtain ⟨_, _, _, _, cur, h5, _⟩ := h
  exact (Array.getElem?_eq_some_iff.1 h5).1

theorem flat_take : ∀ (l : List (Int × Int)) (k : Nat), flat (l.take k) = (flat l).take (k * 2)
  | [], k => by simp [flat]
  | r :: l, 0 => by simp [flat]
  | r :: l, k + 1 => by rw [show (k + 1) * 2 = k * 2 + 1 + 1 by omega]; simp [flat, flat_take l k]
theorem flat_drop : ∀ (l : List (Int × Int)) (k : Nat), flat (l.drop k) = (flat l).drop (k * 2)
  | [], k => by simp [flat]
  | r :: l, 0 => by simp [flat]
  | r :: l, k + 1 => by rw [show (k + 1) * 2 = k * 2 + 1 + 1 by omega]; simp [flat, flat_drop l k]

theorem Mid.start {who : Int} {w : World} {base g cap : Nat} {l : List (Int × Int)} (ho : Own w base g cap l) {k : Nat} (hk : k < l.length) (he : l[k].1 = who) (ha : ∀ j (h : j < k), l[j].1 ≠ who) : Mid who w g cap l k (k + 1) := by
  obtain ⟨_, hl, _, cur, hg, hs, ht⟩ := ho
  have e1 : kept who (l.take (k + 1)) = l.take k := by
    rw [kept_take_succ who l k hk, if_pos he, List.append_nil]
    exact kept_all fun j hj => by simp at hj ⊢; exact ha j (by omega)
  refine ⟨by rw [e1]; simp; omega, by omega, by omega, hl, cur, hg, hs, ?_, ?_⟩
  · rw [e1, flat_take, ← ht, List.take_take, Nat.min_eq_left (by omega)]
  · rw [flat_drop, ← ht, List.drop_take, Nat.sub_mul]

theorem Mid.cells {who : Int} {w : World} {g cap i j : Nat} {l : List (Int × Int)} (h : Mid who w g cap l i j) (hj : j < l.length) :
    w.cell? ⟨g, j * 2, Option.none⟩ = some (.int .i64 l[j].1) ∧ w.cell? ⟨g, j * 2 + 1, Option.none⟩ = some (.int .i64 l[j].2) ∧ (∃ v, w.cell? ⟨g, i * 2, Option.none⟩ = some v) ∧ (∃ v, w.cell? ⟨g, i * 2 + 1, Option.none⟩ = some v) ∧
      w.frozen? ⟨g, i * 2, Option.none⟩ = false ∧ w.frozen? ⟨g, i * 2 + 1, Option.none⟩ = false := by
  obtain ⟨h1, h2, h3, h4, cur, hg, hs, ht, hd⟩ := h
  have cell : ∀ p, w.cell? ⟨g, p, Option.none⟩ = cur[p]? := fun p => by simp [World.cell?, hg]
  have hd0 := congrArg (fun x : List Value => x[0]?) hd
  have hd1 := congrArg (fun x : List Value => x[1]?) hd
  rw [List.drop_eq_getElem_cons hj] at hd0 hd1
  simp [flat, List.getElem?_take] at hd0 hd1
  refine ⟨?_, ?_, ?_, ?_, by simp [World.frozen?, hg], by simp [World.frozen?, hg]⟩
  · rw [cell]; exact hd0.2
  · rw [cell]; exact hd1.2
  · exact ⟨_, by rw [cell]; exact List.getElem?_eq_getElem (by omega)⟩
  · exact ⟨_, by rw [cell]; exact List.getElem?_eq_getElem (by omega)⟩

theorem drop_step {cur : List Value} {l : List (Int × Int)} {j : Nat} (hj : j < l.length) (hd : (cur.drop (j * 2)).take ((l.length - j) * 2) = flat (l.drop j)) : (cur.drop ((j + 1) * 2)).take ((l.length - (j + 1)) * 2) = flat (l.drop (j + 1)) := by
  have := congrArg (List.drop 2) hd
  rw [List.drop_take, List.drop_drop] at this
  rw [show l.drop (j + 1) = (l.drop j).drop 1 by rw [List.drop_drop], flat_drop (l.drop j) 1, ← this]
  rw [show (j + 1) * 2 = j * 2 + 2 by omega, show (l.length - (j + 1)) * 2 = (l.length - j) * 2 - 2 by omega]

theorem Mid.skip {who : Int} {w : World} {g cap i j : Nat} {l : List (Int × Int)} (h : Mid who w g cap l i j) (hj : j < l.length) (he : l[j].1 = who) : Mid who w g cap l i (j + 1) := by
  obtain ⟨h1, h2, h3, h4, cur, hg, hs, ht, hd⟩ := h
  have e : kept who (l.take (j + 1)) = kept who (l.take j) := by rw [kept_take_succ who l j hj, if_pos he, List.append_nil]
  exact ⟨by rw [e]; exact h1, by omega, by omega, h4, cur, hg, hs, by rw [e]; exact ht, drop_step hj hd⟩

theorem Mid.keep {who : Int} {w : World} {g cap i j : Nat} {l : List (Int × Int)} (h : Mid who w g cap l i j) (hj : j < l.length) (he : l[j].1 ≠ who) :
    Mid who ((w.setCell ⟨g, i * 2, Option.none⟩ (.int .i64 l[j].1)).setCell ⟨g, i * 2 + 1, Option.none⟩ (.int .i64 l[j].2)) g cap l (i + 1) (j + 1) := by
  obtain ⟨h1, h2, h3, h4, cur, hg, hs, ht, hd⟩ := h
  have e : kept who (l.take (j + 1)) = kept who (l.take j) ++ [l[j]] := by rw [kept_take_succ who l j hj, if_neg he]
  refine ⟨by rw [e]; simp [← h1], by omega, by omega, h4, (cur.set (i * 2) (.int .i64 l[j].1)).set (i * 2 + 1) (.int .i64 l[j].2), ?_, by simpa using hs, ?_, ?_⟩
  · have := heap_setCell_same _ g (i * 2 + 1) _ _ (.int .i64 l[j].2) (heap_setCell_same w g (i * 2) _ _ (.int .i64 l[j].1) hg)
    simpa using this
  · rw [show (i + 1) * 2 = i * 2 + 2 by omega, set_take2 _ _ _ _ (by omega), ht, e, flat_append]; rfl
  · rw [set_drop2 _ _ _ _ _ (by omega)]; exact drop_step hj hd

theorem zeros_one (m : Nat) : ∀ v ∈ (Builtin.zeroCells (Value.agg #[.int .i64 0, .int .i64 0]).cells m).toList, v.oneCell' = true := by
  intro v hv
  simp [Builtin.zeroCells, Value.cells] at hv
  obtain ⟨j, _, rfl⟩ := hv
  rcases Nat.mod_two_eq_zero_or_one j with h | h <;> simp [h] <;> rfl

theorem run_clear_own (w : World) (g p m c : Nat) (cur : List Value) (hg : w.heap[g]? = some (.cells cur.toArray 49 (0, 0))) (hm : 0 < m) (hfit : p + m * 2 ≤ cur.length) :
    ∃ cur' : List Value, cur'.length = cur.length ∧ cur'.take p = cur.take p ∧ ∀ ty, (Builtin.clear_ #[22] ty #[.slice (some ⟨g, p, Option.none⟩) m c]).run Try.prog w = .ok (.tuple #[]) (w.setRow g cur'.toArray) := by
  have hz : (Builtin.zeroCells (Value.agg #[.int .i64 0, .int .i64 0]).cells m).size = m * 2 := by rw [size_zeroCells]; rfl
  have hv : ∀ w, (zeroValue 49).run Try.prog w = .ok (.agg #[.int .i64 0, .int .i64 0]) w := Try.zeroValue49
  have hst := run_storeCells_at Try.prog g p 49 (Builtin.zeroCells (Value.agg #[.int .i64 0, .int .i64 0]).cells m).toList 0 cur.toArray w hg (by simp [hz]; omega) (zeros_one m)
  refine ⟨cur.take p ++ (Builtin.zeroCells (Value.agg #[.int .i64 0, .int .i64 0]).cells m).toList ++ cur.drop (p + m * 2), by simp [hz]; omega, by simp [List.take_append]; rw [List.take_of_length_le (by simp; omega)]; simp; omega, fun ty => ?_⟩
  obtain ⟨k, rfl⟩ : ∃ k, m = k + 1 := ⟨m - 1, by omega⟩
  simp [Builtin.clear_, run_underlying Try.underlying22, hv]
  simp [hz] at hst
  simp [hst]
end Go.Proofs.Ytokjacbipmfjkaa
