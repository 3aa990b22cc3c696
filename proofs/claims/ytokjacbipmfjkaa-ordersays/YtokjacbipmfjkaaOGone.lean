/- What order.gone answers: who of the others is known by that key, or all of them. No statement of the seat is proved here. -/
import Derived.Test.YtokjacbipmfjkaaOHeld
namespace Go.Proofs.Ytokjacbipmfjkaa
open Go.ChangeShapes Go.WideShapes Go.ChangeAt Go.RowKit Go.Deep

/-- Who stays, asked with a key. -/
def staysB (l : List (Int × Int)) (new x : Int) : Bool := new != 0 && keyOf l x != new
/-- Numbers that are left. -/
def keptI (p : Int → Bool) (l : List Int) : List Int := l.filter fun x => !p x
theorem keptI_le (p : Int → Bool) (l : List Int) : (keptI p l).length ≤ l.length := List.length_filter_le _ _
theorem keptI_all {p : Int → Bool} {l : List Int} (h : ∀ j (h : j < l.length), p l[j] = false) : keptI p l = l := by
  refine List.filter_eq_self.2 fun r hr => ?_
  obtain ⟨j, hj, rfl⟩ := List.mem_iff_getElem.1 hr
  simpa using h j hj
theorem keptI_take_succ (p : Int → Bool) (l : List Int) (j : Nat) (h : j < l.length) : keptI p (l.take (j + 1)) = keptI p (l.take j) ++ (if p l[j] = true then [] else [l[j]]) := by
  rw [List.take_succ_eq_append_getElem h, keptI, keptI, List.filter_append]
  by_cases e : p l[j] = true
  · simp [e]
  · simp only [Bool.not_eq_true] at e; simp [e]

/-- A closure over a command and a state. -/
abbrev goneV (bc bs : Nat) : Value := .func (.func 64) #[] #[.pointer (some ⟨bc, 0, Option.none⟩), .pointer (some ⟨bs, 0, Option.none⟩)]
/-- It answers so, in every later world. -/
def Asks (bc bs : Nat) (p : Int → Bool) (base : Nat) (w : World) : Prop := ∀ w' : World, Below base w w' → ∀ x : Int, Calls Try.prog 64 #[.int .i64 x, .pointer (some ⟨bc, 0, Option.none⟩), .pointer (some ⟨bs, 0, Option.none⟩)] w' fun e w'' => e = .returned (.bool (p x)) ∧ Below w'.heap.size w' w''
theorem Asks.later {bc bs : Nat} {p : Int → Bool} {base : Nat} {w w' : World} (h : Asks bc bs p base w) (hb : Below base w w') : Asks bc bs p base w' := fun w'' hb' x => h w'' (hb.trans hb') x

set_option maxHeartbeats 1000000 in
theorem indexI_any (a : Option Addr) (n c : Nat) (l : List Int) (p : Int → Bool) (bc bs base : Nat) (w : World) (hr : Nums w a n l) (hA : Asks bc bs p base w) (hbase : base ≤ w.heap.size) :
    Calls Try.prog 70 #[.slice a n c, goneV bc bs] w fun e w' =>
      (∃ i : Int, e = .returned (.int .i64 i) ∧ ((i = -1 ∧ ∀ j (h : j < l.length), p l[j] = false) ∨ ∃ k : Nat, i = k ∧ ∃ h : k < l.length, p l[k] = true ∧ ∀ j (h : j < k), p l[j] = false)) ∧ Below w.heap.size w w' := by
  obtain ⟨hl, hn, hrow⟩ := hr
  go_enter Try.func70, Try.ntmps70
  go_wp2
  go_loopw [8] (fun i wr => ∃ k : Nat, k ≤ n ∧ i = .int .i64 k ∧ Below w.heap.size w wr ∧ Hid (∀ j (h : j < l.length), j < k → p l[j] = false)) (fun i _ => n - (intOf i).toNat)
  case atStart => exact ⟨0, Nat.zero_le _, rfl, Below.refl _ _, fun j _ h => absurd h (Nat.not_lt_zero _)⟩
  case round =>
    obtain ⟨k, hk, rfl, hb, hall⟩ := hrel
    by_cases hlt : k < n
    · obtain ⟨b, off, rfl, hcs⟩ := hrow (by omega)
      have hc0 := cell_later hb (hcs k (by omega))
      clear hcs hrow
      have HC : Hid (Calls Try.prog 64 #[.int .i64 l[k], .pointer (some ⟨bc, 0, Option.none⟩), .pointer (some ⟨bs, 0, Option.none⟩)] wr fun e w'' => e = .returned (.bool (p l[k])) ∧ Below wr.heap.size wr w'') := hA wr (hb.mono hbase) l[k]
      clear hA
      cases hq : p l[k]
      · rw [hq] at HC
        go_wp2_with (go_at_call 64; refine HC.out.mono ?_; rintro e w' ⟨rfl, hb'⟩)
        go_roundw
        case rel => exact ⟨k + 1, by omega, by go_num, hb.trans (hb'.mono hb.size), fun j hj hjk => by
          rcases Nat.lt_or_ge j k with h | h
          · exact hall.out j hj h
          · have : j = k := by omega
            subst this
            exact hq⟩
        case measure => simp [intOf]; omega
      · rw [hq] at HC
        go_wp2_with (go_at_call 64; refine HC.out.mono ?_; rintro e w' ⟨rfl, hb'⟩)
        go_ret
        exact ⟨⟨(k : Int), rfl, .inr ⟨k, rfl, by omega, hq, fun j hj => hall.out j (by omega) hj⟩⟩, hb.trans (hb'.mono hb.size)⟩
    · go_wp2
      go_ret
      exact ⟨⟨-1, rfl, .inl ⟨rfl, fun j hj => hall.out j hj (by omega)⟩⟩, hb⟩

/-- A row of numbers that is the call's own. -/
def OwnN (w : World) (base g cap : Nat) (l : List Int) : Prop :=
  base ≤ g ∧ l.length ≤ cap ∧ cap ≤ 9223372036854775807 ∧ ∃ cur : List Value, w.heap[g]? = some (.cells cur.toArray 3 (0, 0)) ∧ cur.length = cap ∧ cur.take l.length = l.map (Value.int .i64)
theorem OwnI.split {w : World} {base : Nat} {v : Value} {l : List Int} (h : OwnI w base v l) : (v = .slice Option.none 0 0 ∧ l = []) ∨ ∃ g cap, v = .slice (some ⟨g, 0, Option.none⟩) l.length cap ∧ OwnN w base g cap l := by
  rcases h.2 with ⟨rfl, h0⟩ | ⟨g, cap, cur, rfl, hb, hg, hnc, hcm, hs, ht⟩
  · exact .inl ⟨rfl, List.eq_nil_of_length_eq_zero h0⟩
  · exact .inr ⟨g, cap, rfl, hb, hnc, by simpa [maxLen] using hcm, cur.toList, by simpa using hg, by simpa using hs, by simpa using ht⟩
theorem OwnN.own {w : World} {base g cap : Nat} {l : List Int} (h : OwnN w base g cap l) : OwnI w base (.slice (some ⟨g, 0, Option.none⟩) l.length cap) l := by
  obtain ⟨hb, hl, hc, cur, hg, hs, ht⟩ := h
  exact ⟨by simp, .inr ⟨g, cap, cur.toArray, rfl, hb, hg, hl, by simpa [maxLen] using hc, by simpa using hs, by simpa using ht⟩⟩
theorem OwnN.nums {w : World} {base g cap : Nat} {l : List Int} (h : OwnN w base g cap l) : Nums w (some ⟨g, 0, Option.none⟩) l.length l := by
  obtain ⟨a, n, c, e, hn⟩ := h.own.form
  simp only [Value.slice.injEq] at e
  obtain ⟨rfl, rfl, rfl⟩ := e
  exact hn
theorem OwnN.later {w w' : World} {base B g cap : Nat} {l : List Int} (h : OwnN w base g cap l) (hb : Below B w w') (hg : g < B) : OwnN w' base g cap l := by
  obtain ⟨h1, h2, h3, cur, h4, h5, h6⟩ := h
  exact ⟨h1, h2, h3, cur, by rw [hb.block g hg]; exact h4, h5, h6⟩
theorem OwnN.lt {w : World} {base g cap : Nat} {l : List Int} (h : OwnN w base g cap l) : g < w.heap.size := by
  obtain ⟨_, _, _, cur, h4, _⟩ := h
  exact (Array.getElem?_eq_some_iff.1 h4).1

/-- A row while DeleteFunc goes over it: i are laid, j are looked at. -/
def MidI (p : Int → Bool) (w : World) (g cap : Nat) (l : List Int) (i j : Nat) : Prop :=
  i = (keptI p (l.take j)).length ∧ i < j ∧ j ≤ l.length ∧ l.length ≤ cap ∧ ∃ cur : List Value, w.heap[g]? = some (.cells cur.toArray 3 (0, 0)) ∧ cur.length = cap ∧ cur.take i = (keptI p (l.take j)).map (Value.int .i64) ∧ (cur.drop j).take (l.length - j) = (l.drop j).map (Value.int .i64)
theorem MidI.later {p : Int → Bool} {w w' : World} {g cap i j B : Nat} {l : List Int} (h : MidI p w g cap l i j) (hb : Below B w w') (hg : g < B) : MidI p w' g cap l i j := by
  obtain ⟨h1, h2, h3, h4, cur, h5, h6⟩ := h
  exact ⟨h1, h2, h3, h4, cur, by rw [hb.block g hg]; exact h5, h6⟩
theorem MidI.lt {p : Int → Bool} {w : World} {g cap i j : Nat} {l : List Int} (h : MidI p w g cap l i j) : g < w.heap.size := by
  obtain ⟨_, _, _, _, cur, h5, _⟩ := h
  exact (Array.getElem?_eq_some_iff.1 h5).1
theorem MidI.start {p : Int → Bool} {w : World} {base g cap : Nat} {l : List Int} (ho : OwnN w base g cap l) {k : Nat} (hk : k < l.length) (he : p l[k] = true) (ha : ∀ j (h : j < k), p l[j] = false) : MidI p w g cap l k (k + 1) := by
  obtain ⟨_, hl, _, cur, hg, hs, ht⟩ := ho
  have e1 : keptI p (l.take (k + 1)) = l.take k := by
    rw [keptI_take_succ p l k hk, if_pos he, List.append_nil]
    exact keptI_all fun j hj => by simp at hj ⊢; exact ha j (by omega)
  refine ⟨by rw [e1]; simp; omega, by omega, by omega, hl, cur, hg, hs, ?_, ?_⟩
  · rw [e1, List.map_take, ← ht, List.take_take, Nat.min_eq_left (by omega)]
  · rw [List.map_drop, ← ht, List.drop_take]
theorem MidI.cells {p : Int → Bool} {w : World} {g cap i j : Nat} {l : List Int} (h : MidI p w g cap l i j) (hj : j < l.length) :
    w.cell? ⟨g, j, Option.none⟩ = some (.int .i64 l[j]) ∧ (∃ v, w.cell? ⟨g, i, Option.none⟩ = some v) ∧ w.frozen? ⟨g, i, Option.none⟩ = false := by
  obtain ⟨h1, h2, h3, h4, cur, hg, hs, ht, hd⟩ := h
  have cell : ∀ q, w.cell? ⟨g, q, Option.none⟩ = cur[q]? := fun q => by simp [World.cell?, hg]
  have hd0 := congrArg (fun x : List Value => x[0]?) hd
  rw [List.drop_eq_getElem_cons hj] at hd0
  rw [List.getElem?_take_of_lt (by omega)] at hd0
  simp at hd0
  refine ⟨?_, ?_, by simp [World.frozen?, hg]⟩
  · rw [cell, hd0]; simp [hj]
  · exact ⟨_, by rw [cell]; exact List.getElem?_eq_getElem (by omega)⟩
theorem dropI_step {cur : List Value} {l : List Int} {j : Nat} (hd : (cur.drop j).take (l.length - j) = (l.drop j).map (Value.int .i64)) : (cur.drop (j + 1)).take (l.length - (j + 1)) = (l.drop (j + 1)).map (Value.int .i64) := by
  have := congrArg (List.drop 1) hd
  rw [List.drop_take, List.drop_drop, ← List.map_drop, List.drop_drop] at this
  rw [← this, show l.length - (j + 1) = l.length - j - 1 by omega]
theorem MidI.skip {p : Int → Bool} {w : World} {g cap i j : Nat} {l : List Int} (h : MidI p w g cap l i j) (hj : j < l.length) (he : p l[j] = true) : MidI p w g cap l i (j + 1) := by
  obtain ⟨h1, h2, h3, h4, cur, hg, hs, ht, hd⟩ := h
  have e : keptI p (l.take (j + 1)) = keptI p (l.take j) := by rw [keptI_take_succ p l j hj, if_pos he, List.append_nil]
  exact ⟨by rw [e]; exact h1, by omega, by omega, h4, cur, hg, hs, by rw [e]; exact ht, dropI_step hd⟩
theorem set_take1 (x : Value) (cur : List Value) (q : Nat) (h : q < cur.length) : (cur.set q x).take (q + 1) = cur.take q ++ [x] := by
  rw [List.take_succ_eq_append_getElem (by simpa using h)]
  simp [List.take_set_of_le]
theorem MidI.keep {p : Int → Bool} {w : World} {g cap i j : Nat} {l : List Int} (h : MidI p w g cap l i j) (hj : j < l.length) (he : p l[j] = false) :
    MidI p (w.setCell ⟨g, i, Option.none⟩ (.int .i64 l[j])) g cap l (i + 1) (j + 1) := by
  obtain ⟨h1, h2, h3, h4, cur, hg, hs, ht, hd⟩ := h
  have e : keptI p (l.take (j + 1)) = keptI p (l.take j) ++ [l[j]] := by rw [keptI_take_succ p l j hj, if_neg (by rw [he]; decide)]
  refine ⟨by rw [e]; simp [← h1], by omega, by omega, h4, cur.set i (.int .i64 l[j]), ?_, by simpa using hs, ?_, ?_⟩
  · have := heap_setCell_same w g i _ _ (.int .i64 l[j]) hg
    simpa using this
  · rw [set_take1 _ _ _ (by omega), ht, e, List.map_append]; rfl
  · rw [List.drop_set_of_lt (by omega)]; exact dropI_step hd

theorem zerosI_one (m : Nat) : ∀ v ∈ (Builtin.zeroCells (Value.int .i64 0).cells m).toList, v.oneCell' = true := by
  intro v hv
  simp [Builtin.zeroCells, Value.cells] at hv
  obtain ⟨j, _, rfl⟩ := hv
  first | rfl | (simp; rfl) | (simp [Nat.mod_one]; rfl)
theorem run_clearI_own (w : World) (g p m c : Nat) (cur : List Value) (hg : w.heap[g]? = some (.cells cur.toArray 3 (0, 0))) (hm : 0 < m) (hfit : p + m ≤ cur.length) :
    ∃ cur' : List Value, cur'.length = cur.length ∧ cur'.take p = cur.take p ∧ ∀ ty, (Builtin.clear_ #[61] ty #[.slice (some ⟨g, p, Option.none⟩) m c]).run Try.prog w = .ok (.tuple #[]) (w.setRow g cur'.toArray) := by
  have hz : (Builtin.zeroCells (Value.int .i64 0).cells m).size = m := by rw [size_zeroCells]; simp [Value.cells]
  have hv : ∀ w, (zeroValue 3).run Try.prog w = .ok (.int .i64 0) w := Try.zeroValue3
  have hst := run_storeCells_at Try.prog g p 3 (Builtin.zeroCells (Value.int .i64 0).cells m).toList 0 cur.toArray w hg (by simp [hz]; omega) (zerosI_one m)
  refine ⟨cur.take p ++ (Builtin.zeroCells (Value.int .i64 0).cells m).toList ++ cur.drop (p + m), by simp [hz]; omega, by simp [List.take_append]; rw [List.take_of_length_le (by simp; omega)]; simp; omega, fun ty => ?_⟩
  obtain ⟨k, rfl⟩ : ∃ k, m = k + 1 := ⟨m - 1, by omega⟩
  simp [Builtin.clear_, run_underlying Try.underlying61, hv]
  simp [hz] at hst
  simp [hst]

set_option maxHeartbeats 2000000 in
theorem deleteI_some (g cap : Nat) (l : List Int) (p : Int → Bool) (bc bs base : Nat) (w : World) (ho : OwnN w base g cap l) (hA : Asks bc bs p base w) :
    Calls Try.prog 65 #[.slice (some ⟨g, 0, Option.none⟩) l.length cap, goneV bc bs] w fun e w' =>
      e = .returned (.slice (some ⟨g, 0, Option.none⟩) (keptI p l).length cap) ∧ OwnN w' base g cap (keptI p l) ∧ Below base w w' := by
  have hglt := ho.lt
  have hbg := ho.1
  have hncap := ho.2.1
  have hcap := ho.2.2.1
  generalize hn : l.length = n at *
  have HO : Hid (OwnN w base g cap l) := ho
  have hrow := ho.nums
  rw [hn] at hrow
  have HR : Hid (Nums w (some ⟨g, 0, Option.none⟩) n l) := hrow
  have HA : Hid (Asks bc bs p base w) := hA
  clear hrow ho hA
  go_enter Try.func65, Try.ntmps65
  go_wp2_with fail
  refine (indexI_any (some ⟨g, 0, Option.none⟩) n cap l p bc bs base w HR.out HA.out (by omega)).mono ?_
  rintro e w1 ⟨⟨i, rfl, hi⟩, hb1⟩
  rcases hi with ⟨rfl, hall⟩ | ⟨k, rfl, hk, he, ha⟩
  · have hk := keptI_all hall
    clear hall
    go_wp2
    go_ret
    rw [hk, hn]
    exact ⟨rfl, HO.out.later hb1 hglt, hb1.mono (by omega)⟩
  · have hne : ((k : Int) == -1) = false := beq_eq_false_iff_ne.2 (by omega)
    have hM := MidI.start (HO.out.later hb1 hglt) hk he ha
    have hbw := hb1.mono (show base ≤ w.heap.size by omega)
    clear HR ha he
    go_wp2
    go_loopw [5, 6] (fun u v wr => ∃ i j : Nat, u = .int .i64 i ∧ v = .int .i64 j ∧ MidI p wr g cap l i j ∧ Below base w wr) (fun _ v _ => n - (intOf v).toNat)
    case atStart => exact ⟨k, k + 1, rfl, by go_num, hM, hbw⟩
    case round =>
      clear hM hbw hb1 hne
      obtain ⟨i, j, rfl, rfl, hM, hbw⟩ := hrel
      have hij := hM.2.1
      have hjn := hM.2.2.1
      rw [hn] at hjn
      have hmlt := hM.lt
      by_cases hlt : j < n
      · obtain ⟨c0, ⟨v0, o0⟩, f0⟩ := hM.cells (by omega)
        have HC : Hid (Calls Try.prog 64 #[.int .i64 l[j], .pointer (some ⟨bc, 0, Option.none⟩), .pointer (some ⟨bs, 0, Option.none⟩)] wr fun e w'' => e = .returned (.bool (p l[j])) ∧ Below wr.heap.size wr w'') := HA.out wr hbw l[j]
        cases hq : p l[j]
        · rw [hq] at HC
          go_wp2_with fail
          refine HC.out.mono ?_
          rintro e w2 ⟨rfl, hb2⟩
          have e0 := cell_later hb2 o0
          have f0' := frozen_later hb2 o0 f0
          have HK : Hid (MidI p (w2.setCell ⟨g, i, Option.none⟩ (.int .i64 l[j])) g cap l (i + 1) (j + 1)) := (hM.later hb2 hmlt).keep (by omega) hq
          have hbw2 := hbw.trans (hb2.mono (show base ≤ wr.heap.size by omega))
          clear hM c0 o0 f0
          go_wp2
          go_roundw
          case rel => exact ⟨i + 1, j + 1, by go_num, by go_num, HK.out, hbw2.setCell (by exact hbg) _⟩
          case measure => simp [intOf]; omega
        · rw [hq] at HC
          go_wp2_with fail
          refine HC.out.mono ?_
          rintro e w2 ⟨rfl, hb2⟩
          have HK : Hid (MidI p w2 g cap l i (j + 1)) := (hM.later hb2 hmlt).skip (by omega) hq
          have hbw2 := hbw.trans (hb2.mono (show base ≤ wr.heap.size by omega))
          clear hM c0 o0 f0
          go_wp2
          go_roundw
          case rel => exact ⟨i, j + 1, rfl, by go_num, HK.out, hbw2⟩
          case measure => simp [intOf]; omega
      · have hje : j = n := by omega
        subst hje
        obtain ⟨h1, h2, h3, h4, cur, hg, hs, ht, hd⟩ := hM
        rw [← hn, List.take_length] at h1 ht
        obtain ⟨cur', hl', ht', hcl⟩ := run_clearI_own wr g i (j - i) (cap - i) cur hg (by omega) (by omega)
        have HC : Hid (i = (keptI p l).length) := h1
        have HO' : Hid (OwnN (wr.setRow g cur'.toArray) base g cap (keptI p l)) := by
          refine ⟨hbg, by omega, hcap, cur', setRow_heap wr g _ _ _ _ hg, by omega, ?_⟩
          rw [← h1, ht', ht]
        clear h1 ht hd hg ht' hl'
        go_wp2
        go_ret
        refine ⟨by rw [← HC.out]; rfl, HO'.out, ?_⟩
        exact hbw.trans ⟨rfl, rfl, rfl, by simp [World.setRow], fun k hk => setRow_other wr g k _ (by omega)⟩
theorem deleteI_any (v : Value) (l : List Int) (p : Int → Bool) (bc bs base : Nat) (w : World) (ho : OwnI w base v l) (hA : Asks bc bs p base w) (hbase : base ≤ w.heap.size) :
    Calls Try.prog 65 #[v, goneV bc bs] w fun e w' => ∃ a' n' c', e = .returned (.slice a' n' c') ∧ Nums w' a' n' (keptI p l) ∧ Below base w w' := by
  rcases ho.split with ⟨rfl, rfl⟩ | ⟨g, cap, rfl, hoN⟩
  · go_enter Try.func65, Try.ntmps65
    go_wp2_with fail
    refine (indexI_any Option.none 0 0 [] p bc bs base w ⟨rfl, by decide, fun h => absurd rfl h⟩ hA hbase).mono ?_
    rintro e w1 ⟨⟨i, rfl, hi⟩, hb1⟩
    rcases hi with ⟨rfl, hall⟩ | ⟨k, rfl, hk, he, ha⟩
    · clear hall ho hA
      go_wp2
      go_ret
      exact ⟨Option.none, 0, 0, rfl, ⟨rfl, by decide, fun h => absurd rfl h⟩, hb1.mono hbase⟩
    · simp at hk
  · refine (deleteI_some g cap l p bc bs base w hoN hA).mono ?_
    rintro e w' ⟨rfl, h1, h2⟩
    exact ⟨_, _, _, rfl, h1.nums, h2⟩
end Go.Proofs.Ytokjacbipmfjkaa
