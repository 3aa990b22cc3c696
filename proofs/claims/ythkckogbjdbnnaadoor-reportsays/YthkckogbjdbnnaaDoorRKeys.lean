/- What report.Keys and the document's Keys answer. No statement of the seat is proved here. -/
import Derived.Test.YthkckogbjdbnnaaDoorRKMath
import Derived.Test.YthkckogbjdbnnaaDoorNums
import Derived.Test.YthkckogbjdbnnaaDoorFacts
import Derived.Test.YthkckogbjdbnnaaDoorShelfS
import Derived.Sort.OwnSortedInts
namespace Go.Proofs.YthkckogbjdbnnaaDoor
open Go.ChangeShapes Go.WideShapes Go.ChangeAt Go.RowKit

def sortI (l : List Int) : List Int := l.mergeSort fun x y => decide (x ≤ y)
theorem sortI_len (l : List Int) : (sortI l).length = l.length := List.length_mergeSort _
/-- Numbers of the call's own, sorted in their place. -/
theorem sort_own (v : Value) (zs : List Int) (base : Nat) (w : World) (ho : OwnI w base v zs) (hz : zs.length ≤ 1000000) (hb : base ≤ w.heap.size) :
    Calls Tryd.prog 50 #[v] w fun e w' => e = .returned (.tuple #[]) ∧ Below base w w' ∧ OwnI w' base v (sortI zs) := by
  rcases ho.2 with ⟨rfl, h0⟩ | ⟨gb, cap, cur, rfl, hg0, hg, hnc, hcm, hs, ht⟩
  · obtain rfl : zs = [] := List.eq_nil_of_length_eq_zero h0
    refine (Tryd.slices_Sort_int_none Option.none 0 w).mono ?_
    rintro e w1 ⟨rfl, rfl⟩
    exact ⟨rfl, Below.refl _ _, by unfold sortI; rw [List.mergeSort_nil]; exact ho⟩
  · have hgl : gb < w.heap.size := (Array.getElem?_eq_some_iff.1 hg).1
    have HH := holds_of_blockI hg (by simpa using ht)
    refine (Tryd.slices_Sort_int gb 0 cap zs w HH hgl (by omega)).mono ?_
    rintro e w' ⟨rfl, q, os, rfl⟩
    refine ⟨rfl, ?_, ?_⟩
    · have hgr := grownBy_sortedI (w := w) (g := gb) (n := q) (os := os) (sortI zs).toArray
      exact (Below.refl _ _).grown hgr hb (fun k hk => by simp at hk; omega)
    · have := ownsRow_sortedI (w := w) (base := base) (g := gb) (cap := cap) (n := q) (e := 3) (os := os) (cur := cur) (ss := zs) (ts := sortI zs) (sortI_len zs) hg0 hg hnc hcm hs
      unfold OwnI
      rw [sortI_len]
      exact this
/-- Numbers of the call's own, told once each, in their place. -/
theorem compact_own (v : Value) (ys : List Int) (base : Nat) (w : World) (ho : OwnI w base v ys) (hz : ys.length ≤ 1000000) (hb : base ≤ w.heap.size) :
    Calls Tryd.prog 51 #[v] w fun e w' => ∃ a' n' c', e = .returned (.slice a' n' c') ∧ Below base w w' ∧ Nums w' a' n' (Lib.compact ys) := by
  rcases ho.2 with ⟨rfl, h0⟩ | ⟨gb, cap, cur, rfl, hg0, hg, hnc, hcm, hs, ht⟩
  · obtain rfl : ys = [] := List.eq_nil_of_length_eq_zero h0
    refine (Tryd.slices_Compact_int_empty Option.none 0 w).mono ?_
    rintro e w1 ⟨rfl, rfl⟩
    exact ⟨Option.none, 0, 0, rfl, Below.refl _ _, by simp [Lib.compact, Lib.compactUpTo], by decide, fun h => absurd rfl h⟩
  · have HH := holds_of_blockI hg (by simpa using ht)
    have hcl := compact_len ys
    refine (Tryd.slices_Compact_int gb 0 cap ys w HH (by omega) hnc).mono ?_
    rintro e w' ⟨rfl, q, hw⟩
    generalize hd : Lib.compact ys ++ List.replicate (ys.length - (Lib.compact ys).length) 0 = d at hw
    have hdl : d.length = ys.length := by rw [← hd]; simp; omega
    have hgr := grownBy_sortedI (w := w) (g := gb) (n := q) (os := #[]) d.toArray
    have hhp := heap_sortedI (w := w) (g := gb) (n := q) (os := #[]) d.toArray hg
    rw [Sort.grow_empty] at hgr hhp
    rw [← hw] at hgr hhp
    refine ⟨some ⟨gb, 0, Option.none⟩, (Lib.compact ys).length, cap, rfl, (Below.refl _ _).grown hgr hb (fun k hk => by simp at hk; omega), rfl, by simp only [maxLen] at hcm; omega, fun _ => ⟨gb, 0, rfl, fun i hi => ?_⟩⟩
    have hp := take_putCellsI cur d (by simp at hs; omega)
    have h3 := congrArg (fun x : List Value => x[i]?) hp
    simp only [List.getElem?_take_of_lt (show i < d.length by omega), Array.getElem?_toList] at h3
    simp only [World.cell?, hhp, Nat.zero_add]
    rw [if_neg (by simp), h3, ← hd, List.getElem?_map, List.getElem?_append_left hi]
    simp [hi]

set_option maxRecDepth 100000 in
set_option maxHeartbeats 4000000 in
theorem rkeys_any (g t h : Int) (a : Option Addr) (n c : Nat) (y : Bool) (l : List (Int × Int)) (w : World) (hr : Row w a n l) (hn : n ≤ 1000000) :
    Calls Tryd.prog 28 #[.agg #[.int .i64 g, .slice a n c, .int .i64 t, .int .i64 h, .bool y]] w fun e w' => ∃ a' n' c', e = .returned (.slice a' n' c') ∧ Nums w' a' n' (keysL l) ∧ Below w.heap.size w w' := by
  have hl := hr.1
  go_enter Tryd.func28, Tryd.ntmps28
  go_wp2
  go_loopw [3, 9] (fun u i wr => ∃ (k : Nat) (a' : Option Addr) (n' c' : Nat), k ≤ n ∧ u = .slice a' n' c' ∧ i = .int .i64 k ∧ OwnI wr w.heap.size (.slice a' n' c') ((l.take k).map (·.2)) ∧ Below w.heap.size w wr) (fun _ i _ => n - (intOf i).toNat)
  case atStart => exact ⟨0, Option.none, 0, 0, Nat.zero_le _, rfl, rfl, ⟨rfl, .inl ⟨rfl, rfl⟩⟩, (Below.refl _ _).alloc (Nat.le_refl _) _⟩
  case round =>
    obtain ⟨k, a1, n1, c1, hk, rfl, rfl, ho, bw⟩ := hrel
    have hlen : ((l.take k).map (·.2)).length ≤ k := by rw [List.length_map]; exact List.length_take_le _ _
    have hsz := bw.size
    by_cases hlt : k < n
    · have HN : Hid ((l.take (k + 1)).map (·.2) = (l.take k).map (·.2) ++ [l[k].2]) := by show _ = _; rw [List.take_succ_eq_append_getElem (by omega), List.map_append]; rfl
      obtain ⟨b, off, rfl, hc⟩ := (hr.later bw).2.2 (by omega)
      obtain ⟨hc0, hc1⟩ := hc k (by omega)
      clear hc
      generalize hst : (l.take k).map (·.2) = acc at *
      have HO1 : Hid (OwnI (wr.alloc (.cells #[.int .i64 l[k].1, .int .i64 l[k].2] 78)) w.heap.size (.slice a1 n1 c1) acc) := ho.later ((Below.refl _ _).alloc (Nat.le_refl _) _) (Nat.le_refl _)
      clear ho hst
      have bw1 := bw.alloc hsz (.cells #[.int .i64 l[k].1, .int .i64 l[k].2] 78)
      have hsz1 := bw1.size
      go_wp2_with (at_builtin; refine wpList_appI rfl _ _ rfl w.heap.size (.slice a1 n1 c1) acc l[k].2 (wr.alloc (.cells #[.int .i64 l[k].1, .int .i64 l[k].2] 78)) rfl (by simp [Act.eval]) HO1.out (by omega) hsz1 ?_)
      intro a2 n2 c2 w1 ho1 hb1
      have HO2 : Hid (OwnI w1 w.heap.size (.slice a2 n2 c2) (acc ++ [l[k].2])) := ho1
      clear ho1
      go_wp2
      go_roundw
      case rel => exact ⟨k + 1, a2, n2, c2, by omega, rfl, by go_num, by rw [HN.out]; exact HO2.out, bw1.trans hb1⟩
      case measure => simp [intOf]; omega
    · have hkn : k = n := by omega
      subst hkn
      have hst : (l.take k).map (·.2) = l.map (·.2) := by rw [List.take_of_length_le (by omega)]
      rw [hst] at ho
      have hlm0 : (l.map (·.2)).length = k := by simp [hl]
      have HKL : Hid (keysL l = Lib.compact ((l.map (·.2)).mergeSort fun x y => decide (x ≤ y))) := rfl
      have HKL : Hid (keysL l = Lib.compact (sortI (l.map (·.2)))) := rfl
      have hz0 : (l.map (·.2)).length ≤ 1000000 := by omega
      clear hlm0 hst hlen
      generalize hz : l.map (·.2) = zs at *
      clear hz
      have HS : Hid (Calls Tryd.prog 50 #[.slice a1 n1 c1] wr fun e w' => e = .returned (.tuple #[]) ∧ Below w.heap.size wr w' ∧ OwnI w' w.heap.size (.slice a1 n1 c1) (sortI zs)) := sort_own _ zs w.heap.size wr ho hz0 hsz
      clear ho
      go_wp2_with fail
      refine HS.out.mono ?_
      rintro e w1 ⟨rfl, bw1, ho⟩
      clear HS
      have HC : Hid (Calls Tryd.prog 51 #[.slice a1 n1 c1] w1 fun e w' => ∃ a' n' c', e = .returned (.slice a' n' c') ∧ Below w.heap.size w1 w' ∧ Nums w' a' n' (Lib.compact (sortI zs))) := compact_own _ (sortI zs) w.heap.size w1 ho (by rw [sortI_len]; exact hz0) (Nat.le_trans hsz bw1.size)
      clear ho
      go_wp2_with fail
      refine HC.out.mono ?_
      rintro e w2 ⟨a3, n3, c3, rfl, bw2, hnum⟩
      have HA : Hid (Nums w2 a3 n3 (keysL l)) := by rw [HKL.out]; exact hnum
      clear hnum HC
      go_wp2
      go_ret
      exact ⟨_, _, _, rfl, HA.out, (bw.trans bw1).trans bw2⟩
end Go.Proofs.YthkckogbjdbnnaaDoor
