/- What hold.Others and the document's own Others answer. -/
import Derived.Test.YtokjacbipmfjkaaRWith
import Derived.Test.YtokjacbipmfjkaaNums
namespace Go.Proofs.Ytokjacbipmfjkaa
open Go.ChangeShapes Go.WideShapes Go.ChangeAt Go.RowKit

/-- The others who are known. -/
def othersL (l : List (Int × Int)) (who : Int) : List Int := (kept who l).map (·.1)
theorem others_step (l : List (Int × Int)) (who : Int) (k : Nat) (h : k < l.length) : othersL (l.take (k + 1)) who = if l[k].1 = who then othersL (l.take k) who else othersL (l.take k) who ++ [l[k].1] := by
  unfold othersL
  rw [kept_take_succ who l k h]
  split <;> simp
theorem others_len (l : List (Int × Int)) (who : Int) (k : Nat) : (othersL (l.take k) who).length ≤ k := by
  unfold othersL
  rw [List.length_map]
  exact Nat.le_trans (kept_le _ _) (by simp; omega)

set_option maxHeartbeats 4000000 in
theorem others_any (g t h : Int) (a : Option Addr) (n c : Nat) (y : Bool) (l : List (Int × Int)) (who : Int) (w : World) (hr : Row w a n l) (hn : n ≤ 1000000) :
    Calls Try.prog 50 #[.agg #[.int .i64 g, .slice a n c, .int .i64 t, .int .i64 h, .bool y], .int .i64 who] w fun e w' => ∃ a' n' c', e = .returned (.slice a' n' c') ∧ Nums w' a' n' (othersL l who) ∧ Below w.heap.size w w' := by
  have hl := hr.1
  go_enter Try.func50, Try.ntmps50
  go_wp2
  go_loopw [5, 11] (fun u i wr => ∃ (k : Nat) (a' : Option Addr) (n' c' : Nat), k ≤ n ∧ u = .slice a' n' c' ∧ i = .int .i64 k ∧ OwnI wr w.heap.size (.slice a' n' c') (othersL (l.take k) who) ∧ Below w.heap.size w wr) (fun _ i _ => n - (intOf i).toNat)
  case atStart => exact ⟨0, Option.none, 0, 0, Nat.zero_le _, rfl, rfl, ⟨rfl, .inl ⟨rfl, rfl⟩⟩, (Below.refl _ _).alloc (Nat.le_refl _) _⟩
  case round =>
    obtain ⟨k, a1, n1, c1, hk, rfl, rfl, ho, bw⟩ := hrel
    have hlen := others_len l who k
    have hsz := bw.size
    by_cases hlt : k < n
    · have HSt : Hid (othersL (l.take (k + 1)) who = if l[k].1 = who then othersL (l.take k) who else othersL (l.take k) who ++ [l[k].1]) := others_step l who k (by omega)
      obtain ⟨b, off, rfl, hc⟩ := (hr.later bw).2.2 (by omega)
      obtain ⟨hc0, hc1⟩ := hc k (by omega)
      clear hc
      generalize hst : othersL (l.take k) who = acc at *
      have HO : Hid (OwnI wr w.heap.size (.slice a1 n1 c1) acc) := ho
      clear ho hst
      by_cases heq : l[k].1 = who
      · have hb9 : (l[k].1 != who) = false := by simpa using heq
        have HN : Hid (othersL (l.take (k + 1)) who = acc) := by show _ = _; rw [HSt.out, if_pos heq]
        clear heq
        go_wp2
        go_roundw
        case rel => exact ⟨k + 1, a1, n1, c1, by omega, rfl, by go_num, by rw [HN.out]; exact HO.out.later ((Below.refl _ _).alloc (Nat.le_refl _) _) (Nat.le_refl _), bw.alloc hsz _⟩
        case measure => simp [intOf]; omega
      · have hb9 : (l[k].1 != who) = true := by simpa using heq
        have HN : Hid (othersL (l.take (k + 1)) who = acc ++ [l[k].1]) := by show _ = _; rw [HSt.out, if_neg heq]
        have HO1 : Hid (OwnI (wr.alloc (.cells #[.int .i64 l[k].1, .int .i64 l[k].2] 49)) w.heap.size (.slice a1 n1 c1) acc) := HO.out.later ((Below.refl _ _).alloc (Nat.le_refl _) _) (Nat.le_refl _)
        have bw1 := bw.alloc hsz (.cells #[.int .i64 l[k].1, .int .i64 l[k].2] 49)
        have hsz1 := bw1.size
        clear heq
        go_wp2_with (at_builtin; refine wpList_appI rfl _ _ rfl w.heap.size (.slice a1 n1 c1) acc l[k].1 (wr.alloc (.cells #[.int .i64 l[k].1, .int .i64 l[k].2] 49)) rfl (by simp [Act.eval]) HO1.out (by omega) hsz1 ?_)
        intro a2 n2 c2 w1 ho1 hb1
        have HO2 : Hid (OwnI w1 w.heap.size (.slice a2 n2 c2) (acc ++ [l[k].1])) := ho1
        clear ho1
        go_wp2
        go_roundw
        case rel => exact ⟨k + 1, a2, n2, c2, by omega, rfl, by go_num, by rw [HN.out]; exact HO2.out, bw1.trans hb1⟩
        case measure => simp [intOf]; omega
    · have hkn : k = n := by omega
      subst hkn
      have hst : othersL (l.take k) who = othersL l who := by rw [List.take_of_length_le (by omega)]
      rw [hst] at ho
      obtain ⟨a2, n2, c2, e, hnum⟩ := ho.form
      simp only [Value.slice.injEq] at e
      obtain ⟨rfl, rfl, rfl⟩ := e
      have HA : Hid (Nums wr a1 n1 (othersL l who)) := hnum
      clear hnum ho hst
      go_wp2
      go_ret
      exact ⟨a1, n1, c1, rfl, HA.out, bw⟩

set_option maxHeartbeats 4000000 in
theorem rothers_any (g t h : Int) (a : Option Addr) (n c : Nat) (y : Bool) (l : List (Int × Int)) (who : Int) (w : World) (hr : Row w a n l) (hn : n ≤ 1000000) :
    Calls Try.prog 41 #[.agg #[.int .i64 g, .slice a n c, .int .i64 t, .int .i64 h, .bool y], .int .i64 who] w fun e w' => ∃ a' n' c', e = .returned (.slice a' n' c') ∧ Nums w' a' n' (othersL l who) ∧ Below w.heap.size w w' := by
  have hl := hr.1
  go_enter Try.func41, Try.ntmps41
  go_wp2
  go_loopw [5, 6] (fun u i wr => ∃ (k : Nat) (a' : Option Addr) (n' c' : Nat), k ≤ n ∧ u = .slice a' n' c' ∧ i = .int .i64 k ∧ OwnI wr (w.heap.size + 1) (.slice a' n' c') (othersL (l.take k) who) ∧ B5 wr w.heap.size (.int .i64 g) (.slice a n c) (.int .i64 t) (.int .i64 h) (.bool y) ∧ Below w.heap.size w wr ∧ w.heap.size + 1 ≤ wr.heap.size) (fun _ i _ => n - (intOf i).toNat)
  case atStart => exact ⟨0, Option.none, 0, 0, Nat.zero_le _, rfl, rfl, ⟨rfl, .inl ⟨rfl, rfl⟩⟩, box5 (Below.refl _ _), (Below.refl _ _).alloc (Nat.le_refl _) _, by simp⟩
  case round =>
    obtain ⟨k, a1, n1, c1, hk, rfl, rfl, ho, hbx, bw, hsz⟩ := hrel
    have hlen := others_len l who k
    obtain ⟨b0, b1, b2, b3, b4⟩ := id hbx
    by_cases hlt : k < n
    · have HSt : Hid (othersL (l.take (k + 1)) who = if l[k].1 = who then othersL (l.take k) who else othersL (l.take k) who ++ [l[k].1]) := others_step l who k (by omega)
      obtain ⟨b, off, rfl, hc⟩ := (hr.later bw).2.2 (by omega)
      obtain ⟨hc0, hc1⟩ := hc k (by omega)
      clear hc
      generalize hst : othersL (l.take k) who = acc at *
      have HO : Hid (OwnI wr (w.heap.size + 1) (.slice a1 n1 c1) acc) := ho
      clear ho hst
      by_cases heq : l[k].1 = who
      · have hb9 : (l[k].1 != who) = false := by simpa using heq
        have HN : Hid (othersL (l.take (k + 1)) who = acc) := by show _ = _; rw [HSt.out, if_pos heq]
        clear heq
        go_wp2
        go_roundw
        case rel => exact ⟨k + 1, a1, n1, c1, by omega, rfl, by go_num, by rw [HN.out]; exact HO.out, hbx, bw, hsz⟩
        case measure => simp [intOf]; omega
      · have hb9 : (l[k].1 != who) = true := by simpa using heq
        have HN : Hid (othersL (l.take (k + 1)) who = acc ++ [l[k].1]) := by show _ = _; rw [HSt.out, if_neg heq]
        clear heq
        go_wp2_with (at_builtin; refine wpList_appI rfl _ _ rfl (w.heap.size + 1) (.slice a1 n1 c1) acc l[k].1 _ rfl rfl HO.out (by omega) hsz ?_)
        intro a2 n2 c2 w1 ho1 hb1
        have HO2 : Hid (OwnI w1 (w.heap.size + 1) (.slice a2 n2 c2) (acc ++ [l[k].1])) := ho1
        have hbx1 : B5 w1 w.heap.size (.int .i64 g) (.slice (some ⟨b, off, Option.none⟩) n c) (.int .i64 t) (.int .i64 h) (.bool y) := by
          refine ⟨?_, ?_, ?_, ?_, ?_⟩
          · rw [hb1.cell (p := ⟨w.heap.size, 0, Option.none⟩) (Nat.lt_succ_self _)]; exact b0
          · rw [hb1.cell (p := ⟨w.heap.size, 1, Option.none⟩) (Nat.lt_succ_self _)]; exact b1
          · rw [hb1.cell (p := ⟨w.heap.size, 2, Option.none⟩) (Nat.lt_succ_self _)]; exact b2
          · rw [hb1.cell (p := ⟨w.heap.size, 3, Option.none⟩) (Nat.lt_succ_self _)]; exact b3
          · rw [hb1.cell (p := ⟨w.heap.size, 4, Option.none⟩) (Nat.lt_succ_self _)]; exact b4
        clear ho1 b0 b1 b2 b3 b4 hc0 hc1
        go_wp2
        go_roundw
        case rel => exact ⟨k + 1, a2, n2, c2, by omega, rfl, by go_num, by rw [HN.out]; exact HO2.out, hbx1, bw.trans (hb1.mono (by omega)), by have := hb1.size; omega⟩
        case measure => simp [intOf]; omega
    · have hkn : k = n := by omega
      subst hkn
      have hlt' : decide ((k : Int) < (k : Int)) = false := by simp
      have hst : othersL (l.take k) who = othersL l who := by rw [List.take_of_length_le (by omega)]
      rw [hst] at ho
      obtain ⟨a2, n2, c2, e, hnum⟩ := ho.form
      simp only [Value.slice.injEq] at e
      obtain ⟨rfl, rfl, rfl⟩ := e
      have HA : Hid (Nums wr a1 n1 (othersL l who)) := hnum
      clear hnum ho hst
      go_wp2
      go_ret
      exact ⟨a1, n1, c1, rfl, HA.out, bw⟩

end Go.Proofs.Ytokjacbipmfjkaa
