/- What slices.Grow of nothing, and slices.Concat of two rows of numbers, hand back. No statement of the seat is proved here. -/
import Derived.Test.YtajaojcechoniaaTLow
namespace Go.Proofs.Ytajaojcechoniaa
open Go.ChangeShapes Go.WideShapes Go.ChangeAt Go.RowKit

set_option maxHeartbeats 2000000 in
theorem grow_nil (n : Nat) (w : World) (h0 : 0 < n) (hn : n ≤ 1000000) :
    Calls Try.prog 16 #[.slice Option.none 0 0, .int .i64 n] w fun e w' => ∃ a n' c', e = .returned (.slice (some a) n' c') ∧ OwnI w' w.heap.size (.slice (some a) n' c') [] ∧ Below w.heap.size w w' := by
  obtain ⟨i0, hi0, hz0, hz1, hz2⟩ := zero_int
  have hrun : ∀ ty, (Builtin.append_ #[24, 3] ty #[.slice Option.none 0 0, .int .i64 (n : Int)]).run Try.prog w = _ := fun ty =>
    Lib.run_append_nil_zeros w 24 3 ty 3 i0 _ .i64 .i64 Try.underlying24 Try.underlying3 hi0 hz0 n h0 (by rw [hz1]; decide) (by omega) (by rw [hz2]; omega)
  have HG : Hid (n ≤ grownCap w n 0 3) := grownCap_ge w _ _ _
  have HG63 : Hid (grownCap w n 0 3 ≤ maxLen) := grownCap_le_maxLen w n 0 3 (by unfold maxLen; omega)
  generalize grownCap w n 0 3 = G at *
  have hnp : (0 : Int) < (n : Int) := by omega
  have hnn : decide ((n : Int) < 0) = false := by simp
  have hG0 : (0 : Int) ≤ (G : Int) := by omega
  go_enter Try.func16, Try.ntmps16
  go_wp2_with (at_builtin; refine Lib.wpList_append_run _ rfl _ _ 24 3 rfl (.slice Option.none 0 0) (.int .i64 (n : Int)) rfl rfl _ _ (hrun _) ?_)
  go_wp2
  go_ret
  refine ⟨_, _, _, rfl, ⟨rfl, .inr ⟨w.heap.size, G, _, rfl, Nat.le_refl _, heap_alloc_new _ _, Nat.zero_le _, HG63.out, ?_, by simp⟩⟩, ?_⟩
  · have := HG.out
    simp [size_zeroCells]; omega
  · exact ((Below.refl _ _).drew).alloc (Nat.le_refl _) _

set_option maxHeartbeats 4000000 in
/-- Two rows of numbers, joined in new memory; the second is not empty. -/
theorem concat_two (A cA : Nat) (a1 a2 : Option Addr) (n1 c1 n2 c2 : Nat) (l1 l2 : List Int) (w : World) (hA0 : w.cell? ⟨A, 0, Option.none⟩ = some (.slice a1 n1 c1)) (hA1 : w.cell? ⟨A, 1, Option.none⟩ = some (.slice a2 n2 c2))
    (hr1 : Nums w a1 n1 l1) (hr2 : Nums w a2 n2 l2) (hc1 : a1 = Option.none → c1 = 0) (hc2 : a2 = Option.none → c2 = 0) (h1 : n1 ≤ 1000) (h2 : n2 ≤ 1000) (h0 : 0 < n2) :
    Calls Try.prog 15 #[.slice (some ⟨A, 0, Option.none⟩) 2 cA] w fun e w' => ∃ v, e = .returned v ∧ OwnI w' w.heap.size v (l1 ++ l2) ∧ Below w.heap.size w w' := by
  have e1 := hr1.1
  have e2 := hr2.1
  have HR1 : Hid (Nums w a1 n1 l1) := hr1
  have HR2 : Hid (Nums w a2 n2 l2) := hr2
  clear hr1 hr2
  go_enter Try.func15, Try.ntmps15
  go_wp2
  go_loopw [3, 11] (fun s i wr => w = wr ∧ ∃ k : Nat, k ≤ 2 ∧ i = .int .i64 k ∧ s = .int .i64 (if k = 0 then 0 else if k = 1 then (n1 : Int) else (n1 : Int) + n2)) (fun _ i _ => 2 - (intOf i).toNat)
  case atStart => exact ⟨rfl, 0, by omega, rfl, rfl⟩
  case round =>
    obtain ⟨rfl, k, hk, rfl, rfl⟩ := hrel
    rcases (by omega : k = 0 ∨ k = 1 ∨ k = 2) with rfl | rfl | rfl
    · simp only [if_pos]
      go_wp2
      go_roundw
      case rel => exact ⟨by trivial, 1, by omega, rfl, by simp⟩
      case measure => simp [intOf]
    · simp only [if_pos, if_neg (show ¬ (1 : Nat) = 0 by decide)]
      have hs0 : decide ((n1 : Int) + n2 < 0) = false := by simp; omega
      go_wp2
      go_roundw
      case rel => exact ⟨by trivial, 2, by omega, rfl, by simp⟩
      case measure => simp [intOf]
    · simp only [if_neg (show ¬ (2 : Nat) = 0 by decide), if_neg (show ¬ (2 : Nat) = 1 by decide)]
      obtain ⟨N, hN⟩ : ∃ N : Nat, N = n1 + n2 := ⟨_, rfl⟩
      have hN0 : 0 < N := by omega
      have hN1 : N ≤ 1000000 := by omega
      have hg : ((n1 : Int) + n2) = (N : Int) := by omega
      rw [hg]
      clear hg hN
      go_wp2_with fail
      refine (grow_nil N w hN0 hN1).mono ?_
      rintro e w1 ⟨ag, ng, cg, rfl, ho, hb⟩
      have HO : Hid (OwnI w1 w.heap.size (.slice (some ag) ng cg) []) := ho
      clear ho
      have hsz := hb.size
      go_wp2
      go_loopw [6, 27] (fun u i wr => ∃ (k : Nat) (v : Value), k ≤ 2 ∧ i = .int .i64 k ∧ v = u ∧ OwnI wr w.heap.size v (if k = 0 then [] else if k = 1 then l1 else l1 ++ l2) ∧ Below w.heap.size w wr) (fun _ i _ => 2 - (intOf i).toNat)
      case atStart => exact ⟨0, _, by omega, rfl, rfl, HO.out, hb⟩
      case round =>
        obtain ⟨k, v, hk, rfl, rfl, ho, hbr⟩ := hrel
        have hA0r := cell_later hbr hA0
        have hA1r := cell_later hbr hA1
        have hszr := hbr.size
        clear hA0 hA1
        rcases (by omega : k = 0 ∨ k = 1 ∨ k = 2) with rfl | rfl | rfl
        · simp only [if_pos] at ho
          have HOr : Hid (OwnI wr w.heap.size v []) := ho
          clear ho
          go_wp2_with (at_builtin; refine wpList_appN rfl _ _ rfl w.heap.size v [] a1 n1 c1 l1 wr rfl rfl hc1 HOr.out (HR1.out.later hbr) (by simp; omega) hszr ?_)
          intro v' w2 ho2 hb2 _
          have HO2 : Hid (OwnI w2 w.heap.size v' ([] ++ l1)) := ho2
          clear ho2
          go_wp2
          go_roundw
          case rel => exact ⟨1, _, by omega, rfl, rfl, by simpa using HO2.out, hbr.trans hb2⟩
          case measure => simp [intOf]
        · simp only [if_pos, if_neg (show ¬ (1 : Nat) = 0 by decide)] at ho
          have HOr : Hid (OwnI wr w.heap.size v l1) := ho
          clear ho
          go_wp2_with (at_builtin; refine wpList_appN rfl _ _ rfl w.heap.size v l1 a2 n2 c2 l2 wr rfl rfl hc2 HOr.out (HR2.out.later hbr) (by omega) hszr ?_)
          intro v' w2 ho2 hb2 _
          have HO2 : Hid (OwnI w2 w.heap.size v' (l1 ++ l2)) := ho2
          clear ho2
          go_wp2
          go_roundw
          case rel => exact ⟨2, _, by omega, rfl, rfl, by simpa using HO2.out, hbr.trans hb2⟩
          case measure => simp [intOf]
        · simp only [if_neg (show ¬ (2 : Nat) = 0 by decide), if_neg (show ¬ (2 : Nat) = 1 by decide)] at ho
          have HOr : Hid (OwnI wr w.heap.size v (l1 ++ l2)) := ho
          clear ho
          go_wp2
          go_ret
          exact ⟨v, rfl, HOr.out, hbr⟩
end Go.Proofs.Ytajaojcechoniaa
