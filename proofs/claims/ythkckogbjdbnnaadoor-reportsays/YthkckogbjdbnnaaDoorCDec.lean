/- What the document's own Decimal answers: the digits of a number that is not below nought. -/
import Derived.Test.YthkckogbjdbnnaaDoorCFault
import Derived.Shelf.Strconv.Itoa3
import Derived.Laws.IdiomStrings
import Derived.Deep.DrawnRows
import Derived.Deep.RegionWith
namespace Go.Proofs.YthkckogbjdbnnaaDoor.K
open Go.ChangeShapes Go.WideShapes Go.ChangeAt Go.RowKit Go.Maps

attribute [local go_sem ↓] Go.wp_at_zero Go.wp_at_succ
/-- A digit. -/
def dgt (n : Nat) : UInt8 := UInt8.ofNat (48 + n)
theorem dgt_toNat {n : Nat} (h : n < 10) : (dgt n).toNat = 48 + n := by unfold dgt; simp; omega
theorem below_dr {w w1 : World} (h : Below w.drew.heap.size w.drew w1) : Below w.heap.size w w1 := by
  have h0 : Below w.heap.size w w.drew := (Below.refl _ _).drew
  exact h0.trans h
theorem cat_list (x y : List UInt8) : (⟨x.toArray⟩ : ByteArray) ++ ⟨y.toArray⟩ = ⟨(x ++ y).toArray⟩ := by
  apply ByteArray.ext
  simp
theorem decLen (n : Nat) : (Lib.decDigits n).length ≤ n + 1 := by
  induction n using Nat.strongRecOn with
  | ind n ih =>
    rw [Lib.decDigits]
    split
    · simp
    · have := ih (n / 10) (by omega)
      simp
      omega
theorem conv_at (n : Nat) (hn : n < 10) {W : World} {b : Nat} (hh : W.heap[b]? = some (.cells #[.int .u8 (48 + n)] 5 (0, 0))) :
    (convert 83 9 (.slice (some ⟨b, 0, Option.none⟩) 1 1)).run Tryd.prog W = .ok (.string ⟨#[dgt n]⟩) W := by
  have h := run_convert_bytes_back (P := Tryd.prog) W 83 9 5 ⟨b, 0, Option.none⟩ 1 [dgt n] Tryd.underlying83 Tryd.underlying5 Tryd.underlying9 (fun j hj => by
    have hj0 : j = 0 := by simp at hj; omega
    subst hj0
    have e : (dgt n).toNat = 48 + n := dgt_toNat hn
    show W.cell? ⟨b, 0 + 0, Option.none⟩ = some (.int .u8 ((dgt n).toNat : Int))
    rw [e]
    simp [World.cell?, hh])
  exact h
theorem conv1 (n : Nat) (hn : n < 10) (w : World) : (convert 83 9 (.slice (some ⟨w.heap.size, 0, Option.none⟩) 1 1)).run Tryd.prog (w.alloc (.cells #[.int .u8 (48 + n)] 5)) = .ok (.string ⟨#[dgt n]⟩) (w.alloc (.cells #[.int .u8 (48 + n)] 5)) :=
  conv_at n hn (heap_alloc_new w _)

set_option maxHeartbeats 4000000 in
set_option maxRecDepth 100000 in
theorem decimal_1 (n : Nat) (hn : n < 10) (w : World) : Calls Tryd.prog 36 #[.int .i64 n] w fun e w' => e = .returned (.string ⟨(Lib.decDigits n).toArray⟩) ∧ Below w.heap.size w w' := by
  have h0 : decide ((n : Int) < 0) = false := by simp
  have h1 : (n : Int) < 10 := by omega
  have HD : Hid (Lib.decDigits n = [dgt n]) := Lib.decDigits_one hn
  have hcv := conv1 n hn w
  go_enter Tryd.func36, Tryd.ntmps36
  go_wp2
  go_ret
  exact ⟨by rw [HD.out]; rfl, (Below.refl _ _).alloc (Nat.le_refl _) _⟩

set_option maxHeartbeats 4000000 in
set_option maxRecDepth 1000000 in
/-- The digits of a number that is not below nought. -/
theorem decimal_any (n : Nat) (hn : n ≤ 1000000000) (w : World) : Calls Tryd.prog 36 #[.int .i64 n] w fun e w' => e = .returned (.string ⟨(Lib.decDigits n).toArray⟩) ∧ Below w.heap.size w w' := by
  induction n using Nat.strongRecOn generalizing w with
  | ind n ih =>
    by_cases h : n < 10
    · exact decimal_1 n h w
    · have ih1 := fun w => ih (n / 10) (by omega) (by omega) w
      clear ih
      have h0 : decide ((n : Int) < 0) = false := by simp
      have h1 : decide ((n : Int) < 10) = false := by simp; omega
      have HD : Hid (Lib.decDigits n = Lib.decDigits (n / 10) ++ [dgt (n % 10)]) := by show _ = _; rw [Lib.decDigits, dif_neg h]; rfl
      have hq : (n : Int).tdiv 10 = ((n / 10 : Nat) : Int) := by rw [Int.tdiv_eq_ediv_of_nonneg (by omega)]; omega
      have hr : (n : Int).tmod 10 = ((n % 10 : Nat) : Int) := by rw [Int.tmod_eq_emod_of_nonneg (by omega)]; omega
      have hrl : n % 10 < 10 := by omega
      have hml : n / 10 ≤ 1000000000 := by omega
      clear h
      revert ih1 HD hq hr hrl hml
      generalize n / 10 = m
      generalize n % 10 = r
      intro ih1 HD hq hr hrl hml
      have hcv := conv1 r hrl
      have hcd := conv_at r hrl (W := (w.alloc (.cells #[.int .u8 (48 + (r : Int))] 5)).drew) (heap_alloc_new w _)
      have hln := decLen m
      have hls : (Lib.decDigits m).length + 1 ≤ 9223372036854775807 := by omega
      have hw1 : IntKind.i64.wrap (m : Int) = (m : Int) := by rw [IntKind.wrap_i64]; omega
      have hw2 : IntKind.i64.wrap (48 + (r : Int)) = 48 + (r : Int) := by rw [IntKind.wrap_i64]; omega
      have hw3 : IntKind.u8.wrap (48 + (r : Int)) = 48 + (r : Int) := by rw [IntKind.wrap_u8]; omega
      go_enter Tryd.func36, Tryd.ntmps36
      go_wp2
      go_region_with (go_at_call 36; refine (ih1 _).mono ?_; rintro e w1 ⟨rfl, hb1⟩; first | (have hcv2 := conv_at r hrl (block_later (w := (w.alloc (.cells #[.int .u8 (48 + (r : Int))] 5)).drew) hb1 (heap_alloc_new w _))) | skip)
      all_goals
        go_wp2
        go_ret
        refine ⟨by rw [HD.out]; exact congrArg (fun x => Ending.returned (Value.string x)) (cat_list _ _), ?_⟩
        first
          | exact (below_dr hb1).alloc (below_dr hb1).size _
          | exact below_on w _ hb1
end Go.Proofs.YthkckogbjdbnnaaDoor.K
