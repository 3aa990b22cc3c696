/- What the document's own Decimal answers: the digits of a number that is not below nought. -/
import Derived.Test.YtfkmaiiainbcbaaGreatDoorCFault
import Derived.Shelf.Strconv.Itoa3
import Derived.Laws.IdiomStrings
import Derived.Deep.DrawnRows
import Derived.Deep.RegionWith
namespace Go.Proofs.YtfkmaiiainbcbaaGreatDoor.K
open Go.ChangeShapes Go.WideShapes Go.ChangeAt Go.RowKit Go.Maps

attribute [local go_sem ↓] Go.wp_at_zero Go.wp_at_succ
/-- A digit. -/
def dgt (n : Nat) : UInt8 := UInt8.ofNat (48 + n)
theorem dgt_toNat {n : Nat} (h : n < 10) : (dgt n).toNat = 48 + n := by unfold dgt; simp; omega
theorem below_dr {w w1 : World} (h : Below w.drew.heap.size w.drew w1) : Below w.heap.size w w1 := by
  have h0 : Below w.heap.size w w.drew := (Below.refl _ _).drew
  exact h0.trans h
theorem cat_list (x y : List UInt8) : (⟨x.toArray⟩ : ByteArray) ++ ⟨y.toArray⟩ = ⟨(x ++ y).toArray⟩ := by
  apply ByteArray.ext
  simp
theorem decLen (n : Nat) : (Lib.decDigits n).length ≤ n + 1 := by
  induction n using Nat.strongRecOn with
  | ind n ih =>
    rw [Lib.decDigits]
    split
    · simp
    · have := ih (n / 10) (by omega)
      simp
      omega
theorem conv_at (n : Nat) (hn : n < 10) {W : World} {b : Nat} (hh : W.heap[b]? = some (.cells #[.int .u8 (48 + n)] 5 (0, 0))) :
    (convert 82 9 (.slice (some ⟨b, 0, Option.none⟩) 1 1)).run Tryz.prog W = .ok (.string ⟨#[dgt n]⟩) W := by
  have h := run_convert_bytes_back (P := Tryz.prog) W 82 9 5 ⟨b, 0, Option.none⟩ 1 [dgt n] Tryz.underlying82 Tryz.underlying5 Tryz.underlying9 (fun j hj => by
    have hj0 : j = 0 := by simp at hj; omega
    subst hj0
    have e : (dgt n).toNat = 48 + n := dgt_toNat hn
    show W.cell? ⟨b, 0 + 0, Option.none⟩ = some (.int .u8 ((dgt n).toNat : Int))
    rw [e]
    simp [World.cell?, hh])
  exact h
theorem conv1 (n : Nat) (hn : n < 10) (w : World) : (convert 82 9 (.slice (some ⟨w.heap.size, 0, Option.none⟩) 1 1)).run Tryz.prog (w.alloc (.cells #[.int .u8 (48 + n)] 5)) = .ok (.string ⟨#[dgt n]⟩) (w.alloc (.cells #[.int .u8 (48 + n)] 5)) :=
  conv_at n hn (heap_alloc_new w _)

end Go.Proofs.YtfkmaiiainbcbaaGreatDoor.K
