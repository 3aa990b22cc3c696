/- What Deliver answers, in one; a group's new variable. No statement of the seat is proved here. -/
import Derived.Test.YteebhmhjbgehjaaGLight
import Derived.Test.YteebhmhjbgehjaaGRead
import Derived.Test.YteebhmhjbgehjaaGDel
namespace Go.Proofs.Yteebhmhjbgehjaa
open Go.ChangeShapes Go.WideShapes Go.ChangeAt Go.RowKit Go.Deep

def delB (rs : List Rep) (up : List Bool) (dst : Int) (c : Cel) : Bool := upB up dst && (c.e == (pickR rs dst).f)
def delG (rs : List Rep) (up : List Bool) (dst : Int) (k : Nat) (c : Cel) : List Rep := if upB up dst = true then rs.set dst.toNat ⟨(pickR rs dst).f, admL (pickR rs dst).f (pickR rs dst).l k c⟩ else rs
theorem deliver_any (rs : List Rep) (up : List Bool) (dst : Int) (k : Nat) (c : Cel) (tag : Int) (w : World) (hG : GOK rs up) (hk : k < 8) :
    Calls Try.prog 21 #[.agg (grV rs up).toArray, .agg (msgV dst k c tag).toArray] w fun r w' => r = .returned (.tuple #[.agg (grV (delG rs up dst k c) up).toArray, .bool (delB rs up dst c)]) ∧ Below w.heap.size w w' := by
  cases hu : upB up dst with
  | false =>
    have e1 : delG rs up dst k c = rs := by simp [delG, hu]
    have e2 : delB rs up dst c = false := by simp [delB, hu]
    rw [e1, e2]
    exact deliver_no rs up dst k c tag w hG hu
  | true =>
    obtain ⟨m, rfl, hm⟩ := upB_in hu
    have hml : m < rs.length := by rw [hG.len]; exact hm
    have e1 : delG rs up m k c = rs.set m ⟨rs[m].f, admL rs[m].f rs[m].l k c⟩ := by simp [delG, hu, pickR_in hml]
    have e2 : delB rs up m c = (c.e == rs[m].f) := by simp [delB, hu, pickR_in hml]
    rw [e1, e2]
    exact deliver_yes rs up m k c tag w hG hml hk hu
theorem one (w : World) (x : Obj) : ∃ X, X = w.alloc x ∧ X.heap[w.heap.size]? = some x ∧ Below w.heap.size w X ∧ X.heap.size = w.heap.size + 1 :=
  ⟨_, rfl, heap_alloc_new w x, (Below.refl _ _).alloc (Nat.le_refl _) _, by simp⟩
/-- A new variable, and what is stored into it at once. -/
theorem newG {rs : List Rep} {up : List Bool} (h : GOK rs up) (W : World) : ∃ Y, (Instr.storeAt 38 (.pointer (some ⟨W.heap.size, 0, Option.none⟩)) (.agg (grV rs up).toArray)).run Try.prog (W.alloc (.cells z78.toArray 38)) = .ok () Y ∧ At Y W.heap.size (grV rs up) 38 ∧ Below W.heap.size W Y := by
  have A : At (W.alloc (.cells z78.toArray 38)) W.heap.size z78 38 := heap_alloc_new W _
  have A2 := At.set (grV rs up) 0 _ _ A
  rw [setL_whole _ _ (by rw [h.vlen]; rfl)] at A2
  exact ⟨_, store_gr A rfl h.vlen (grV_one rs up), A2, below_setCells (Nat.le_refl _) _ 0 _ ((Below.refl _ _).alloc (Nat.le_refl _) _)⟩

set_option maxRecDepth 100000 in
set_option maxHeartbeats 4000000 in
theorem grouped_any (w : World) : Calls Try.prog 27 #[] w fun r w' => r = .returned (.bool true) ∧ Below w.heap.size w w' := by
  have hz := zero78
  go_enter Try.func27, Try.ntmps27
  go_wp2_with fail
  refine (gnew_any w).mono ?_
  rintro r W1 ⟨rfl, b1⟩
  obtain ⟨rs, hrs⟩ : ∃ rs, newR 3 = rs := ⟨_, rfl⟩
  obtain ⟨up, hup⟩ : ∃ up, newU 3 = up := ⟨_, rfl⟩
  have hG : GOK rs up := by rw [← hrs, ← hup]; exact new_ok 3
  obtain ⟨g2, hg2⟩ : ∃ g2, fenG rs up 2 = g2 := ⟨_, rfl⟩
  have hB : decide (2 ≤ (memL (fenG rs up 2) up 2 3).length) = true := by rw [← hrs, ← hup]; rfl
  have hM : (memL (fenG rs up 2) up 2 3).length = 3 := by rw [← hrs, ← hup]; rfl
  have hG2 : GOK g2 up := by rw [← hg2, ← hrs, ← hup]; unfold fenG; split; exact foldR_ok _ _ _ (new_ok 3); exact new_ok 3
  rw [hrs, hup]
  rw [hg2] at hB hM
  have HF : Hid (fenG rs up 2 = g2) := hg2
  clear hrs hup hg2
  obtain ⟨Y, hst, A0, bY⟩ := newG hG W1
  have HS : Hid ((Instr.storeAt 38 (.pointer (some ⟨W1.heap.size, 0, Option.none⟩)) (.agg (grV rs up).toArray)).run Try.prog (W1.alloc (.cells z78.toArray 38)) = .ok () Y) := hst
  have HL : Hid ((Instr.loadAt 38 (.pointer (some ⟨W1.heap.size, 0, Option.none⟩))).run Try.prog Y = .ok (.agg (grV rs up).toArray) Y) := load_gr A0 hG.vlen
  clear hst
  go_wp2_with (first | (with_reducible refine wl_store HS.out rfl rfl ?_) | (with_reducible refine wl_load HL.out rfl rfl ?_))
  refine (gfence_any rs up 2 Y hG (by decide) (by decide)).mono ?_
  rintro r Z ⟨rfl, b2⟩
  rw [HF.out, hB]
  replace A0 := A0.later b2 A0.lt
  have bZ : Below w.heap.size w Z := (b1.trans (bY.mono b1.size)).trans (b2.mono (Nat.le_trans b1.size bY.size))
  have hst := store_gr A0 hG.vlen hG2.vlen (grV_one g2 up)
  have A1 := At.set (grV g2 up) 0 _ _ A0
  rw [setL_whole _ _ (by rw [hG.vlen, hG2.vlen])] at A1
  have b3 := below_setCells (show w.heap.size ≤ W1.heap.size from b1.size) (grV g2 up) 0 _ bZ
  generalize Z.setCells W1.heap.size 0 (grV g2 up) = Z2 at *
  have HS2 : Hid ((Instr.storeAt 38 (.pointer (some ⟨W1.heap.size, 0, Option.none⟩)) (.agg (grV g2 up).toArray)).run Try.prog Z = .ok () Z2) := hst
  have HL2 : Hid ((Instr.loadAt 38 (.pointer (some ⟨W1.heap.size, 0, Option.none⟩))).run Try.prog Z2 = .ok (.agg (grV g2 up).toArray) Z2) := load_gr A1 hG2.vlen
  clear hst HS HL
  go_wp2_with (first | (with_reducible refine wl_store HS2.out rfl rfl ?_) | (with_reducible refine wl_load HL2.out rfl rfl ?_))
  refine (members_any g2 up 2 Z2 hG2).mono ?_
  rintro r Z3 ⟨a, n, c, rfl, ho, hb3⟩
  obtain ⟨_, _, _, he', hn⟩ := ho.form
  simp only [Value.slice.injEq] at he'
  obtain ⟨rfl, rfl, rfl⟩ := he'
  obtain rfl : n = 3 := by rw [← hn.1]; exact hM
  clear ho hn
  go_wp2
  go_ret
  exact ⟨rfl, b3.trans (hb3.mono b3.size)⟩
end Go.Proofs.Yteebhmhjbgehjaa
