/- What group.New answers. No statement of the seat is proved here. -/
import Derived.Test.YteebhmhjbgehjaaGMid
namespace Go.Proofs.Yteebhmhjbgehjaa
open Go.ChangeShapes Go.WideShapes Go.ChangeAt Go.RowKit Go.Deep

def z78 : List Value := [.int .i64 0, .int .i64 0, .int .i64 0, .string ⟨#[]⟩, .int .i64 0, .int .i64 0, .string ⟨#[]⟩, .int .i64 0, .int .i64 0, .string ⟨#[]⟩, .int .i64 0, .int .i64 0, .string ⟨#[]⟩, .int .i64 0, .int .i64 0, .string ⟨#[]⟩, .int .i64 0, .int .i64 0, .string ⟨#[]⟩, .int .i64 0, .int .i64 0, .string ⟨#[]⟩, .int .i64 0, .int .i64 0, .string ⟨#[]⟩, .int .i64 0, .int .i64 0, .int .i64 0, .string ⟨#[]⟩, .int .i64 0, .int .i64 0, .string ⟨#[]⟩, .int .i64 0, .int .i64 0, .string ⟨#[]⟩, .int .i64 0, .int .i64 0, .string ⟨#[]⟩, .int .i64 0, .int .i64 0, .string ⟨#[]⟩, .int .i64 0, .int .i64 0, .string ⟨#[]⟩, .int .i64 0, .int .i64 0, .string ⟨#[]⟩, .int .i64 0, .int .i64 0, .string ⟨#[]⟩, .int .i64 0, .int .i64 0, .int .i64 0, .string ⟨#[]⟩, .int .i64 0, .int .i64 0, .string ⟨#[]⟩, .int .i64 0, .int .i64 0, .string ⟨#[]⟩, .int .i64 0, .int .i64 0, .string ⟨#[]⟩, .int .i64 0, .int .i64 0, .string ⟨#[]⟩, .int .i64 0, .int .i64 0, .string ⟨#[]⟩, .int .i64 0, .int .i64 0, .string ⟨#[]⟩, .int .i64 0, .int .i64 0, .string ⟨#[]⟩, .bool false, .bool false, .bool false]
theorem z78_is : z78 = grV [⟨0, zero8⟩, ⟨0, zero8⟩, ⟨0, zero8⟩] [false, false, false] := rfl
theorem zero78 (w : World) : (zeroValue 38).run Try.prog w = .ok (.agg z78.toArray) w := by kernel_rfl
/-- The group as it is made, one behind the other. -/
def newR : Nat → List Rep
  | 0 => [⟨0, zero8⟩, ⟨0, zero8⟩, ⟨0, zero8⟩]
  | k + 1 => (newR k).set k ⟨1, zero8⟩
def newU : Nat → List Bool
  | 0 => [false, false, false]
  | k + 1 => (newU k).set k true
theorem new_ok : ∀ k, GOK (newR k) (newU k)
  | 0 => ⟨rfl, rfl, fun r hr => by simp [newR] at hr; subst hr; exact zero8_ok⟩
  | k + 1 => by
    have ih := new_ok k
    exact ⟨by simp [newR, ih.len], by simp [newU, ih.upl], (GOK.set ih k (r := ⟨1, zero8⟩) zero8_ok).ok⟩
theorem grV_up {rs : List Rep} {up : List Bool} (h : GOK rs up) (k : Nat) (b : Bool) : (grV rs up).set (75 + k) (.bool b) = grV rs (up.set k b) := by
  unfold grV
  have hl : (repsV rs).length = 75 := by rw [repsV_len rs h.ok, h.len]
  rw [List.set_append_right _ _ (by omega), hl, show 75 + k - 75 = k by omega, List.map_set]
theorem GOK.up {rs : List Rep} {up : List Bool} (h : GOK rs up) (k : Nat) (b : Bool) : GOK rs (up.set k b) := ⟨h.len, by rw [List.length_set, h.upl], h.ok⟩

set_option maxHeartbeats 4000000 in
theorem gnew_any (w : World) : Calls Try.prog 13 #[] w fun r w' => r = .returned (.agg (grV (newR 3) (newU 3)).toArray) ∧ Below w.heap.size w w' := by
  obtain ⟨X, hX, a0, a1, bX, sX⟩ := two w (.cells z78.toArray 38) (.cells z78.toArray 38)
  have A0 : At X w.heap.size z78 38 := a0
  have A1 : At X (w.heap.size + 1) (grV (newR 0) (newU 0)) 38 := a1
  have hz := zero78
  clear a0 a1
  go_enter Try.func13, Try.ntmps13
  go_wp2
  rw [← hX]
  clear hX
  go_loopw [3] (fun i wr => ∃ k : Nat, k ≤ 3 ∧ i = .int .i64 k ∧ At wr w.heap.size z78 38 ∧ At wr (w.heap.size + 1) (grV (newR k) (newU k)) 38 ∧ Below w.heap.size w wr) (fun i _ => 3 - (intOf i).toNat)
  case atStart => exact ⟨0, Nat.zero_le _, rfl, A0, A1, bX⟩
  case round =>
    obtain ⟨k, hk, rfl, B0, B1, bw⟩ := hrel
    clear A0 A1
    by_cases hlt : k < 3
    · have hki : (k : Int) < 3 := by omega
      go_wp2_with fail
      refine (new_any wr).mono ?_
      rintro r W1 ⟨rfl, hb1⟩
      replace B0 := B0.later hb1 B0.lt
      replace B1 := B1.later hb1 B1.lt
      replace bw := bw.trans (hb1.mono bw.size)
      clear hb1
      obtain ⟨hst, B2⟩ := store_one B1 (new_ok k) k (by rw [(new_ok k).len]; exact hlt) 1 zero8 zero8_ok
      have B3 := At.set_ne (show w.heap.size ≠ w.heap.size + 1 by omega) (repV 1 zero8) (k * 25) _ B0
      have b2 := below_setCells (show w.heap.size ≤ w.heap.size + 1 by omega) (repV 1 zero8) (k * 25) _ bw
      generalize W1.setCells (w.heap.size + 1) (k * 25) (repV 1 zero8) = W2 at *
      have HS : Hid ((Instr.storeAt 26 (.pointer (some ⟨w.heap.size + 1, k * 25, Option.none⟩)) (.agg (repV 1 zero8).toArray)).run Try.prog W1 = .ok () W2) := hst
      have hG : GOK ((newR k).set k ⟨1, zero8⟩) (newU k) := (new_ok k).set k (r := ⟨1, zero8⟩) zero8_ok
      have u1 := (B2.cell (75 + k)).trans (hG.upc k (by rw [(new_ok k).upl]; exact hlt))
      have z1 : W2.frozen? ⟨w.heap.size + 1, 75 + k, Option.none⟩ = false := (B2.there (75 + k) 1 (by rw [hG.vlen]; omega) 0 (by decide)).2
      have B4 := B2.setCell_same (75 + k) (.bool true)
      rw [grV_up hG] at B4
      have B5 := B3.setCell_ne ⟨w.heap.size + 1, 75 + k, Option.none⟩ (by simp) (.bool true)
      have b5 := b2.setCell (p := ⟨w.heap.size + 1, 75 + k, Option.none⟩) (by simp) (.bool true)
      clear hst B0 B1 B2 B3 bw
      go_wp2_with (with_reducible refine wl_store HS.out rfl rfl ?_)
      exact ⟨⟨k + 1, by omega, by go_num, B5, B4, b5⟩, by simp [intOf]; omega⟩
    · obtain rfl : k = 3 := by omega
      have HL : Hid ((Instr.loadAt 38 (.pointer (some ⟨w.heap.size + 1, 0, Option.none⟩))).run Try.prog wr = .ok (.agg (grV (newR 3) (newU 3)).toArray) wr) := load_gr B1 (new_ok 3).vlen
      have hst := store_gr B0 rfl (new_ok 3).vlen (grV_one _ _)
      have B2 := At.set (grV (newR 3) (newU 3)) 0 _ _ B0
      rw [setL_whole _ _ (by rw [(new_ok 3).vlen]; rfl)] at B2
      have b2 := below_setCells (Nat.le_refl w.heap.size) (grV (newR 3) (newU 3)) 0 _ bw
      generalize wr.setCells w.heap.size 0 (grV (newR 3) (newU 3)) = Y at *
      have HS : Hid ((Instr.storeAt 38 (.pointer (some ⟨w.heap.size, 0, Option.none⟩)) (.agg (grV (newR 3) (newU 3)).toArray)).run Try.prog wr = .ok () Y) := hst
      have HR : Hid ((Instr.loadAt 38 (.pointer (some ⟨w.heap.size, 0, Option.none⟩))).run Try.prog Y = .ok (.agg (grV (newR 3) (newU 3)).toArray) Y) := load_gr B2 (new_ok 3).vlen
      clear hst B0 B1 B2
      go_wp2_with (first | (with_reducible refine wl_load HL.out rfl rfl ?_) | (with_reducible refine wl_store HS.out rfl rfl ?_))
      refine bodyPost_ret (ret_one Try.results13 rfl HR.out) rfl ⟨rfl, b2⟩
end Go.Proofs.Yteebhmhjbgehjaa
