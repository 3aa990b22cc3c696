/- Who takes part in an epoch: what Members answers. No statement of the seat is proved here. -/
import Derived.Test.YteebhmhjbgehjaaGGrp
import Derived.Test.YteebhmhjbgehjaaNums
namespace Go.Proofs.Yteebhmhjbgehjaa
open Go.ChangeShapes Go.WideShapes Go.ChangeAt Go.RowKit Go.Deep

/-- Does one take part? -/
def takes (rs : List Rep) (up : List Bool) (e : Int) (k : Nat) : Bool := up.getD k false && ((rs.getD k ⟨0, []⟩).f == e)
/-- Those below k that do. -/
def memL (rs : List Rep) (up : List Bool) (e : Int) : Nat → List Int
  | 0 => []
  | k + 1 => if takes rs up e k = true then memL rs up e k ++ [(k : Int)] else memL rs up e k
theorem memL_len (rs : List Rep) (up : List Bool) (e : Int) : ∀ k, (memL rs up e k).length ≤ k
  | 0 => Nat.le_refl _
  | k + 1 => by
    have := memL_len rs up e k
    unfold memL
    split
    · simp; omega
    · omega

set_option maxHeartbeats 4000000 in
theorem members_any (rs : List Rep) (up : List Bool) (e : Int) (w : World) (h : GOK rs up) :
    Calls Try.prog 25 #[.agg (grV rs up).toArray, .int .i64 e] w fun r w' => ∃ a n c, r = .returned (.slice a n c) ∧ M.OwnI w' (w.heap.size + 1) (.slice a n c) (memL rs up e 3) ∧ Below w.heap.size w w' := by
  obtain ⟨X, hX⟩ : ∃ X, X = w.alloc (.cells (grV rs up).toArray 38) := ⟨_, rfl⟩
  have A0 : At X w.heap.size (grV rs up) 38 := by rw [hX]; exact heap_alloc_new w _
  have bX : Below w.heap.size w X := by rw [hX]; exact (Below.refl _ _).alloc (Nat.le_refl _) _
  have sX : X.heap.size = w.heap.size + 1 := by rw [hX]; simp
  go_enter Try.func25, Try.ntmps25
  go_wp2
  rw [← hX]
  clear hX
  go_loopw [5, 7] (fun v i wr => ∃ (k : Nat) (a : Option Addr) (n c : Nat), k ≤ 3 ∧ i = .int .i64 k ∧ v = .slice a n c ∧ M.OwnI wr (w.heap.size + 1) (.slice a n c) (memL rs up e k) ∧ Below (w.heap.size + 1) X wr) (fun _ i _ => 3 - (intOf i).toNat)
  case atStart => exact ⟨0, Option.none, 0, 0, Nat.zero_le _, rfl, rfl, World.ownsRow_nil _ _ _ _, Below.refl _ _⟩
  case round =>
    obtain ⟨k, a, n, c, hk, rfl, rfl, ho, hb⟩ := hrel
    have HO : Hid (M.OwnI wr (w.heap.size + 1) (.slice a n c) (memL rs up e k)) := ho
    have hsz := hb.size
    have bw : Below w.heap.size w wr := bX.trans (hb.mono (by omega))
    clear ho
    by_cases hlt : k < 3
    · have hki : (k : Int) < 3 := by omega
      have hku : k < up.length := by rw [h.upl]; exact hlt
      have hkr : k < rs.length := by rw [h.len]; exact hlt
      have A1 := A0.later hb (by omega)
      have u1 : wr.cell? ⟨w.heap.size, 75 + k, Option.none⟩ = some (.bool up[k]) := (A1.cell _).trans (h.upc k hku)
      have f1 : wr.cell? ⟨w.heap.size, k * 25, Option.none⟩ = some (.int .i64 rs[k].f) := (A1.cell _).trans (h.floor k hkr)
      have ht : takes rs up e k = (up[k] && (rs[k].f == e)) := by simp [takes, hku, hkr]
      have hml := memL_len rs up e k
      clear A1 A0
      cases hu : up[k] with
      | false =>
        rw [hu] at u1
        have HT : Hid (takes rs up e k = false) := by show _ = _; rw [ht, hu]; rfl
        clear ht hu
        go_wp2
        refine ⟨⟨k + 1, a, n, c, by omega, by go_num, rfl, ?_, hb⟩, by simp [intOf]; omega⟩
        unfold memL; rw [if_neg (by rw [HT.out]; decide)]; exact HO.out
      | true =>
        rw [hu] at u1
        cases hf : (rs[k].f == e) with
        | false =>
          have HT : Hid (takes rs up e k = false) := by show _ = _; rw [ht, hu, hf]; rfl
          clear ht hu
          go_wp2
          refine ⟨⟨k + 1, a, n, c, by omega, by go_num, rfl, ?_, hb⟩, by simp [intOf]; omega⟩
          unfold memL; rw [if_neg (by rw [HT.out]; decide)]; exact HO.out
        | true =>
          have HT : Hid (takes rs up e k = true) := by show _ = _; rw [ht, hu, hf]; rfl
          clear ht hu
          go_wp2_with (at_builtin; refine M.wpList_appI rfl _ _ rfl (w.heap.size + 1) (.slice a n c) (memL rs up e k) k wr (by simp [Act.eval]) (by simp [Act.eval]) HO.out (by omega) (by omega) ?_)
          intro a' n' c' w' ho' hb'
          go_wp2
          refine ⟨⟨k + 1, a', n', c', by omega, by go_num, rfl, ?_, hb.trans hb'⟩, by simp [intOf]; omega⟩
          unfold memL; rw [if_pos HT.out]; exact ho'
    · obtain rfl : k = 3 := by omega
      go_wp2
      go_ret
      exact ⟨a, n, c, rfl, HO.out, bw⟩
end Go.Proofs.Yteebhmhjbgehjaa
