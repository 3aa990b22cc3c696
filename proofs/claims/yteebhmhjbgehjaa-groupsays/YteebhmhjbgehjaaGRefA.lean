/- What the document's Members and newest answer. No statement of the seat is proved here. -/
import Derived.Test.YteebhmhjbgehjaaGInv
namespace Go.Proofs.Yteebhmhjbgehjaa
open Go.ChangeShapes Go.WideShapes Go.ChangeAt Go.RowKit Go.Deep

set_option maxHeartbeats 4000000 in
theorem rmembers_any (rs : List Rep) (up : List Bool) (e : Int) (b : Nat) (T : TypeId) (w : World) (h : GOK rs up) (A0 : At w b (grV rs up) T) :
    Calls Try.prog 26 #[.pointer (some ⟨b, 0, Option.none⟩), .int .i64 e] w fun r w' => ∃ a n c, r = .returned (.slice a n c) ∧ M.OwnI w' w.heap.size (.slice a n c) (memL rs up e 3) ∧ Below w.heap.size w w' := by
  have hb := A0.lt
  go_enter Try.func26, Try.ntmps26
  go_wp2
  go_loopw [5, 6] (fun v i wr => ∃ (k : Nat) (a : Option Addr) (n c : Nat), k ≤ 3 ∧ i = .int .i64 k ∧ v = .slice a n c ∧ M.OwnI wr w.heap.size (.slice a n c) (memL rs up e k) ∧ Below w.heap.size w wr) (fun _ i _ => 3 - (intOf i).toNat)
  case atStart => exact ⟨0, Option.none, 0, 0, Nat.zero_le _, rfl, rfl, World.ownsRow_nil _ _ _ _, Below.refl _ _⟩
  case round =>
    obtain ⟨k, a, n, c, hk, rfl, rfl, ho, bw⟩ := hrel
    have HO : Hid (M.OwnI wr w.heap.size (.slice a n c) (memL rs up e k)) := ho
    have hsz := bw.size
    clear ho
    by_cases hlt : k < 3
    · have hki : (k : Int) < 3 := by omega
      have hku : k < up.length := by rw [h.upl]; exact hlt
      have hkr : k < rs.length := by rw [h.len]; exact hlt
      have A1 := A0.later bw hb
      have u1 : wr.cell? ⟨b, 75 + k, Option.none⟩ = some (.bool up[k]) := (A1.cell _).trans (h.upc k hku)
      have f1 : wr.cell? ⟨b, k * 25, Option.none⟩ = some (.int .i64 rs[k].f) := (A1.cell _).trans (h.floor k hkr)
      have ht : takes rs up e k = (up[k] && (rs[k].f == e)) := by simp [takes, hku, hkr]
      have hml := memL_len rs up e k
      clear A1 A0
      cases hu : up[k] with
      | false =>
        rw [hu] at u1
        have HT : Hid (takes rs up e k = false) := by show _ = _; rw [ht, hu]; rfl
        clear ht hu
        go_wp2
        refine ⟨⟨k + 1, a, n, c, by omega, by go_num, rfl, ?_, bw⟩, by simp [intOf]; omega⟩
        unfold memL; rw [if_neg (by rw [HT.out]; decide)]; exact HO.out
      | true =>
        rw [hu] at u1
        cases hf : (rs[k].f == e) with
        | false =>
          have HT : Hid (takes rs up e k = false) := by show _ = _; rw [ht, hu, hf]; rfl
          clear ht hu
          go_wp2
          refine ⟨⟨k + 1, a, n, c, by omega, by go_num, rfl, ?_, bw⟩, by simp [intOf]; omega⟩
          unfold memL; rw [if_neg (by rw [HT.out]; decide)]; exact HO.out
        | true =>
          have HT : Hid (takes rs up e k = true) := by show _ = _; rw [ht, hu, hf]; rfl
          clear ht hu
          go_wp2_with (at_builtin; refine M.wpList_appI rfl _ _ rfl w.heap.size (.slice a n c) (memL rs up e k) k wr (by simp [Act.eval]) (by simp [Act.eval]) HO.out (by omega) (by omega) ?_)
          intro a' n' c' w' ho' hb'
          go_wp2
          refine ⟨⟨k + 1, a', n', c', by omega, by go_num, rfl, ?_, bw.trans hb'⟩, by simp [intOf]; omega⟩
          unfold memL; rw [if_pos HT.out]; exact ho'
    · obtain rfl : k = 3 := by omega
      go_wp2
      go_ret
      exact ⟨a, n, c, rfl, HO.out, bw⟩

theorem rnewer_any (e1 n1 e2 n2 : Int) (d1 d2 : ByteArray) (w : World) :
    Calls Try.prog 37 #[.agg #[.int .i64 e1, .int .i64 n1, .string d1], .agg #[.int .i64 e2, .int .i64 n2, .string d2]] w fun e w' => e = .returned (.bool (newerB ⟨e1, n1, d1⟩ ⟨e2, n2, d2⟩)) ∧ Below w.heap.size w w' := by
  by_cases h : (e1 == e2) = true
  · have HF : Hid (newerB ⟨e1, n1, d1⟩ ⟨e2, n2, d2⟩ = decide (n2 < n1)) := by show _ = _; simp at h; simp [newerB, h]
    go_enter Try.func37, Try.ntmps37
    go_wp2
    go_ret
    exact ⟨ret_bool HF.out.symm, ((Below.refl _ _).alloc (Nat.le_refl _) _).alloc (by simp) _⟩
  · have h' : (e1 == e2) = false := by simpa using h
    have HF : Hid (newerB ⟨e1, n1, d1⟩ ⟨e2, n2, d2⟩ = decide (e2 < e1)) := by show _ = _; simp at h; simp [newerB, h]
    clear h
    go_enter Try.func37, Try.ntmps37
    go_wp2
    go_ret
    exact ⟨ret_bool HF.out.symm, ((Below.refl _ _).alloc (Nat.le_refl _) _).alloc (by simp) _⟩

def stepB (k : Nat) (b : Cel) (r : Rep) : Cel := if newerB (ck k r) b = true then ck k r else b
def foldB (k : Nat) (rs : List Rep) : Cel := rs.foldl (stepB k) zc
theorem bestC_cons (k : Nat) (r : Rep) (rs : List Rep) : bestC k (r :: rs) = if newerB (bestC k rs) (ck k r) = true then bestC k rs else ck k r := rfl
theorem best_zc (k : Nat) : ∀ rs : List Rep, newerB zc (bestC k rs) = false
  | [] => newer_irr _
  | r :: rs => by
    have ih := best_zc k rs
    unfold bestC
    split
    · exact ih
    · rename_i hn; exact newer_trans ih (by simpa using hn)
theorem fold_best (k : Nat) : ∀ (rs : List Rep) (acc : Cel), newerB zc acc = false → rs.foldl (stepB k) acc = if newerB (bestC k rs) acc = true then bestC k rs else acc
  | [], acc, h => by
    show acc = _
    rw [if_neg]; show ¬ newerB zc acc = true; rw [h]; simp
  | r :: rs, acc, h => by
    rw [List.foldl_cons]
    have ihz : newerB zc (stepB k acc r) = false := by
      unfold stepB; split
      · rename_i hn; exact newer_trans h (newer_asym hn)
      · exact h
    rw [fold_best k rs _ ihz, bestC_cons]
    unfold stepB
    by_cases h1 : newerB (ck k r) acc = true
    · rw [if_pos h1]
      by_cases h2 : newerB (bestC k rs) (ck k r) = true
      · rw [if_pos h2, if_pos]
        cases h3 : newerB (bestC k rs) acc with
        | true => rfl
        | false => have := newer_trans (newer_asym h2) h3; rw [h1] at this; cases this
      · rw [if_neg h2, if_pos h1]
    · rw [if_neg h1]
      have h1' : newerB (ck k r) acc = false := by simpa using h1
      by_cases h3 : newerB (bestC k rs) acc = true
      · rw [if_pos h3]
        have h2 : newerB (bestC k rs) (ck k r) = true := by
          cases h4 : newerB (bestC k rs) (ck k r) with
          | true => rfl
          | false => have := newer_trans h4 h1'; rw [h3] at this; cases this
        rw [if_pos h2, if_pos h3]
      · rw [if_neg h3]
        by_cases h2 : newerB (bestC k rs) (ck k r) = true
        · rw [if_pos h2, if_neg h3]
        · rw [if_neg h2, if_neg h1]
/-- Each cell is of zeros, or newer than these. -/
def CZ (rs : List Rep) (k : Nat) : Prop := ∀ i : Nat, i < 3 → ck k (pickR rs i) = zc ∨ newerB (ck k (pickR rs i)) zc = true
theorem foldB_is {rs : List Rep} {up : List Bool} {e : Int} {k : Nat} (h : CZ rs k) : foldB k ((memL rs up e 3).map (pickR rs)) = bestM rs up e k := by
  unfold foldB
  rw [fold_best k _ zc (newer_irr _)]
  show (if newerB (bestM rs up e k) zc = true then bestM rs up e k else zc) = bestM rs up e k
  split
  · rfl
  · rename_i hn
    rcases bestM_in rs up e k with h1 | ⟨i, hi, _, h1⟩
    · exact h1.symm
    · rcases h i hi with h2 | h2
      · rw [h1, h2]
      · rw [h1] at hn; exact absurd h2 hn

end Go.Proofs.Yteebhmhjbgehjaa
