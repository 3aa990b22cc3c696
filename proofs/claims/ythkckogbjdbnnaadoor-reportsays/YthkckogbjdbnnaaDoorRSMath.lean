/- Plain facts: which texts are those of states that may be, as the document reads them. No statement of the seat is proved here. -/
import Derived.Test.YthkckogbjdbnnaaDoorRMath
namespace Go.Proofs.YthkckogbjdbnnaaDoor
open Go.ChangeShapes Go.WideShapes Go.ChangeAt Go.RowKit Go.Maps Go.Proofs.YthkckogbjdbnnaaDoor.K

/-- The registration that a word tells. -/
def regOf (x : List UInt8) : Int × Int := (natW ⟨(cut1 58 x).1.toArray⟩ 4, natW ⟨(cut1 58 x).2.1.toArray⟩ 999)
/-- It is the text of no state that may be. -/
def NoSt (s : List UInt8) : Prop := ∀ g t hd y L, fault g t hd L = 0 → stTxt g t hd y L ≠ s
theorem rf_lenS : ∀ (l : List (Int × Int)) (p : Int), p ≤ 4 → rf p l = 0 → (l.length : Int) ≤ 4 - p
  | [], p, h, _ => by simp; omega
  | q :: l, p, h, hf => by
    unfold rf at hf
    split at hf
    · omega
    · split at hf
      · omega
      · have := rf_lenS l q.1 (by omega) hf
        simp only [List.length_cons]; omega
theorem fault_lenS {g t hd : Int} {l : List (Int × Int)} (hf : fault g t hd l = 0) : l.length ≤ 4 := by
  have := rf_lenS l 0 (by decide) (fault_rf hf).1
  omega
theorem cut1_of (b : UInt8) : ∀ x : List UInt8, (cut1 b x).2.2 = true → x = (cut1 b x).1 ++ b :: (cut1 b x).2.1
  | [], h => by simp [cut1] at h
  | c :: s, h => by
    unfold cut1 at h ⊢
    split
    · rename_i e; subst e; simp
    · rename_i e
      rw [if_neg e] at h
      have := cut1_of b s h
      conv => lhs; rw [this]
      simp
theorem st_split {g t hd : Int} (y : Bool) {L : List (Int × Int)} : splitW (stTxt g t hd y L) = decI g :: decI t :: decI hd :: staysL y :: L.map (fun r => decI r.1 ++ 58 :: decI r.2) := by
  have hb := stW_noblank g t hd y L
  have e : stTxt g t hd y L = joinW ((stWords g t hd y L).map (·.data.toList)) := rfl
  rw [e]
  rw [stW_list] at hb ⊢
  exact split_join _ _ hb
theorem natW_dec {n most : Int} (h0 : 0 ≤ n) (h : n ≤ most) (h9 : n ≤ 1000000000) : natW ⟨(decI n).toArray⟩ most = n := by
  have := nat_dec n.toNat most (by omega) (by omega)
  unfold decI
  rw [this]; omega
theorem natW_inv {x : List UInt8} {most : Int} (h : 0 ≤ natW ⟨x.toArray⟩ most) : x = decI (natW ⟨x.toArray⟩ most) ∧ natW ⟨x.toArray⟩ most ≤ most := nat_inv h
theorem regOf_back {r : Int × Int} (h : (1 ≤ r.1 ∧ r.1 ≤ 4) ∧ (1 ≤ r.2 ∧ r.2 ≤ 999)) : regOf (decI r.1 ++ 58 :: decI r.2) = r ∧ (cut1 58 (decI r.1 ++ 58 :: decI r.2)).2.2 = true := by
  have hc : cut1 58 (decI r.1 ++ 58 :: decI r.2) = (decI r.1, decI r.2, true) := cut1_mark _ _ (dec_no _ (by decide))
  refine ⟨?_, by rw [hc]⟩
  unfold regOf
  rw [hc]
  exact Prod.ext (natW_dec (by omega) (by omega) (by omega)) (natW_dec (by omega) (by omega) (by omega))
/-- What is known of the words of a state's text. -/
theorem st_words {s : List UInt8} {g t hd : Int} {y : Bool} {L : List (Int × Int)} (hf : fault g t hd L = 0) (h : stTxt g t hd y L = s) {ws : List (List UInt8)} (hs : splitW s = ws) :
    4 ≤ ws.length ∧ ws.length ≤ 8 ∧ ∃ w0 w1 w2 w3 rest, ws = w0 :: w1 :: w2 :: w3 :: rest ∧ natW ⟨w0.toArray⟩ 1000000000 = g ∧ natW ⟨w1.toArray⟩ 8 = t ∧ natW ⟨w2.toArray⟩ 4 = hd ∧ w3 = staysL y ∧ (∀ x ∈ rest, (cut1 58 x).2.2 = true) ∧ rest.map regOf = L ∧ 0 ≤ g ∧ 0 ≤ t ∧ 0 ≤ hd := by
  have F := sok_of hf (fault_lenS hf)
  have t8 := F.t8
  have h4 := F.h4
  have hl := F.len
  rw [← h, st_split] at hs
  subst hs
  refine ⟨by simp, by simp; omega, _, _, _, _, _, rfl, natW_dec F.g0 F.g9 F.g9, natW_dec F.t0 F.t8 (by omega), natW_dec F.h0 F.h4 (by omega), rfl, ?_, ?_, F.g0, F.t0, F.h0⟩
  · intro x hx
    obtain ⟨r, hr, rfl⟩ := List.mem_map.1 hx
    exact (regOf_back (F.reg r hr)).2
  · rw [List.map_map]
    have : ∀ r ∈ L, (regOf ∘ fun r => decI r.1 ++ 58 :: decI r.2) r = r := fun r hr => (regOf_back (F.reg r hr)).1
    rw [List.map_congr_left this, List.map_id']
theorem no_short {s : List UInt8} {ws : List (List UInt8)} (hs : splitW s = ws) (h : ws.length < 4 ∨ 8 < ws.length) : NoSt s := fun g t hd y L hf e => by
  obtain ⟨h1, h2, _⟩ := st_words hf e hs
  omega
theorem no_goes {s w0 w1 w2 w3 : List UInt8} {rest : List (List UInt8)} (hs : splitW s = w0 :: w1 :: w2 :: w3 :: rest) (h1 : w3 ≠ [115, 116, 97, 121, 115]) (h2 : w3 ≠ [103, 111, 101, 115]) : NoSt s := fun g t hd y L hf e => by
  obtain ⟨_, _, v0, v1, v2, v3, r, e1, _, _, _, e2, _⟩ := st_words hf e hs
  simp only [List.cons.injEq] at e1
  obtain ⟨_, _, _, rfl, _⟩ := e1
  cases y
  · exact h2 e2
  · exact h1 e2
theorem no_num {s w0 w1 w2 w3 : List UInt8} {rest : List (List UInt8)} (hs : splitW s = w0 :: w1 :: w2 :: w3 :: rest) (h : natW ⟨w0.toArray⟩ 1000000000 < 0 ∨ natW ⟨w1.toArray⟩ 8 < 0 ∨ natW ⟨w2.toArray⟩ 4 < 0) : NoSt s := fun g t hd y L hf e => by
  obtain ⟨_, _, v0, v1, v2, v3, r, e1, n0, n1, n2, e2, _, _, g0, t0, h0⟩ := st_words hf e hs
  simp only [List.cons.injEq] at e1
  obtain ⟨rfl, rfl, rfl, rfl, _⟩ := e1
  omega
theorem no_mark {s w0 w1 w2 w3 : List UInt8} {rest : List (List UInt8)} (hs : splitW s = w0 :: w1 :: w2 :: w3 :: rest) {x : List UInt8} (hx : x ∈ rest) (h : (58 : UInt8) ∉ x) : NoSt s := fun g t hd y L hf e => by
  obtain ⟨_, _, v0, v1, v2, v3, r, e1, n0, n1, n2, e2, hall, _⟩ := st_words hf e hs
  simp only [List.cons.injEq] at e1
  obtain ⟨rfl, rfl, rfl, rfl, rfl⟩ := e1
  have := hall x hx
  rw [cut1_word x h] at this
  cases this
theorem no_fault {s w0 w1 w2 w3 : List UInt8} {rest : List (List UInt8)} (hs : splitW s = w0 :: w1 :: w2 :: w3 :: rest) (h : fault (natW ⟨w0.toArray⟩ 1000000000) (natW ⟨w1.toArray⟩ 8) (natW ⟨w2.toArray⟩ 4) (rest.map regOf) ≠ 0) : NoSt s := fun g t hd y L hf e => by
  obtain ⟨_, _, v0, v1, v2, v3, r, e1, n0, n1, n2, e2, hall, hL, _⟩ := st_words hf e hs
  simp only [List.cons.injEq] at e1
  obtain ⟨rfl, rfl, rfl, rfl, rfl⟩ := e1
  rw [n0, n1, n2, hL] at h
  exact h hf
theorem yes_st {s w0 w1 w2 w3 : List UInt8} {rest : List (List UInt8)} (hs : splitW s = w0 :: w1 :: w2 :: w3 :: rest) {y : Bool} (h3 : w3 = staysL y) (g0 : 0 ≤ natW ⟨w0.toArray⟩ 1000000000) (t0 : 0 ≤ natW ⟨w1.toArray⟩ 8) (h0 : 0 ≤ natW ⟨w2.toArray⟩ 4) (hall : ∀ x ∈ rest, (cut1 58 x).2.2 = true)
    (hf : fault (natW ⟨w0.toArray⟩ 1000000000) (natW ⟨w1.toArray⟩ 8) (natW ⟨w2.toArray⟩ 4) (rest.map regOf) = 0) : stTxt (natW ⟨w0.toArray⟩ 1000000000) (natW ⟨w1.toArray⟩ 8) (natW ⟨w2.toArray⟩ 4) y (rest.map regOf) = s := by
  have hj := join_split s
  rw [hs] at hj
  have e : stTxt (natW ⟨w0.toArray⟩ 1000000000) (natW ⟨w1.toArray⟩ 8) (natW ⟨w2.toArray⟩ 4) y (rest.map regOf) = joinW ((stWords (natW ⟨w0.toArray⟩ 1000000000) (natW ⟨w1.toArray⟩ 8) (natW ⟨w2.toArray⟩ 4) y (rest.map regOf)).map (·.data.toList)) := rfl
  rw [e, stW_list, ← hj, ← (natW_inv g0).1, ← (natW_inv t0).1, ← (natW_inv h0).1, ← h3, List.map_map]
  congr 4
  have hr := rf_all _ 0 (fault_rf hf).1
  have : ∀ x ∈ rest, ((fun r : Int × Int => decI r.1 ++ 58 :: decI r.2) ∘ regOf) x = x := fun x hx => by
    have h1 := hr (regOf x) (List.mem_map_of_mem hx)
    have e1 := (natW_inv (x := (cut1 58 x).1) (most := 4) (by have := h1.1; unfold regOf at this; omega)).1
    have e2 := (natW_inv (x := (cut1 58 x).2.1) (most := 999) (by have := h1.2.2.1; unfold regOf at this; omega)).1
    show decI (regOf x).1 ++ 58 :: decI (regOf x).2 = x
    unfold regOf
    rw [← e1, ← e2]
    exact (cut1_of 58 x (hall x hx)).symm
  rw [List.map_congr_left this, List.map_id']
end Go.Proofs.YthkckogbjdbnnaaDoor
