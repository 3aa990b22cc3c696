/- Plain facts: what is guessed of the text of a state that may be is the state. No statement of the seat is proved here. -/
import Derived.Test.YtfkmaiiainbcbaaGreatDoorRParse
import Derived.Test.YtfkmaiiainbcbaaGreatDoorTGMath
namespace Go.Proofs.YtfkmaiiainbcbaaGreatDoor.K
open Go.ChangeShapes Go.WideShapes Go.ChangeAt Go.RowKit Go.Maps

theorem stW_list (g t hd : Int) (y : Bool) (l : List (Int × Int)) : (stWords g t hd y l).map (·.data.toList) = decI g :: decI t :: decI hd :: staysL y :: l.map (fun r => decI r.1 ++ 58 :: decI r.2) := by
  unfold stWords
  rw [List.map_append, List.map_map]
  have hs : (staysT y).data.toList = staysL y := by cases y <;> rfl
  have hd : ∀ n, (decB n).data.toList = decI n := fun n => rfl
  have hr : ∀ r, (regW r).data.toList = decI r.1 ++ 58 :: decI r.2 := fun r => rfl
  simp [hs, hd, hr, Function.comp_def]
theorem dec_no (n : Int) {c : UInt8} (h : c.toNat < 48 ∨ 57 < c.toNat) : c ∉ decI n := by
  intro hm
  have := dec_dig n.toNat c hm
  omega
theorem stW_noblank (g t hd : Int) (y : Bool) (l : List (Int × Int)) : ∀ w ∈ (stWords g t hd y l).map (·.data.toList), (32 : UInt8) ∉ w := by
  rw [stW_list]
  have h0 := fun n => dec_noblank n
  intro w hw
  simp only [List.mem_cons, List.mem_map] at hw
  rcases hw with rfl | rfl | rfl | rfl | ⟨r, _, rfl⟩
  · exact h0 _
  · exact h0 _
  · exact h0 _
  · exact stays_noblank y
  · intro hm
    rcases List.mem_append.1 hm with hm | hm
    · exact h0 _ hm
    · rcases List.mem_cons.1 hm with e | hm
      · exact absurd e (by decide)
      · exact h0 _ hm
theorem rs_over (ws : List (List UInt8)) (hb : ∀ w ∈ ws, (32 : UInt8) ∉ w) (h0 : 0 < ws.length) : ∀ n, ws.length ≤ n → rsW n (joinW ws) = []
  | 0, h => by omega
  | n + 1, h => by
    show (Lib.cut (rsW n (joinW ws)) [32]).2.1 = []
    by_cases hn : ws.length ≤ n
    · rw [rs_over ws hb h0 n hn]; rfl
    · rw [rs_join n ws hb (by omega), List.drop_eq_getElem_cons (by omega : n < ws.length), List.drop_of_length_le (by omega), cut_word (hb _ (List.getElem_mem _))]
theorem nx_over (ws : List (List UInt8)) (hb : ∀ w ∈ ws, (32 : UInt8) ∉ w) (h0 : 0 < ws.length) (n : Nat) (h : ws.length ≤ n) : nxW n (joinW ws) = [] := by
  unfold nxW
  rw [rs_over ws hb h0 n h]; rfl
theorem st_nx (g t hd : Int) (y : Bool) (l : List (Int × Int)) : nxW 0 (stTxt g t hd y l) = decI g ∧ nxW 1 (stTxt g t hd y l) = decI t ∧ nxW 2 (stTxt g t hd y l) = decI hd ∧ nxW 3 (stTxt g t hd y l) = staysL y := by
  have hb := stW_noblank g t hd y l
  have hl := stW_list g t hd y l
  have nx := fun (n : Nat) (hn : n < ((stWords g t hd y l).map (·.data.toList)).length) => nx_join n _ hb hn
  unfold stTxt
  refine ⟨?_, ?_, ?_, ?_⟩
  · exact (nx 0 (by rw [hl]; simp)).trans (by simp [hl])
  · exact (nx 1 (by rw [hl]; simp)).trans (by simp [hl])
  · exact (nx 2 (by rw [hl]; simp)).trans (by simp [hl])
  · exact (nx 3 (by rw [hl]; simp)).trans (by simp [hl])
theorem st_nxr (g t hd : Int) (y : Bool) (l : List (Int × Int)) (j : Nat) : nxW (4 + j) (stTxt g t hd y l) = if h : j < l.length then decI l[j].1 ++ 58 :: decI l[j].2 else [] := by
  have hb := stW_noblank g t hd y l
  have hl := stW_list g t hd y l
  unfold stTxt
  split
  · rename_i h
    have hlen : 4 + j < ((stWords g t hd y l).map (·.data.toList)).length := by rw [hl]; simp; omega
    refine (nx_join (4 + j) _ hb hlen).trans ?_
    have e : ∀ (k : Nat) (hk : k < ((stWords g t hd y l).map (·.data.toList)).length) (hk' : k < (decI g :: decI t :: decI hd :: staysL y :: l.map (fun r => decI r.1 ++ 58 :: decI r.2)).length), ((stWords g t hd y l).map (·.data.toList))[k] = (decI g :: decI t :: decI hd :: staysL y :: l.map (fun r => decI r.1 ++ 58 :: decI r.2))[k] := by
      intro k hk hk'
      congr 1
    rw [e (4 + j) hlen (by simp; omega)]
    simp only [show 4 + j = j + 1 + 1 + 1 + 1 by omega]
    simp
  · refine nx_over _ hb (by rw [hl]; simp) (4 + j) (by rw [hl]; simp; omega)
theorem take_none {l : List (Int × Int)} {j : Nat} (h : ¬ j < l.length) : l.take (j + 1) = l.take j := by
  rw [List.take_of_length_le (by omega), List.take_of_length_le (by omega)]
theorem regs_back {g t hd : Int} (y : Bool) {l : List (Int × Int)} (F : SOK g t hd l) : ∀ j, regsG j (stTxt g t hd y l) = l.take j
  | 0 => rfl
  | j + 1 => by
    unfold regsG
    rw [regs_back y F j, st_nxr g t hd y l j]
    by_cases h : j < l.length
    · have hr := F.reg l[j] (List.getElem_mem h)
      have hc : Lib.cut (decI l[j].1 ++ 58 :: decI l[j].2) [58] = (decI l[j].1, decI l[j].2, true) := by
        rw [cut_eq]; exact cut1_mark _ _ (dec_no _ (by decide))
      simp only [h, dite_true, hc, if_true]
      rw [num_decI (by omega) (by omega), num_decI (by omega) (by omega), List.take_succ_eq_append_getElem h]
    · simp only [h, dite_false]
      rw [take_none h]
      have : (Lib.cut ([] : List UInt8) [58]).2.2 = false := rfl
      rw [this]
      simp
/-- What is guessed of the text of a state that may be. -/
theorem st_back {g t hd : Int} (y : Bool) {l : List (Int × Int)} (F : SOK g t hd l) : numOf ⟨(nxW 0 (stTxt g t hd y l)).toArray⟩ = g ∧ numOf ⟨(nxW 1 (stTxt g t hd y l)).toArray⟩ = t ∧ numOf ⟨(nxW 2 (stTxt g t hd y l)).toArray⟩ = hd ∧ (nxW 3 (stTxt g t hd y l) == (staysT true).toList) = y ∧ regsG 4 (stTxt g t hd y l) = l := by
  obtain ⟨h0, h1, h2, h3⟩ := st_nx g t hd y l
  have t8 := F.t8
  have h4 := F.h4
  refine ⟨?_, ?_, ?_, ?_, ?_⟩
  · rw [h0]; exact num_decI F.g0 F.g9
  · rw [h1]; exact num_decI F.t0 (by omega)
  · rw [h2]; exact num_decI F.h0 (by omega)
  · rw [h3, ByteArray.toList_eq]; exact stays_back y
  · rw [regs_back y F, List.take_of_length_le F.len]
theorem dec_len1 {n : Int} (h : n ≤ 9) : (decI n).length = 1 := by
  unfold decI
  rw [dec_rec, if_pos (by omega)]; rfl
theorem dec_len3 {n : Int} (h : n ≤ 999) : (decI n).length ≤ 3 := by
  unfold decI
  rw [dec_rec]
  split
  · simp
  · rw [dec_rec]
    split
    · simp
    · rw [dec_rec, if_pos (by omega)]; simp
theorem st_len49 {g t hd : Int} (y : Bool) {l : List (Int × Int)} (F : SOK g t hd l) : (stTxt g t hd y l).length ≤ 49 := by
  have hj : ∀ (m : Nat) (ws : List (List UInt8)), (∀ w ∈ ws, w.length ≤ m) → (joinW ws).length ≤ (m + 1) * ws.length := by
    intro m ws
    induction ws with
    | nil => intro _; simp [joinW, Lib.join, List.intercalate]
    | cons w ws ih =>
      intro h
      have h1 := h w List.mem_cons_self
      have h2 := ih (fun x hx => h x (List.mem_cons_of_mem _ hx))
      cases ws with
      | nil => rw [joinW_one]; simp; omega
      | cons x ws => rw [joinW_cons]; simp only [List.length_append, List.length_cons] at h2 ⊢; rw [Nat.mul_add]; omega
  have ha : ∀ (a b : List (List UInt8)), a ≠ [] → (joinW (a ++ b)).length ≤ (joinW a).length + 1 + (joinW b).length := by
    intro a b hne
    induction a with
    | nil => exact absurd rfl hne
    | cons w a ih =>
      cases a with
      | nil => cases b with
        | nil => simp only [List.append_nil]; omega
        | cons x b => rw [List.singleton_append, joinW_cons, joinW_one]; simp; omega
      | cons x a => have := ih (by simp); rw [List.cons_append, List.cons_append, joinW_cons, joinW_cons]; rw [List.cons_append] at this; simp only [List.length_append, List.length_cons] at this ⊢; omega
  have g9 := F.g9
  have t8 := F.t8
  have h4 := F.h4
  have hlen := F.len
  have e : stTxt g t hd y l = joinW ([decI g, decI t, decI hd, staysL y] ++ l.map (fun r => decI r.1 ++ 58 :: decI r.2)) := by
    unfold stTxt
    rw [stW_list]; rfl
  rw [e]
  have h1 := ha [decI g, decI t, decI hd, staysL y] (l.map (fun r => decI r.1 ++ 58 :: decI r.2)) (by simp)
  have h2 := hj 5 (l.map (fun r => decI r.1 ++ 58 :: decI r.2)) (fun w hw => by
    obtain ⟨r, hr, rfl⟩ := List.mem_map.1 hw
    have := F.reg r hr
    have a1 := dec_len1 (n := r.1) (by omega)
    have a2 := dec_len3 (n := r.2) (by omega)
    simp; omega)
  have h3 : (joinW [decI g, decI t, decI hd, staysL y]).length ≤ 20 := by
    have a0 := dec_len (n := g) g9
    have a1 := dec_len1 (n := t) (by omega)
    have a2 := dec_len1 (n := hd) (by omega)
    have a3 : (staysL y).length ≤ 5 := by cases y <;> decide
    rw [joinW_cons, joinW_cons, joinW_cons, joinW_one]
    simp; omega
  simp only [List.length_map] at h2
  omega
theorem st_len60 {g t hd : Int} (y : Bool) {l : List (Int × Int)} (F : SOK g t hd l) : (stTxt g t hd y l).length ≤ 60 := Nat.le_trans (st_len49 y F) (by decide)
end Go.Proofs.YtfkmaiiainbcbaaGreatDoor.K
