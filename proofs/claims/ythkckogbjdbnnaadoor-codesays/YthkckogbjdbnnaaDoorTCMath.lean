/- Plain facts: which texts the document reads as a command. No statement of the seat is proved here. -/
import Derived.Test.YthkckogbjdbnnaaDoorTWords
namespace Go.Proofs.YthkckogbjdbnnaaDoor.K
open Go.ChangeShapes Go.WideShapes Go.ChangeAt Go.RowKit Go.Maps

theorem nat_back {n most : Int} (h0 : 0 ≤ n) (h1 : n ≤ most) (h9 : n ≤ 1000000000) : natW ⟨(decI n).toArray⟩ most = n := by
  have := nat_dec n.toNat most (by omega) (by omega)
  unfold decI
  rw [this]; omega
theorem nat_word {x : List UInt8} {most : Int} (h : 0 ≤ natW ⟨x.toArray⟩ most) : decI (natW ⟨x.toArray⟩ most) = x := by
  have := (nat_inv h).1
  unfold decI
  exact this.symm
theorem data_word {x : List UInt8} (h : x ≠ []) : dataL (undataW ⟨x.toArray⟩) = x := by
  unfold undataW
  by_cases h2 : x = [45]
  · subst h2
    rw [if_pos (by rw [ByteArray.toList_eq]; rfl)]
    unfold dataL dataW
    rw [if_pos (by rw [ByteArray.toList_eq]; rfl)]
  · have h3 : ((⟨x.toArray⟩ : ByteArray).toList == [45]) = false := by
      rw [ByteArray.toList_eq]
      cases hq : ((⟨x.toArray⟩ : ByteArray).data.toList == [45]) with
      | false => rfl
      | true => exact absurd (eq_of_beq hq) h2
    rw [h3]
    unfold dataL dataW
    have h4 : (⟨x.toArray⟩ : ByteArray).toList.isEmpty = false := by
      rw [ByteArray.toList_eq]
      show x.isEmpty = false
      cases x with
      | nil => exact absurd rfl h
      | cons a l => rfl
    simp only [h4, Bool.false_eq_true, if_false]
theorem stays_is (b : Bool) : staysL b = [115, 116, 97, 121, 115] ∨ staysL b = [103, 111, 101, 115] := by cases b; exact .inr rfl; exact .inl rfl
theorem dataL_ne (d : ByteArray) : dataL d ≠ [] := by
  unfold dataL dataW
  split
  · decide
  · rename_i h
    rw [← ByteArray.toList_eq]
    intro e
    rw [e] at h
    exact h rfl
theorem op_word {o p : Int} (ho : 1 ≤ o ∧ o ≤ 9) (hp : 1 ≤ p ∧ p ≤ 9) (h : (wordOf o).data.toList = (wordOf p).data.toList) : o = p := by
  have h1 : o = 1 ∨ o = 2 ∨ o = 3 ∨ o = 4 ∨ o = 5 ∨ o = 6 ∨ o = 7 ∨ o = 8 ∨ o = 9 := by omega
  have h2 : p = 1 ∨ p = 2 ∨ p = 3 ∨ p = 4 ∨ p = 5 ∨ p = 6 ∨ p = 7 ∨ p = 8 ∨ p = 9 := by omega
  rcases h1 with rfl | rfl | rfl | rfl | rfl | rfl | rfl | rfl | rfl <;> rcases h2 with rfl | rfl | rfl | rfl | rfl | rfl | rfl | rfl | rfl <;> first | rfl | exact absurd h (by decide +kernel)
/-- The words of a text that a command has. -/
theorem words_of {c : Cmd} (Fc : Full c) {l : List UInt8} (h : txtC c = l) : splitW l = wordsC c := by rw [← h]; exact split_txt Fc
theorem words2 (c : Cmd) : 2 < (wordsC c).length ∧ (wordsC c)[1]? = some (wordOf c.op).data.toList := by
  refine ⟨?_, by simp [wordsC]⟩
  unfold wordsC partsC
  repeat' split
  all_goals simp
theorem kind8 {c : Cmd} (Fc : Full c) (h : c.op = 3 ∨ c.op = 4 ∨ c.op = 6) : c.kind ≤ 8 := by
  have := Fc.ty h
  unfold typeB at this
  simp at this
  omega
theorem cof_ok1 {l w0 w1 w2 w3 w4 : List UInt8} (hs : splitW l = [w0, w1, w2, w3, w4]) (hx : (wordOf 1).data.toList = w1)   (h4 : w4 = [115, 116, 97, 121, 115] ∨ w4 = [103, 111, 101, 115]) (hf : (⟨1, natW ⟨w0.toArray⟩ 4, (natW ⟨w2.toArray⟩ 999), (natW ⟨w3.toArray⟩ 999), 0, 0, (w4 == [115, 116, 97, 121, 115]), ⟨#[]⟩, ⟨#[]⟩⟩ : Cmd).f = 0) : txtC (⟨1, natW ⟨w0.toArray⟩ 4, (natW ⟨w2.toArray⟩ 999), (natW ⟨w3.toArray⟩ 999), 0, 0, (w4 == [115, 116, 97, 121, 115]), ⟨#[]⟩, ⟨#[]⟩⟩ : Cmd) = l := by
  have Fc := full_of hf
  have e0 : decI (natW ⟨w0.toArray⟩ 4) = w0 := nat_word (by have := Fc.who1; simp only at this; omega)
  have e2 : decI (natW ⟨w2.toArray⟩ 999) = w2 := nat_word (by have := Fc.key0; simpa using this)
  have e3 : decI (natW ⟨w3.toArray⟩ 999) = w3 := nat_word (by have := Fc.new0; simpa using this)
  have e4 : staysL (w4 == [115, 116, 97, 121, 115]) = w4 := by rcases h4 with rfl | rfl <;> rfl
  have hw : wordsC (⟨1, natW ⟨w0.toArray⟩ 4, (natW ⟨w2.toArray⟩ 999), (natW ⟨w3.toArray⟩ 999), 0, 0, (w4 == [115, 116, 97, 121, 115]), ⟨#[]⟩, ⟨#[]⟩⟩ : Cmd) = [w0, w1, w2, w3, w4] := by
    show decI (natW ⟨w0.toArray⟩ 4) :: (wordOf 1).data.toList :: [decI (natW ⟨w2.toArray⟩ 999), decI (natW ⟨w3.toArray⟩ 999), staysL (w4 == [115, 116, 97, 121, 115])] = _
    rw [e0, hx, e2, e3, e4]
  unfold txtC
  rw [hw, ← hs]
  exact join_split l
theorem cof_has1 {l w0 w1 w2 w3 w4 : List UInt8} (hs : splitW l = [w0, w1, w2, w3, w4]) (hx : (wordOf 1).data.toList = w1) {c : Cmd} (Fc : Full c) (h : txtC c = l) : c.op = 1 ∧ w0 = decI c.who ∧ w2 = decI c.key ∧ w3 = decI c.new ∧ w4 = staysL c.st := by
  have hw := words_of Fc h
  rw [hs] at hw
  have h1 : w1 = (wordOf c.op).data.toList := by
    have := (words2 c).2
    rw [← hw] at this
    simpa using this
  have hop : c.op = 1 := (op_word ⟨Fc.op1, Fc.op9⟩ ⟨by decide, by decide⟩ (by rw [← h1, hx]))
  have hp : wordsC c = [decI c.who, (wordOf c.op).data.toList, decI c.key, decI c.new, staysL c.st] := by simp [wordsC, partsC, hop]
  rw [hp] at hw
  simp only [List.cons.injEq, and_true] at hw
  obtain ⟨q0, _, q2, q3, q4⟩ := hw
  exact ⟨hop, q0, q2, q3, q4⟩
theorem cof_no1 {l w0 w1 w2 w3 w4 : List UInt8} (hs : splitW l = [w0, w1, w2, w3, w4]) (hx : (wordOf 1).data.toList = w1) (hf : ¬ (⟨1, natW ⟨w0.toArray⟩ 4, (natW ⟨w2.toArray⟩ 999), (natW ⟨w3.toArray⟩ 999), 0, 0, (w4 == [115, 116, 97, 121, 115]), ⟨#[]⟩, ⟨#[]⟩⟩ : Cmd).f = 0) : ∀ c : Cmd, c.f = 0 → txtC c ≠ l := by
  intro c h0 h
  have Fc := full_of h0
  obtain ⟨hop, q0, q2, q3, q4⟩ := cof_has1 hs hx Fc h
  have e0 : natW ⟨w0.toArray⟩ 4 = c.who := by rw [q0]; exact nat_back (by have := Fc.who1; omega) Fc.who4 (by have := Fc.who4; omega)
  have e2 : natW ⟨w2.toArray⟩ 999 = c.key := by rw [q2]; exact nat_back Fc.key0 Fc.key9 (by have := Fc.key9; omega)
  have e3 : natW ⟨w3.toArray⟩ 999 = c.new := by rw [q3]; exact nat_back Fc.new0 Fc.new9 (by have := Fc.new9; omega)
  have e4 : (w4 == [115, 116, 97, 121, 115]) = c.st := by rw [q4]; exact stays_back c.st
  have he : (⟨1, natW ⟨w0.toArray⟩ 4, (natW ⟨w2.toArray⟩ 999), (natW ⟨w3.toArray⟩ 999), 0, 0, (w4 == [115, 116, 97, 121, 115]), ⟨#[]⟩, ⟨#[]⟩⟩ : Cmd) = c := cmd_ext hop.symm e0 e2 e3 (Fc.noty (by omega)).symm (Fc.noat (by omega)).symm e4 (empty_is (Fc.noda (by omega))).symm (empty_is (Fc.nowa (by omega))).symm
  apply hf
  rw [he]
  exact h0
theorem cof_ok2 {l w0 w1 w2 w3 w4 : List UInt8} (hs : splitW l = [w0, w1, w2, w3, w4]) (hx : (wordOf 2).data.toList = w1)   (h4 : w4 = [115, 116, 97, 121, 115] ∨ w4 = [103, 111, 101, 115]) (hf : (⟨2, natW ⟨w0.toArray⟩ 4, (natW ⟨w2.toArray⟩ 999), (natW ⟨w3.toArray⟩ 999), 0, 0, (w4 == [115, 116, 97, 121, 115]), ⟨#[]⟩, ⟨#[]⟩⟩ : Cmd).f = 0) : txtC (⟨2, natW ⟨w0.toArray⟩ 4, (natW ⟨w2.toArray⟩ 999), (natW ⟨w3.toArray⟩ 999), 0, 0, (w4 == [115, 116, 97, 121, 115]), ⟨#[]⟩, ⟨#[]⟩⟩ : Cmd) = l := by
  have Fc := full_of hf
  have e0 : decI (natW ⟨w0.toArray⟩ 4) = w0 := nat_word (by have := Fc.who1; simp only at this; omega)
  have e2 : decI (natW ⟨w2.toArray⟩ 999) = w2 := nat_word (by have := Fc.key0; simpa using this)
  have e3 : decI (natW ⟨w3.toArray⟩ 999) = w3 := nat_word (by have := Fc.new0; simpa using this)
  have e4 : staysL (w4 == [115, 116, 97, 121, 115]) = w4 := by rcases h4 with rfl | rfl <;> rfl
  have hw : wordsC (⟨2, natW ⟨w0.toArray⟩ 4, (natW ⟨w2.toArray⟩ 999), (natW ⟨w3.toArray⟩ 999), 0, 0, (w4 == [115, 116, 97, 121, 115]), ⟨#[]⟩, ⟨#[]⟩⟩ : Cmd) = [w0, w1, w2, w3, w4] := by
    show decI (natW ⟨w0.toArray⟩ 4) :: (wordOf 2).data.toList :: [decI (natW ⟨w2.toArray⟩ 999), decI (natW ⟨w3.toArray⟩ 999), staysL (w4 == [115, 116, 97, 121, 115])] = _
    rw [e0, hx, e2, e3, e4]
  unfold txtC
  rw [hw, ← hs]
  exact join_split l
theorem cof_has2 {l w0 w1 w2 w3 w4 : List UInt8} (hs : splitW l = [w0, w1, w2, w3, w4]) (hx : (wordOf 2).data.toList = w1) {c : Cmd} (Fc : Full c) (h : txtC c = l) : c.op = 2 ∧ w0 = decI c.who ∧ w2 = decI c.key ∧ w3 = decI c.new ∧ w4 = staysL c.st := by
  have hw := words_of Fc h
  rw [hs] at hw
  have h1 : w1 = (wordOf c.op).data.toList := by
    have := (words2 c).2
    rw [← hw] at this
    simpa using this
  have hop : c.op = 2 := (op_word ⟨Fc.op1, Fc.op9⟩ ⟨by decide, by decide⟩ (by rw [← h1, hx]))
  have hp : wordsC c = [decI c.who, (wordOf c.op).data.toList, decI c.key, decI c.new, staysL c.st] := by simp [wordsC, partsC, hop]
  rw [hp] at hw
  simp only [List.cons.injEq, and_true] at hw
  obtain ⟨q0, _, q2, q3, q4⟩ := hw
  exact ⟨hop, q0, q2, q3, q4⟩
theorem cof_no2 {l w0 w1 w2 w3 w4 : List UInt8} (hs : splitW l = [w0, w1, w2, w3, w4]) (hx : (wordOf 2).data.toList = w1) (hf : ¬ (⟨2, natW ⟨w0.toArray⟩ 4, (natW ⟨w2.toArray⟩ 999), (natW ⟨w3.toArray⟩ 999), 0, 0, (w4 == [115, 116, 97, 121, 115]), ⟨#[]⟩, ⟨#[]⟩⟩ : Cmd).f = 0) : ∀ c : Cmd, c.f = 0 → txtC c ≠ l := by
  intro c h0 h
  have Fc := full_of h0
  obtain ⟨hop, q0, q2, q3, q4⟩ := cof_has2 hs hx Fc h
  have e0 : natW ⟨w0.toArray⟩ 4 = c.who := by rw [q0]; exact nat_back (by have := Fc.who1; omega) Fc.who4 (by have := Fc.who4; omega)
  have e2 : natW ⟨w2.toArray⟩ 999 = c.key := by rw [q2]; exact nat_back Fc.key0 Fc.key9 (by have := Fc.key9; omega)
  have e3 : natW ⟨w3.toArray⟩ 999 = c.new := by rw [q3]; exact nat_back Fc.new0 Fc.new9 (by have := Fc.new9; omega)
  have e4 : (w4 == [115, 116, 97, 121, 115]) = c.st := by rw [q4]; exact stays_back c.st
  have he : (⟨2, natW ⟨w0.toArray⟩ 4, (natW ⟨w2.toArray⟩ 999), (natW ⟨w3.toArray⟩ 999), 0, 0, (w4 == [115, 116, 97, 121, 115]), ⟨#[]⟩, ⟨#[]⟩⟩ : Cmd) = c := cmd_ext hop.symm e0 e2 e3 (Fc.noty (by omega)).symm (Fc.noat (by omega)).symm e4 (empty_is (Fc.noda (by omega))).symm (empty_is (Fc.nowa (by omega))).symm
  apply hf
  rw [he]
  exact h0
theorem cof_ok3 {l w0 w1 w2 w3 : List UInt8} (hs : splitW l = [w0, w1, w2, w3]) (hx : (wordOf 3).data.toList = w1)   (hf : (⟨3, natW ⟨w0.toArray⟩ 4, (natW ⟨w2.toArray⟩ 999), 0, (natW ⟨w3.toArray⟩ 8), 0, false, ⟨#[]⟩, ⟨#[]⟩⟩ : Cmd).f = 0) : txtC (⟨3, natW ⟨w0.toArray⟩ 4, (natW ⟨w2.toArray⟩ 999), 0, (natW ⟨w3.toArray⟩ 8), 0, false, ⟨#[]⟩, ⟨#[]⟩⟩ : Cmd) = l := by
  have Fc := full_of hf
  have e0 : decI (natW ⟨w0.toArray⟩ 4) = w0 := nat_word (by have := Fc.who1; simp only at this; omega)
  have e2 : decI (natW ⟨w2.toArray⟩ 999) = w2 := nat_word (by have := Fc.key0; simpa using this)
  have e3 : decI (natW ⟨w3.toArray⟩ 8) = w3 := nat_word (by have := (ty_range Fc).1; simpa using this)
  have hw : wordsC (⟨3, natW ⟨w0.toArray⟩ 4, (natW ⟨w2.toArray⟩ 999), 0, (natW ⟨w3.toArray⟩ 8), 0, false, ⟨#[]⟩, ⟨#[]⟩⟩ : Cmd) = [w0, w1, w2, w3] := by
    show decI (natW ⟨w0.toArray⟩ 4) :: (wordOf 3).data.toList :: [decI (natW ⟨w2.toArray⟩ 999), decI (natW ⟨w3.toArray⟩ 8)] = _
    rw [e0, hx, e2, e3]
  unfold txtC
  rw [hw, ← hs]
  exact join_split l
theorem cof_has3 {l w0 w1 w2 w3 : List UInt8} (hs : splitW l = [w0, w1, w2, w3]) (hx : (wordOf 3).data.toList = w1) {c : Cmd} (Fc : Full c) (h : txtC c = l) : c.op = 3 ∧ w0 = decI c.who ∧ w2 = decI c.key ∧ w3 = decI c.kind := by
  have hw := words_of Fc h
  rw [hs] at hw
  have h1 : w1 = (wordOf c.op).data.toList := by
    have := (words2 c).2
    rw [← hw] at this
    simpa using this
  have hop : c.op = 3 := (op_word ⟨Fc.op1, Fc.op9⟩ ⟨by decide, by decide⟩ (by rw [← h1, hx]))
  have hp : wordsC c = [decI c.who, (wordOf c.op).data.toList, decI c.key, decI c.kind] := by simp [wordsC, partsC, hop]
  rw [hp] at hw
  simp only [List.cons.injEq, and_true] at hw
  obtain ⟨q0, _, q2, q3⟩ := hw
  exact ⟨hop, q0, q2, q3⟩
theorem cof_no3 {l w0 w1 w2 w3 : List UInt8} (hs : splitW l = [w0, w1, w2, w3]) (hx : (wordOf 3).data.toList = w1) (hf : ¬ (⟨3, natW ⟨w0.toArray⟩ 4, (natW ⟨w2.toArray⟩ 999), 0, (natW ⟨w3.toArray⟩ 8), 0, false, ⟨#[]⟩, ⟨#[]⟩⟩ : Cmd).f = 0) : ∀ c : Cmd, c.f = 0 → txtC c ≠ l := by
  intro c h0 h
  have Fc := full_of h0
  obtain ⟨hop, q0, q2, q3⟩ := cof_has3 hs hx Fc h
  have e0 : natW ⟨w0.toArray⟩ 4 = c.who := by rw [q0]; exact nat_back (by have := Fc.who1; omega) Fc.who4 (by have := Fc.who4; omega)
  have e2 : natW ⟨w2.toArray⟩ 999 = c.key := by rw [q2]; exact nat_back Fc.key0 Fc.key9 (by have := Fc.key9; omega)
  have e3 : natW ⟨w3.toArray⟩ 8 = c.kind := by rw [q3]; exact nat_back (ty_range Fc).1 (kind8 Fc (by omega)) (ty_range Fc).2
  have he : (⟨3, natW ⟨w0.toArray⟩ 4, (natW ⟨w2.toArray⟩ 999), 0, (natW ⟨w3.toArray⟩ 8), 0, false, ⟨#[]⟩, ⟨#[]⟩⟩ : Cmd) = c := cmd_ext hop.symm e0 e2 (Fc.nonew (by omega)).symm e3 (Fc.noat (by omega)).symm (Fc.nost (by omega)).symm (empty_is (Fc.noda (by omega))).symm (empty_is (Fc.nowa (by omega))).symm
  apply hf
  rw [he]
  exact h0
theorem cof_ok4 {l w0 w1 w2 w3 : List UInt8} (hs : splitW l = [w0, w1, w2, w3]) (hx : (wordOf 4).data.toList = w1)   (hf : (⟨4, natW ⟨w0.toArray⟩ 4, (natW ⟨w2.toArray⟩ 999), 0, (natW ⟨w3.toArray⟩ 8), 0, false, ⟨#[]⟩, ⟨#[]⟩⟩ : Cmd).f = 0) : txtC (⟨4, natW ⟨w0.toArray⟩ 4, (natW ⟨w2.toArray⟩ 999), 0, (natW ⟨w3.toArray⟩ 8), 0, false, ⟨#[]⟩, ⟨#[]⟩⟩ : Cmd) = l := by
  have Fc := full_of hf
  have e0 : decI (natW ⟨w0.toArray⟩ 4) = w0 := nat_word (by have := Fc.who1; simp only at this; omega)
  have e2 : decI (natW ⟨w2.toArray⟩ 999) = w2 := nat_word (by have := Fc.key0; simpa using this)
  have e3 : decI (natW ⟨w3.toArray⟩ 8) = w3 := nat_word (by have := (ty_range Fc).1; simpa using this)
  have hw : wordsC (⟨4, natW ⟨w0.toArray⟩ 4, (natW ⟨w2.toArray⟩ 999), 0, (natW ⟨w3.toArray⟩ 8), 0, false, ⟨#[]⟩, ⟨#[]⟩⟩ : Cmd) = [w0, w1, w2, w3] := by
    show decI (natW ⟨w0.toArray⟩ 4) :: (wordOf 4).data.toList :: [decI (natW ⟨w2.toArray⟩ 999), decI (natW ⟨w3.toArray⟩ 8)] = _
    rw [e0, hx, e2, e3]
  unfold txtC
  rw [hw, ← hs]
  exact join_split l
theorem cof_has4 {l w0 w1 w2 w3 : List UInt8} (hs : splitW l = [w0, w1, w2, w3]) (hx : (wordOf 4).data.toList = w1) {c : Cmd} (Fc : Full c) (h : txtC c = l) : c.op = 4 ∧ w0 = decI c.who ∧ w2 = decI c.key ∧ w3 = decI c.kind := by
  have hw := words_of Fc h
  rw [hs] at hw
  have h1 : w1 = (wordOf c.op).data.toList := by
    have := (words2 c).2
    rw [← hw] at this
    simpa using this
  have hop : c.op = 4 := (op_word ⟨Fc.op1, Fc.op9⟩ ⟨by decide, by decide⟩ (by rw [← h1, hx]))
  have hp : wordsC c = [decI c.who, (wordOf c.op).data.toList, decI c.key, decI c.kind] := by simp [wordsC, partsC, hop]
  rw [hp] at hw
  simp only [List.cons.injEq, and_true] at hw
  obtain ⟨q0, _, q2, q3⟩ := hw
  exact ⟨hop, q0, q2, q3⟩
theorem cof_no4 {l w0 w1 w2 w3 : List UInt8} (hs : splitW l = [w0, w1, w2, w3]) (hx : (wordOf 4).data.toList = w1) (hf : ¬ (⟨4, natW ⟨w0.toArray⟩ 4, (natW ⟨w2.toArray⟩ 999), 0, (natW ⟨w3.toArray⟩ 8), 0, false, ⟨#[]⟩, ⟨#[]⟩⟩ : Cmd).f = 0) : ∀ c : Cmd, c.f = 0 → txtC c ≠ l := by
  intro c h0 h
  have Fc := full_of h0
  obtain ⟨hop, q0, q2, q3⟩ := cof_has4 hs hx Fc h
  have e0 : natW ⟨w0.toArray⟩ 4 = c.who := by rw [q0]; exact nat_back (by have := Fc.who1; omega) Fc.who4 (by have := Fc.who4; omega)
  have e2 : natW ⟨w2.toArray⟩ 999 = c.key := by rw [q2]; exact nat_back Fc.key0 Fc.key9 (by have := Fc.key9; omega)
  have e3 : natW ⟨w3.toArray⟩ 8 = c.kind := by rw [q3]; exact nat_back (ty_range Fc).1 (kind8 Fc (by omega)) (ty_range Fc).2
  have he : (⟨4, natW ⟨w0.toArray⟩ 4, (natW ⟨w2.toArray⟩ 999), 0, (natW ⟨w3.toArray⟩ 8), 0, false, ⟨#[]⟩, ⟨#[]⟩⟩ : Cmd) = c := cmd_ext hop.symm e0 e2 (Fc.nonew (by omega)).symm e3 (Fc.noat (by omega)).symm (Fc.nost (by omega)).symm (empty_is (Fc.noda (by omega))).symm (empty_is (Fc.nowa (by omega))).symm
  apply hf
  rw [he]
  exact h0
theorem cof_ok5 {l w0 w1 w2 : List UInt8} (hs : splitW l = [w0, w1, w2]) (hx : (wordOf 5).data.toList = w1)  (hf : (⟨5, natW ⟨w0.toArray⟩ 4, (natW ⟨w2.toArray⟩ 999), 0, 0, 0, false, ⟨#[]⟩, ⟨#[]⟩⟩ : Cmd).f = 0) : txtC (⟨5, natW ⟨w0.toArray⟩ 4, (natW ⟨w2.toArray⟩ 999), 0, 0, 0, false, ⟨#[]⟩, ⟨#[]⟩⟩ : Cmd) = l := by
  have Fc := full_of hf
  have e0 : decI (natW ⟨w0.toArray⟩ 4) = w0 := nat_word (by have := Fc.who1; simp only at this; omega)
  have e2 : decI (natW ⟨w2.toArray⟩ 999) = w2 := nat_word (by have := Fc.key0; simpa using this)
  have hw : wordsC (⟨5, natW ⟨w0.toArray⟩ 4, (natW ⟨w2.toArray⟩ 999), 0, 0, 0, false, ⟨#[]⟩, ⟨#[]⟩⟩ : Cmd) = [w0, w1, w2] := by
    show decI (natW ⟨w0.toArray⟩ 4) :: (wordOf 5).data.toList :: [decI (natW ⟨w2.toArray⟩ 999)] = _
    rw [e0, hx, e2]
  unfold txtC
  rw [hw, ← hs]
  exact join_split l
theorem cof_has5 {l w0 w1 w2 : List UInt8} (hs : splitW l = [w0, w1, w2]) (hx : (wordOf 5).data.toList = w1) {c : Cmd} (Fc : Full c) (h : txtC c = l) : c.op = 5 ∧ w0 = decI c.who ∧ w2 = decI c.key := by
  have hw := words_of Fc h
  rw [hs] at hw
  have h1 : w1 = (wordOf c.op).data.toList := by
    have := (words2 c).2
    rw [← hw] at this
    simpa using this
  have hop : c.op = 5 := (op_word ⟨Fc.op1, Fc.op9⟩ ⟨by decide, by decide⟩ (by rw [← h1, hx]))
  have hp : wordsC c = [decI c.who, (wordOf c.op).data.toList, decI c.key] := by simp [wordsC, partsC, hop]
  rw [hp] at hw
  simp only [List.cons.injEq, and_true] at hw
  obtain ⟨q0, _, q2⟩ := hw
  exact ⟨hop, q0, q2⟩
theorem cof_no5 {l w0 w1 w2 : List UInt8} (hs : splitW l = [w0, w1, w2]) (hx : (wordOf 5).data.toList = w1) (hf : ¬ (⟨5, natW ⟨w0.toArray⟩ 4, (natW ⟨w2.toArray⟩ 999), 0, 0, 0, false, ⟨#[]⟩, ⟨#[]⟩⟩ : Cmd).f = 0) : ∀ c : Cmd, c.f = 0 → txtC c ≠ l := by
  intro c h0 h
  have Fc := full_of h0
  obtain ⟨hop, q0, q2⟩ := cof_has5 hs hx Fc h
  have e0 : natW ⟨w0.toArray⟩ 4 = c.who := by rw [q0]; exact nat_back (by have := Fc.who1; omega) Fc.who4 (by have := Fc.who4; omega)
  have e2 : natW ⟨w2.toArray⟩ 999 = c.key := by rw [q2]; exact nat_back Fc.key0 Fc.key9 (by have := Fc.key9; omega)
  have he : (⟨5, natW ⟨w0.toArray⟩ 4, (natW ⟨w2.toArray⟩ 999), 0, 0, 0, false, ⟨#[]⟩, ⟨#[]⟩⟩ : Cmd) = c := cmd_ext hop.symm e0 e2 (Fc.nonew (by omega)).symm (Fc.noty (by omega)).symm (Fc.noat (by omega)).symm (Fc.nost (by omega)).symm (empty_is (Fc.noda (by omega))).symm (empty_is (Fc.nowa (by omega))).symm
  apply hf
  rw [he]
  exact h0
theorem cof_ok6 {l w0 w1 w2 w3 w4 : List UInt8} (hs : splitW l = [w0, w1, w2, w3, w4]) (hx : (wordOf 6).data.toList = w1)    (hf : (⟨6, natW ⟨w0.toArray⟩ 4, (natW ⟨w2.toArray⟩ 999), (natW ⟨w3.toArray⟩ 999), (natW ⟨w4.toArray⟩ 8), 0, false, ⟨#[]⟩, ⟨#[]⟩⟩ : Cmd).f = 0) : txtC (⟨6, natW ⟨w0.toArray⟩ 4, (natW ⟨w2.toArray⟩ 999), (natW ⟨w3.toArray⟩ 999), (natW ⟨w4.toArray⟩ 8), 0, false, ⟨#[]⟩, ⟨#[]⟩⟩ : Cmd) = l := by
  have Fc := full_of hf
  have e0 : decI (natW ⟨w0.toArray⟩ 4) = w0 := nat_word (by have := Fc.who1; simp only at this; omega)
  have e2 : decI (natW ⟨w2.toArray⟩ 999) = w2 := nat_word (by have := Fc.key0; simpa using this)
  have e3 : decI (natW ⟨w3.toArray⟩ 999) = w3 := nat_word (by have := Fc.new0; simpa using this)
  have e4 : decI (natW ⟨w4.toArray⟩ 8) = w4 := nat_word (by have := (ty_range Fc).1; simpa using this)
  have hw : wordsC (⟨6, natW ⟨w0.toArray⟩ 4, (natW ⟨w2.toArray⟩ 999), (natW ⟨w3.toArray⟩ 999), (natW ⟨w4.toArray⟩ 8), 0, false, ⟨#[]⟩, ⟨#[]⟩⟩ : Cmd) = [w0, w1, w2, w3, w4] := by
    show decI (natW ⟨w0.toArray⟩ 4) :: (wordOf 6).data.toList :: [decI (natW ⟨w2.toArray⟩ 999), decI (natW ⟨w3.toArray⟩ 999), decI (natW ⟨w4.toArray⟩ 8)] = _
    rw [e0, hx, e2, e3, e4]
  unfold txtC
  rw [hw, ← hs]
  exact join_split l
theorem cof_has6 {l w0 w1 w2 w3 w4 : List UInt8} (hs : splitW l = [w0, w1, w2, w3, w4]) (hx : (wordOf 6).data.toList = w1) {c : Cmd} (Fc : Full c) (h : txtC c = l) : c.op = 6 ∧ w0 = decI c.who ∧ w2 = decI c.key ∧ w3 = decI c.new ∧ w4 = decI c.kind := by
  have hw := words_of Fc h
  rw [hs] at hw
  have h1 : w1 = (wordOf c.op).data.toList := by
    have := (words2 c).2
    rw [← hw] at this
    simpa using this
  have hop : c.op = 6 := (op_word ⟨Fc.op1, Fc.op9⟩ ⟨by decide, by decide⟩ (by rw [← h1, hx]))
  have hp : wordsC c = [decI c.who, (wordOf c.op).data.toList, decI c.key, decI c.new, decI c.kind] := by simp [wordsC, partsC, hop]
  rw [hp] at hw
  simp only [List.cons.injEq, and_true] at hw
  obtain ⟨q0, _, q2, q3, q4⟩ := hw
  exact ⟨hop, q0, q2, q3, q4⟩
theorem cof_no6 {l w0 w1 w2 w3 w4 : List UInt8} (hs : splitW l = [w0, w1, w2, w3, w4]) (hx : (wordOf 6).data.toList = w1) (hf : ¬ (⟨6, natW ⟨w0.toArray⟩ 4, (natW ⟨w2.toArray⟩ 999), (natW ⟨w3.toArray⟩ 999), (natW ⟨w4.toArray⟩ 8), 0, false, ⟨#[]⟩, ⟨#[]⟩⟩ : Cmd).f = 0) : ∀ c : Cmd, c.f = 0 → txtC c ≠ l := by
  intro c h0 h
  have Fc := full_of h0
  obtain ⟨hop, q0, q2, q3, q4⟩ := cof_has6 hs hx Fc h
  have e0 : natW ⟨w0.toArray⟩ 4 = c.who := by rw [q0]; exact nat_back (by have := Fc.who1; omega) Fc.who4 (by have := Fc.who4; omega)
  have e2 : natW ⟨w2.toArray⟩ 999 = c.key := by rw [q2]; exact nat_back Fc.key0 Fc.key9 (by have := Fc.key9; omega)
  have e3 : natW ⟨w3.toArray⟩ 999 = c.new := by rw [q3]; exact nat_back Fc.new0 Fc.new9 (by have := Fc.new9; omega)
  have e4 : natW ⟨w4.toArray⟩ 8 = c.kind := by rw [q4]; exact nat_back (ty_range Fc).1 (kind8 Fc (by omega)) (ty_range Fc).2
  have he : (⟨6, natW ⟨w0.toArray⟩ 4, (natW ⟨w2.toArray⟩ 999), (natW ⟨w3.toArray⟩ 999), (natW ⟨w4.toArray⟩ 8), 0, false, ⟨#[]⟩, ⟨#[]⟩⟩ : Cmd) = c := cmd_ext hop.symm e0 e2 e3 e4 (Fc.noat (by omega)).symm (Fc.nost (by omega)).symm (empty_is (Fc.noda (by omega))).symm (empty_is (Fc.nowa (by omega))).symm
  apply hf
  rw [he]
  exact h0
theorem cof_ok7 {l w0 w1 w2 : List UInt8} (hs : splitW l = [w0, w1, w2]) (hx : (wordOf 7).data.toList = w1)  (hf : (⟨7, natW ⟨w0.toArray⟩ 4, 0, 0, 0, (natW ⟨w2.toArray⟩ 7), false, ⟨#[]⟩, ⟨#[]⟩⟩ : Cmd).f = 0) : txtC (⟨7, natW ⟨w0.toArray⟩ 4, 0, 0, 0, (natW ⟨w2.toArray⟩ 7), false, ⟨#[]⟩, ⟨#[]⟩⟩ : Cmd) = l := by
  have Fc := full_of hf
  have e0 : decI (natW ⟨w0.toArray⟩ 4) = w0 := nat_word (by have := Fc.who1; simp only at this; omega)
  have e2 : decI (natW ⟨w2.toArray⟩ 7) = w2 := nat_word (by have := Fc.at0; simpa using this)
  have hw : wordsC (⟨7, natW ⟨w0.toArray⟩ 4, 0, 0, 0, (natW ⟨w2.toArray⟩ 7), false, ⟨#[]⟩, ⟨#[]⟩⟩ : Cmd) = [w0, w1, w2] := by
    show decI (natW ⟨w0.toArray⟩ 4) :: (wordOf 7).data.toList :: [decI (natW ⟨w2.toArray⟩ 7)] = _
    rw [e0, hx, e2]
  unfold txtC
  rw [hw, ← hs]
  exact join_split l
theorem cof_has7 {l w0 w1 w2 : List UInt8} (hs : splitW l = [w0, w1, w2]) (hx : (wordOf 7).data.toList = w1) {c : Cmd} (Fc : Full c) (h : txtC c = l) : c.op = 7 ∧ w0 = decI c.who ∧ w2 = decI c.at' := by
  have hw := words_of Fc h
  rw [hs] at hw
  have h1 : w1 = (wordOf c.op).data.toList := by
    have := (words2 c).2
    rw [← hw] at this
    simpa using this
  have hop : c.op = 7 := (op_word ⟨Fc.op1, Fc.op9⟩ ⟨by decide, by decide⟩ (by rw [← h1, hx]))
  have hp : wordsC c = [decI c.who, (wordOf c.op).data.toList, decI c.at'] := by simp [wordsC, partsC, hop]
  rw [hp] at hw
  simp only [List.cons.injEq, and_true] at hw
  obtain ⟨q0, _, q2⟩ := hw
  exact ⟨hop, q0, q2⟩
theorem cof_no7 {l w0 w1 w2 : List UInt8} (hs : splitW l = [w0, w1, w2]) (hx : (wordOf 7).data.toList = w1) (hf : ¬ (⟨7, natW ⟨w0.toArray⟩ 4, 0, 0, 0, (natW ⟨w2.toArray⟩ 7), false, ⟨#[]⟩, ⟨#[]⟩⟩ : Cmd).f = 0) : ∀ c : Cmd, c.f = 0 → txtC c ≠ l := by
  intro c h0 h
  have Fc := full_of h0
  obtain ⟨hop, q0, q2⟩ := cof_has7 hs hx Fc h
  have e0 : natW ⟨w0.toArray⟩ 4 = c.who := by rw [q0]; exact nat_back (by have := Fc.who1; omega) Fc.who4 (by have := Fc.who4; omega)
  have e2 : natW ⟨w2.toArray⟩ 7 = c.at' := by rw [q2]; exact nat_back Fc.at0 Fc.at7 (by have := Fc.at7; omega)
  have he : (⟨7, natW ⟨w0.toArray⟩ 4, 0, 0, 0, (natW ⟨w2.toArray⟩ 7), false, ⟨#[]⟩, ⟨#[]⟩⟩ : Cmd) = c := cmd_ext hop.symm e0 (Fc.nokey (by omega)).symm (Fc.nonew (by omega)).symm (Fc.noty (by omega)).symm e2 (Fc.nost (by omega)).symm (empty_is (Fc.noda (by omega))).symm (empty_is (Fc.nowa (by omega))).symm
  apply hf
  rw [he]
  exact h0
theorem cof_ok8 {l w0 w1 w2 w3 : List UInt8} (hs : splitW l = [w0, w1, w2, w3]) (hx : (wordOf 8).data.toList = w1)  (h3 : w3 ≠ []) (hf : (⟨8, natW ⟨w0.toArray⟩ 4, 0, 0, 0, (natW ⟨w2.toArray⟩ 7), false, (undataW ⟨w3.toArray⟩), ⟨#[]⟩⟩ : Cmd).f = 0) : txtC (⟨8, natW ⟨w0.toArray⟩ 4, 0, 0, 0, (natW ⟨w2.toArray⟩ 7), false, (undataW ⟨w3.toArray⟩), ⟨#[]⟩⟩ : Cmd) = l := by
  have Fc := full_of hf
  have e0 : decI (natW ⟨w0.toArray⟩ 4) = w0 := nat_word (by have := Fc.who1; simp only at this; omega)
  have e2 : decI (natW ⟨w2.toArray⟩ 7) = w2 := nat_word (by have := Fc.at0; simpa using this)
  have e3 : dataL (undataW ⟨w3.toArray⟩) = w3 := data_word h3
  have hw : wordsC (⟨8, natW ⟨w0.toArray⟩ 4, 0, 0, 0, (natW ⟨w2.toArray⟩ 7), false, (undataW ⟨w3.toArray⟩), ⟨#[]⟩⟩ : Cmd) = [w0, w1, w2, w3] := by
    show decI (natW ⟨w0.toArray⟩ 4) :: (wordOf 8).data.toList :: [decI (natW ⟨w2.toArray⟩ 7), dataL (undataW ⟨w3.toArray⟩)] = _
    rw [e0, hx, e2, e3]
  unfold txtC
  rw [hw, ← hs]
  exact join_split l
theorem cof_has8 {l w0 w1 w2 w3 : List UInt8} (hs : splitW l = [w0, w1, w2, w3]) (hx : (wordOf 8).data.toList = w1) {c : Cmd} (Fc : Full c) (h : txtC c = l) : c.op = 8 ∧ w0 = decI c.who ∧ w2 = decI c.at' ∧ w3 = dataL c.da := by
  have hw := words_of Fc h
  rw [hs] at hw
  have h1 : w1 = (wordOf c.op).data.toList := by
    have := (words2 c).2
    rw [← hw] at this
    simpa using this
  have hop : c.op = 8 := (op_word ⟨Fc.op1, Fc.op9⟩ ⟨by decide, by decide⟩ (by rw [← h1, hx]))
  have hp : wordsC c = [decI c.who, (wordOf c.op).data.toList, decI c.at', dataL c.da] := by simp [wordsC, partsC, hop]
  rw [hp] at hw
  simp only [List.cons.injEq, and_true] at hw
  obtain ⟨q0, _, q2, q3⟩ := hw
  exact ⟨hop, q0, q2, q3⟩
theorem cof_no8 {l w0 w1 w2 w3 : List UInt8} (hs : splitW l = [w0, w1, w2, w3]) (hx : (wordOf 8).data.toList = w1) (hf : ¬ (⟨8, natW ⟨w0.toArray⟩ 4, 0, 0, 0, (natW ⟨w2.toArray⟩ 7), false, (undataW ⟨w3.toArray⟩), ⟨#[]⟩⟩ : Cmd).f = 0) : ∀ c : Cmd, c.f = 0 → txtC c ≠ l := by
  intro c h0 h
  have Fc := full_of h0
  obtain ⟨hop, q0, q2, q3⟩ := cof_has8 hs hx Fc h
  have e0 : natW ⟨w0.toArray⟩ 4 = c.who := by rw [q0]; exact nat_back (by have := Fc.who1; omega) Fc.who4 (by have := Fc.who4; omega)
  have e2 : natW ⟨w2.toArray⟩ 7 = c.at' := by rw [q2]; exact nat_back Fc.at0 Fc.at7 (by have := Fc.at7; omega)
  have e3 : undataW ⟨w3.toArray⟩ = c.da := by rw [q3]; exact data_back Fc.das
  have he : (⟨8, natW ⟨w0.toArray⟩ 4, 0, 0, 0, (natW ⟨w2.toArray⟩ 7), false, (undataW ⟨w3.toArray⟩), ⟨#[]⟩⟩ : Cmd) = c := cmd_ext hop.symm e0 (Fc.nokey (by omega)).symm (Fc.nonew (by omega)).symm (Fc.noty (by omega)).symm e2 (Fc.nost (by omega)).symm e3 (empty_is (Fc.nowa (by omega))).symm
  apply hf
  rw [he]
  exact h0
theorem cof_ok9 {l w0 w1 w2 w3 w4 : List UInt8} (hs : splitW l = [w0, w1, w2, w3, w4]) (hx : (wordOf 9).data.toList = w1)  (h3 : w3 ≠ []) (h4 : w4 ≠ []) (hf : (⟨9, natW ⟨w0.toArray⟩ 4, 0, 0, 0, (natW ⟨w2.toArray⟩ 7), false, (undataW ⟨w3.toArray⟩), (undataW ⟨w4.toArray⟩)⟩ : Cmd).f = 0) : txtC (⟨9, natW ⟨w0.toArray⟩ 4, 0, 0, 0, (natW ⟨w2.toArray⟩ 7), false, (undataW ⟨w3.toArray⟩), (undataW ⟨w4.toArray⟩)⟩ : Cmd) = l := by
  have Fc := full_of hf
  have e0 : decI (natW ⟨w0.toArray⟩ 4) = w0 := nat_word (by have := Fc.who1; simp only at this; omega)
  have e2 : decI (natW ⟨w2.toArray⟩ 7) = w2 := nat_word (by have := Fc.at0; simpa using this)
  have e3 : dataL (undataW ⟨w3.toArray⟩) = w3 := data_word h3
  have e4 : dataL (undataW ⟨w4.toArray⟩) = w4 := data_word h4
  have hw : wordsC (⟨9, natW ⟨w0.toArray⟩ 4, 0, 0, 0, (natW ⟨w2.toArray⟩ 7), false, (undataW ⟨w3.toArray⟩), (undataW ⟨w4.toArray⟩)⟩ : Cmd) = [w0, w1, w2, w3, w4] := by
    show decI (natW ⟨w0.toArray⟩ 4) :: (wordOf 9).data.toList :: [decI (natW ⟨w2.toArray⟩ 7), dataL (undataW ⟨w3.toArray⟩), dataL (undataW ⟨w4.toArray⟩)] = _
    rw [e0, hx, e2, e3, e4]
  unfold txtC
  rw [hw, ← hs]
  exact join_split l
theorem cof_has9 {l w0 w1 w2 w3 w4 : List UInt8} (hs : splitW l = [w0, w1, w2, w3, w4]) (hx : (wordOf 9).data.toList = w1) {c : Cmd} (Fc : Full c) (h : txtC c = l) : c.op = 9 ∧ w0 = decI c.who ∧ w2 = decI c.at' ∧ w3 = dataL c.da ∧ w4 = dataL c.wa := by
  have hw := words_of Fc h
  rw [hs] at hw
  have h1 : w1 = (wordOf c.op).data.toList := by
    have := (words2 c).2
    rw [← hw] at this
    simpa using this
  have hop : c.op = 9 := (op_word ⟨Fc.op1, Fc.op9⟩ ⟨by decide, by decide⟩ (by rw [← h1, hx]))
  have hp : wordsC c = [decI c.who, (wordOf c.op).data.toList, decI c.at', dataL c.da, dataL c.wa] := by simp [wordsC, partsC, hop]
  rw [hp] at hw
  simp only [List.cons.injEq, and_true] at hw
  obtain ⟨q0, _, q2, q3, q4⟩ := hw
  exact ⟨hop, q0, q2, q3, q4⟩
theorem cof_no9 {l w0 w1 w2 w3 w4 : List UInt8} (hs : splitW l = [w0, w1, w2, w3, w4]) (hx : (wordOf 9).data.toList = w1) (hf : ¬ (⟨9, natW ⟨w0.toArray⟩ 4, 0, 0, 0, (natW ⟨w2.toArray⟩ 7), false, (undataW ⟨w3.toArray⟩), (undataW ⟨w4.toArray⟩)⟩ : Cmd).f = 0) : ∀ c : Cmd, c.f = 0 → txtC c ≠ l := by
  intro c h0 h
  have Fc := full_of h0
  obtain ⟨hop, q0, q2, q3, q4⟩ := cof_has9 hs hx Fc h
  have e0 : natW ⟨w0.toArray⟩ 4 = c.who := by rw [q0]; exact nat_back (by have := Fc.who1; omega) Fc.who4 (by have := Fc.who4; omega)
  have e2 : natW ⟨w2.toArray⟩ 7 = c.at' := by rw [q2]; exact nat_back Fc.at0 Fc.at7 (by have := Fc.at7; omega)
  have e3 : undataW ⟨w3.toArray⟩ = c.da := by rw [q3]; exact data_back Fc.das
  have e4 : undataW ⟨w4.toArray⟩ = c.wa := by rw [q4]; exact data_back Fc.was
  have he : (⟨9, natW ⟨w0.toArray⟩ 4, 0, 0, 0, (natW ⟨w2.toArray⟩ 7), false, (undataW ⟨w3.toArray⟩), (undataW ⟨w4.toArray⟩)⟩ : Cmd) = c := cmd_ext hop.symm e0 (Fc.nokey (by omega)).symm (Fc.nonew (by omega)).symm (Fc.noty (by omega)).symm e2 (Fc.nost (by omega)).symm e3 e4
  apply hf
  rw [he]
  exact h0
end Go.Proofs.YthkckogbjdbnnaaDoor.K
