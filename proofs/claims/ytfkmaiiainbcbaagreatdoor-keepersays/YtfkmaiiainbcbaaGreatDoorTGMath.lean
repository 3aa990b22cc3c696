/- Plain facts: what is guessed of a command's text is the command. No statement of the seat is proved here. -/
import Derived.Test.YtfkmaiiainbcbaaGreatDoorTGuess
namespace Go.Proofs.YtfkmaiiainbcbaaGreatDoor.K
open Go.ChangeShapes Go.WideShapes Go.ChangeAt Go.RowKit Go.Maps

theorem op_cases {s : ByteArray} {o : Int} (h : OpIs s o) : o = 0 ∨ o = 1 ∨ o = 2 ∨ o = 3 ∨ o = 4 ∨ o = 5 ∨ o = 6 ∨ o = 7 ∨ o = 8 ∨ o = 9 := by
  have := op_range h; omega
theorem gC_op {s : List UInt8} {o : Int} (h : OpIs ⟨(nxW 1 s).toArray⟩ o) : (gC o s).op = o := by
  have hr := op_cases h
  rcases hr with rfl | rfl | rfl | rfl | rfl | rfl | rfl | rfl | rfl | rfl <;> rfl
theorem gC_wf {s : List UInt8} {o : Int} (h : OpIs ⟨(nxW 1 s).toArray⟩ o) : (Lit.int .i64 (gC o s).op).wf = true := by
  rw [gC_op h]
  have hr := op_cases h
  rcases hr with rfl | rfl | rfl | rfl | rfl | rfl | rfl | rfl | rfl | rfl <;> decide
theorem undata_len (n : Nat) (s : List UInt8) : (undataW ⟨(nxW n s).toArray⟩).size ≤ s.length := by
  unfold undataW
  split
  · exact Nat.zero_le _
  · rw [sz_arr]; exact nx_len n s
theorem gC_len {s : List UInt8} {o : Int} (h : OpIs ⟨(nxW 1 s).toArray⟩ o) : (gC o s).da.size ≤ s.length ∧ (gC o s).wa.size ≤ s.length := by
  have h3 := undata_len 3 s
  have h4 := undata_len 4 s
  have hr := op_cases h
  rcases hr with rfl | rfl | rfl | rfl | rfl | rfl | rfl | rfl | rfl | rfl
  all_goals first | exact ⟨Nat.zero_le _, Nat.zero_le _⟩ | exact ⟨h3, Nat.zero_le _⟩ | exact ⟨h3, h4⟩

theorem rs_join : ∀ (n : Nat) (ws : List (List UInt8)), (∀ w ∈ ws, (32 : UInt8) ∉ w) → n < ws.length → rsW n (joinW ws) = joinW (ws.drop n)
  | 0, _, _, _ => rfl
  | n + 1, ws, hb, hn => by
    have ih := rs_join n ws hb (by omega)
    show (Lib.cut (rsW n (joinW ws)) [32]).2.1 = _
    rw [ih, List.drop_eq_getElem_cons (by omega : n < ws.length), List.drop_eq_getElem_cons (by omega : n + 1 < ws.length), cut_words (hb _ (List.getElem_mem _))]
theorem nx_join (n : Nat) (ws : List (List UInt8)) (hb : ∀ w ∈ ws, (32 : UInt8) ∉ w) (hn : n < ws.length) : nxW n (joinW ws) = ws[n] := by
  unfold nxW
  rw [rs_join n ws hb hn, List.drop_eq_getElem_cons hn]
  by_cases h : n + 1 < ws.length
  · rw [List.drop_eq_getElem_cons h, cut_words (hb _ (List.getElem_mem _))]
  · rw [List.drop_of_length_le (by omega), cut_word (hb _ (List.getElem_mem _))]
theorem num_decI {n : Int} (h0 : 0 ≤ n) (h9 : n ≤ 1000000000) : numOf ⟨(decI n).toArray⟩ = n := by
  have := num_dec n.toNat (by omega)
  unfold decI
  rw [this]; omega
theorem stays_back (b : Bool) : (staysL b == [115, 116, 97, 121, 115]) = b := by cases b <;> decide
theorem empty_is {d : ByteArray} (h : d.toList.isEmpty = true) : d = ⟨#[]⟩ := by
  have h0 : d.data.toList = [] := by
    have := ByteArray.toList_eq d
    rw [← this]; exact List.isEmpty_iff.1 h
  obtain ⟨⟨l⟩⟩ := d
  simp only at h0
  subst h0
  rfl
theorem data_back {d : ByteArray} (h : smallB d.data.toList = true) : undataW ⟨(dataL d).toArray⟩ = d := by
  unfold dataL dataW
  split
  · rename_i he
    rw [empty_is he]
    unfold undataW
    rw [if_pos (by rw [ByteArray.toList_eq]; rfl)]
  · have hne : ((⟨d.data.toList.toArray⟩ : ByteArray).toList == [45]) = false := by
      rw [ByteArray.toList_eq]
      cases hq : (d.data.toList == [45]) with
      | false => rfl
      | true =>
        have : d.data.toList = [45] := by simpa using hq
        rw [this] at h
        exact absurd h (by decide)
    unfold undataW
    rw [hne]
    simp
theorem op_unique {c : Cmd} (F : Full c) {o : Int} (h : OpIs ⟨(wordOf c.op).data.toList.toArray⟩ o) : o = c.op := by
  have h1 := F.op1
  have h9 := F.op9
  have e : (⟨(wordOf c.op).data.toList.toArray⟩ : ByteArray) = wordOf c.op := by simp
  rw [e] at h
  generalize c.op = p at *
  have hp : p = 1 ∨ p = 2 ∨ p = 3 ∨ p = 4 ∨ p = 5 ∨ p = 6 ∨ p = 7 ∨ p = 8 ∨ p = 9 := by omega
  rcases h with ⟨o1, o9, he⟩ | ⟨_, hall⟩
  · have ho : o = 1 ∨ o = 2 ∨ o = 3 ∨ o = 4 ∨ o = 5 ∨ o = 6 ∨ o = 7 ∨ o = 8 ∨ o = 9 := by omega
    rcases hp with rfl | rfl | rfl | rfl | rfl | rfl | rfl | rfl | rfl <;> rcases ho with rfl | rfl | rfl | rfl | rfl | rfl | rfl | rfl | rfl <;> first | rfl | exact absurd he (by decide +kernel)
  · have := hall p h1 h9
    rcases hp with rfl | rfl | rfl | rfl | rfl | rfl | rfl | rfl | rfl <;> exact absurd this (by decide +kernel)
theorem cmd_ext {c d : Cmd} (h1 : c.op = d.op) (h2 : c.who = d.who) (h3 : c.key = d.key) (h4 : c.new = d.new) (h5 : c.kind = d.kind) (h6 : c.at' = d.at') (h7 : c.st = d.st) (h8 : c.da = d.da) (h9 : c.wa = d.wa) : c = d := by
  cases c; cases d; simp_all
/-- What is guessed of a command's text is the command. -/
theorem guess_back {c : Cmd} (F : Full c) {o : Int} (h : OpIs ⟨(nxW 1 (txtC c)).toArray⟩ o) : gC o (txtC c) = c := by
  have hb := words_noblank F
  have nx := fun (n : Nat) (hn : n < (wordsC c).length) => nx_join n (wordsC c) hb hn
  have hk := F.key0
  have hk9 := F.key9
  have hn := F.new0
  have hn9 := F.new9
  have ha := F.at0
  have ha7 := F.at7
  have hty := ty_range F
  have w1 := F.who1
  have w4 := F.who4
  have o1 := F.op1
  have o9 := F.op9
  have e1 : nxW 1 (txtC c) = (wordOf c.op).data.toList := nx 1 (by simp [wordsC])
  have e0 : nxW 0 (txtC c) = decI c.who := nx 0 (by simp [wordsC])
  rw [e1] at h
  have ho := op_unique F h
  subst ho
  have hw : numOf ⟨(nxW 0 (txtC c)).toArray⟩ = c.who := by rw [e0]; exact num_decI (by omega) (by omega)
  have hp : c.op = 1 ∨ c.op = 2 ∨ c.op = 3 ∨ c.op = 4 ∨ c.op = 5 ∨ c.op = 6 ∨ c.op = 7 ∨ c.op = 8 ∨ c.op = 9 := by omega
  have keyE := num_decI (n := c.key) (by omega) (by omega)
  have newE := num_decI (n := c.new) (by omega) (by omega)
  have kindE := num_decI (n := c.kind) hty.1 hty.2
  have atE := num_decI (n := c.at') (by omega) (by omega)
  have daE := data_back F.das
  have waE := data_back F.was
  have nokey := F.nokey
  have nonew := F.nonew
  have noat := F.noat
  have noty := F.noty
  have nost := F.nost
  have noda := fun h => empty_is (F.noda h)
  have nowa := fun h => empty_is (F.nowa h)
  rcases hp with hop | hop | hop | hop | hop | hop | hop | hop | hop
  · have hw' : wordsC c = [decI c.who, (wordOf c.op).data.toList, decI c.key, decI c.new, staysL c.st] := by simp [wordsC, partsC, hop]
    have p0 : nxW 2 (txtC c) = decI c.key := (nx 2 (by rw [hw']; simp)).trans (by simp [hw'])
    have p1 : nxW 3 (txtC c) = decI c.new := (nx 3 (by rw [hw']; simp)).trans (by simp [hw'])
    have p2 : nxW 4 (txtC c) = staysL c.st := (nx 4 (by rw [hw']; simp)).trans (by simp [hw'])
    have hg : gC c.op (txtC c) = gC 1 (txtC c) := by rw [hop]
    rw [hg]
    exact cmd_ext hop.symm hw (show numOf ⟨(nxW 2 (txtC c)).toArray⟩ = c.key by rw [p0]; exact keyE) (show numOf ⟨(nxW 3 (txtC c)).toArray⟩ = c.new by rw [p1]; exact newE) (noty (by omega)).symm (noat (by omega)).symm (show (nxW 4 (txtC c) == [115, 116, 97, 121, 115]) = c.st by rw [p2]; exact stays_back c.st) (noda (by omega)).symm (nowa (by omega)).symm
  · have hw' : wordsC c = [decI c.who, (wordOf c.op).data.toList, decI c.key, decI c.new, staysL c.st] := by simp [wordsC, partsC, hop]
    have p0 : nxW 2 (txtC c) = decI c.key := (nx 2 (by rw [hw']; simp)).trans (by simp [hw'])
    have p1 : nxW 3 (txtC c) = decI c.new := (nx 3 (by rw [hw']; simp)).trans (by simp [hw'])
    have p2 : nxW 4 (txtC c) = staysL c.st := (nx 4 (by rw [hw']; simp)).trans (by simp [hw'])
    have hg : gC c.op (txtC c) = gC 2 (txtC c) := by rw [hop]
    rw [hg]
    exact cmd_ext hop.symm hw (show numOf ⟨(nxW 2 (txtC c)).toArray⟩ = c.key by rw [p0]; exact keyE) (show numOf ⟨(nxW 3 (txtC c)).toArray⟩ = c.new by rw [p1]; exact newE) (noty (by omega)).symm (noat (by omega)).symm (show (nxW 4 (txtC c) == [115, 116, 97, 121, 115]) = c.st by rw [p2]; exact stays_back c.st) (noda (by omega)).symm (nowa (by omega)).symm
  · have hw' : wordsC c = [decI c.who, (wordOf c.op).data.toList, decI c.key, decI c.kind] := by simp [wordsC, partsC, hop]
    have p0 : nxW 2 (txtC c) = decI c.key := (nx 2 (by rw [hw']; simp)).trans (by simp [hw'])
    have p1 : nxW 3 (txtC c) = decI c.kind := (nx 3 (by rw [hw']; simp)).trans (by simp [hw'])
    have hg : gC c.op (txtC c) = gC 3 (txtC c) := by rw [hop]
    rw [hg]
    exact cmd_ext hop.symm hw (show numOf ⟨(nxW 2 (txtC c)).toArray⟩ = c.key by rw [p0]; exact keyE) (nonew (by omega)).symm (show numOf ⟨(nxW 3 (txtC c)).toArray⟩ = c.kind by rw [p1]; exact kindE) (noat (by omega)).symm (nost (by omega)).symm (noda (by omega)).symm (nowa (by omega)).symm
  · have hw' : wordsC c = [decI c.who, (wordOf c.op).data.toList, decI c.key, decI c.kind] := by simp [wordsC, partsC, hop]
    have p0 : nxW 2 (txtC c) = decI c.key := (nx 2 (by rw [hw']; simp)).trans (by simp [hw'])
    have p1 : nxW 3 (txtC c) = decI c.kind := (nx 3 (by rw [hw']; simp)).trans (by simp [hw'])
    have hg : gC c.op (txtC c) = gC 4 (txtC c) := by rw [hop]
    rw [hg]
    exact cmd_ext hop.symm hw (show numOf ⟨(nxW 2 (txtC c)).toArray⟩ = c.key by rw [p0]; exact keyE) (nonew (by omega)).symm (show numOf ⟨(nxW 3 (txtC c)).toArray⟩ = c.kind by rw [p1]; exact kindE) (noat (by omega)).symm (nost (by omega)).symm (noda (by omega)).symm (nowa (by omega)).symm
  · have hw' : wordsC c = [decI c.who, (wordOf c.op).data.toList, decI c.key] := by simp [wordsC, partsC, hop]
    have p0 : nxW 2 (txtC c) = decI c.key := (nx 2 (by rw [hw']; simp)).trans (by simp [hw'])
    have hg : gC c.op (txtC c) = gC 5 (txtC c) := by rw [hop]
    rw [hg]
    exact cmd_ext hop.symm hw (show numOf ⟨(nxW 2 (txtC c)).toArray⟩ = c.key by rw [p0]; exact keyE) (nonew (by omega)).symm (noty (by omega)).symm (noat (by omega)).symm (nost (by omega)).symm (noda (by omega)).symm (nowa (by omega)).symm
  · have hw' : wordsC c = [decI c.who, (wordOf c.op).data.toList, decI c.key, decI c.new, decI c.kind] := by simp [wordsC, partsC, hop]
    have p0 : nxW 2 (txtC c) = decI c.key := (nx 2 (by rw [hw']; simp)).trans (by simp [hw'])
    have p1 : nxW 3 (txtC c) = decI c.new := (nx 3 (by rw [hw']; simp)).trans (by simp [hw'])
    have p2 : nxW 4 (txtC c) = decI c.kind := (nx 4 (by rw [hw']; simp)).trans (by simp [hw'])
    have hg : gC c.op (txtC c) = gC 6 (txtC c) := by rw [hop]
    rw [hg]
    exact cmd_ext hop.symm hw (show numOf ⟨(nxW 2 (txtC c)).toArray⟩ = c.key by rw [p0]; exact keyE) (show numOf ⟨(nxW 3 (txtC c)).toArray⟩ = c.new by rw [p1]; exact newE) (show numOf ⟨(nxW 4 (txtC c)).toArray⟩ = c.kind by rw [p2]; exact kindE) (noat (by omega)).symm (nost (by omega)).symm (noda (by omega)).symm (nowa (by omega)).symm
  · have hw' : wordsC c = [decI c.who, (wordOf c.op).data.toList, decI c.at'] := by simp [wordsC, partsC, hop]
    have p0 : nxW 2 (txtC c) = decI c.at' := (nx 2 (by rw [hw']; simp)).trans (by simp [hw'])
    have hg : gC c.op (txtC c) = gC 7 (txtC c) := by rw [hop]
    rw [hg]
    exact cmd_ext hop.symm hw (nokey (by omega)).symm (nonew (by omega)).symm (noty (by omega)).symm (show numOf ⟨(nxW 2 (txtC c)).toArray⟩ = c.at' by rw [p0]; exact atE) (nost (by omega)).symm (noda (by omega)).symm (nowa (by omega)).symm
  · have hw' : wordsC c = [decI c.who, (wordOf c.op).data.toList, decI c.at', dataL c.da] := by simp [wordsC, partsC, hop]
    have p0 : nxW 2 (txtC c) = decI c.at' := (nx 2 (by rw [hw']; simp)).trans (by simp [hw'])
    have p1 : nxW 3 (txtC c) = dataL c.da := (nx 3 (by rw [hw']; simp)).trans (by simp [hw'])
    have hg : gC c.op (txtC c) = gC 8 (txtC c) := by rw [hop]
    rw [hg]
    exact cmd_ext hop.symm hw (nokey (by omega)).symm (nonew (by omega)).symm (noty (by omega)).symm (show numOf ⟨(nxW 2 (txtC c)).toArray⟩ = c.at' by rw [p0]; exact atE) (nost (by omega)).symm (show undataW ⟨(nxW 3 (txtC c)).toArray⟩ = c.da by rw [p1]; exact daE) (nowa (by omega)).symm
  · have hw' : wordsC c = [decI c.who, (wordOf c.op).data.toList, decI c.at', dataL c.da, dataL c.wa] := by simp [wordsC, partsC, hop]
    have p0 : nxW 2 (txtC c) = decI c.at' := (nx 2 (by rw [hw']; simp)).trans (by simp [hw'])
    have p1 : nxW 3 (txtC c) = dataL c.da := (nx 3 (by rw [hw']; simp)).trans (by simp [hw'])
    have p2 : nxW 4 (txtC c) = dataL c.wa := (nx 4 (by rw [hw']; simp)).trans (by simp [hw'])
    have hg : gC c.op (txtC c) = gC 9 (txtC c) := by rw [hop]
    rw [hg]
    exact cmd_ext hop.symm hw (nokey (by omega)).symm (nonew (by omega)).symm (noty (by omega)).symm (show numOf ⟨(nxW 2 (txtC c)).toArray⟩ = c.at' by rw [p0]; exact atE) (nost (by omega)).symm (show undataW ⟨(nxW 3 (txtC c)).toArray⟩ = c.da by rw [p1]; exact daE) (show undataW ⟨(nxW 4 (txtC c)).toArray⟩ = c.wa by rw [p2]; exact waE)
end Go.Proofs.YtfkmaiiainbcbaaGreatDoor.K
