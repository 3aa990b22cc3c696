/- Plain facts: the words of a command's text are its words again. No statement of the seat is proved here. -/
import Derived.Test.YtfkmaiiainbcbaaGreatDoorTCmd
namespace Go.Proofs.YtfkmaiiainbcbaaGreatDoor.K

theorem dec_noblank (n : Int) : (32 : UInt8) ∉ decI n := by
  intro h
  have := dec_dig n.toNat 32 h
  simp at this
theorem stays_noblank (b : Bool) : (32 : UInt8) ∉ staysL b := by cases b <;> decide
theorem data_noblank {s : ByteArray} (h : K.smallB s.data.toList = true) : (32 : UInt8) ∉ dataL s := by
  unfold dataL K.dataW
  split
  · decide
  · intro hm
    unfold K.smallB at h
    have := List.all_eq_true.1 h 32 hm
    simp at this
theorem word_noblank {op : Int} (h1 : 1 ≤ op) (h9 : op ≤ 9) : (32 : UInt8) ∉ (K.wordOf op).data.toList := by
  have hop : op = 1 ∨ op = 2 ∨ op = 3 ∨ op = 4 ∨ op = 5 ∨ op = 6 ∨ op = 7 ∨ op = 8 ∨ op = 9 := by omega
  rcases hop with rfl | rfl | rfl | rfl | rfl | rfl | rfl | rfl | rfl <;> decide
theorem words_noblank {c : Cmd} (F : Full c) : ∀ w ∈ wordsC c, (32 : UInt8) ∉ w := by
  have h0 := dec_noblank c.who
  have h1 := word_noblank F.op1 F.op9
  have h2 := dec_noblank c.key
  have h3 := dec_noblank c.new
  have h4 := dec_noblank c.kind
  have h5 := dec_noblank c.at'
  have h6 := stays_noblank c.st
  have h7 := data_noblank F.das
  have h8 := data_noblank F.was
  unfold wordsC partsC
  repeat' split
  all_goals
    intro w hm
    simp only [List.mem_cons, List.not_mem_nil, or_false] at hm
    rcases hm with rfl | rfl | rfl | rfl | rfl | rfl <;> assumption
/-- The words of a command's text. -/
theorem split_txt {c : Cmd} (F : Full c) : splitW (txtC c) = wordsC c := by
  unfold txtC
  have h := words_noblank F
  unfold wordsC at h ⊢
  exact split_join _ _ h
end Go.Proofs.YtfkmaiiainbcbaaGreatDoor.K
