/- Plain facts on a command's words: which they are, and that no other text is read as it. No statement of the seat is proved here. -/
import Derived.Test.YtfkmaiiainbcbaaGreatDoorTCut
import Derived.Test.YtfkmaiiainbcbaaGreatDoorCChk
import Derived.Test.YtfkmaiiainbcbaaGreatDoorCWord
namespace Go.Proofs.YtfkmaiiainbcbaaGreatDoor.K

/-- A command as plain data. -/
structure Cmd where
  op : Int
  who : Int
  key : Int
  new : Int
  kind : Int
  at' : Int
  st : Bool
  da : ByteArray
  wa : ByteArray
/-- What is wrong with it; 0: nothing. -/
def Cmd.f (c : Cmd) : Int := K.cmdF c.op c.who c.key c.new c.kind c.at' c.st c.da c.wa
def decI (n : Int) : List UInt8 := Lib.decDigits n.toNat
def staysL (b : Bool) : List UInt8 := if b then [115, 116, 97, 121, 115] else [103, 111, 101, 115]
def dataL (s : ByteArray) : List UInt8 := (K.dataW s).data.toList
/-- A command's words behind the first two. -/
def partsC (c : Cmd) : List (List UInt8) :=
  if c.op = 1 ∨ c.op = 2 then [decI c.key, decI c.new, staysL c.st]
  else if c.op = 3 ∨ c.op = 4 then [decI c.key, decI c.kind]
  else if c.op = 5 then [decI c.key]
  else if c.op = 6 then [decI c.key, decI c.new, decI c.kind]
  else if c.op = 7 then [decI c.at']
  else if c.op = 8 then [decI c.at', dataL c.da]
  else [decI c.at', dataL c.da, dataL c.wa]
def wordsC (c : Cmd) : List (List UInt8) := decI c.who :: (K.wordOf c.op).data.toList :: partsC c
/-- A command's text. -/
def txtC (c : Cmd) : List UInt8 := joinW (wordsC c)

/-- All that a command that may be has, and has not. -/
structure Full (c : Cmd) : Prop where
  op1 : 1 ≤ c.op
  op9 : c.op ≤ 9
  who1 : 1 ≤ c.who
  who4 : c.who ≤ 4
  key0 : 0 ≤ c.key
  key9 : c.key ≤ 999
  nokey : 6 < c.op → c.key = 0
  new0 : 0 ≤ c.new
  new9 : c.new ≤ 999
  nonew : ¬ (c.op = 1 ∨ c.op = 2 ∨ c.op = 6) → c.new = 0
  at0 : 0 ≤ c.at'
  at7 : c.at' ≤ 7
  noat : c.op < 7 → c.at' = 0
  ty : c.op = 3 ∨ c.op = 4 ∨ c.op = 6 → K.typeB c.kind = true
  noty : ¬ (c.op = 3 ∨ c.op = 4 ∨ c.op = 6) → c.kind = 0
  nost : ¬ (c.op = 1 ∨ c.op = 2) → c.st = false
  noda : c.op < 8 → c.da.toList.isEmpty = true
  nowa : c.op < 9 → c.wa.toList.isEmpty = true
  da8 : c.da.size ≤ 8
  wa8 : c.wa.size ≤ 8
  das : K.smallB c.da.data.toList = true
  was : K.smallB c.wa.data.toList = true
theorem chk_0 {n : Int} {has : Bool} {most : Int} (h : K.chkN n has most = 0) : (has = false → n = 0) ∧ 0 ≤ n ∧ n ≤ most := by
  unfold K.chkN at h
  split at h
  · omega
  · rename_i h1
    split at h
    · omega
    · refine ⟨fun e => Classical.byContradiction fun e2 => h1 ⟨e2, e⟩, by omega, by omega⟩
theorem full_of {c : Cmd} (h : c.f = 0) : Full c := by
  obtain ⟨op, who, key, new, kind, at', st, da, wa⟩ := c
  unfold Cmd.f at h
  simp only at h
  by_cases ho : 1 ≤ op ∧ op ≤ 9
  case neg => rw [K.cmdF_op ho] at h; omega
  by_cases hw : who < 1 ∨ 4 < who
  case pos => rw [K.cmdF_who ho hw] at h; omega
  by_cases hn : K.numsF (K.hasKey op) (K.hasNew op) (K.hasAt op) key new at' = 0
  case neg => rw [K.cmdF_nums ho hw hn] at h; exact absurd h hn
  cases hs : K.shapedB (K.hasHeld op) (K.hasStays op) (K.hasData op) (K.hasWant op) kind st da wa
  case false => rw [K.cmdF_shape ho hw hn hs] at h; omega
  by_cases hz : 8 < da.size ∨ 8 < wa.size
  case pos => rw [K.cmdF_size ho hw hn hs hz] at h; omega
  by_cases hl : K.smallB da.data.toList = false ∨ K.smallB wa.data.toList = false
  case pos => rw [K.cmdF_small ho hw hn hs hz hl] at h; omega
  have hk : K.chkN key (K.hasKey op) 999 = 0 := by
    unfold K.numsF at hn; split at hn
    · exact hn
    · simp_all
  have hm : K.chkN new (K.hasNew op) 999 = 0 := by
    unfold K.numsF at hn; rw [if_neg (fun e => e hk)] at hn; split at hn
    · exact hn
    · simp_all
  have ha : K.chkN at' (K.hasAt op) 7 = 0 := by
    unfold K.numsF at hn; rw [if_neg (fun e => e hk), if_neg (fun e => e hm)] at hn; exact hn
  obtain ⟨k1, k2, k3⟩ := chk_0 hk
  obtain ⟨m1, m2, m3⟩ := chk_0 hm
  obtain ⟨a1, a2, a3⟩ := chk_0 ha
  simp only [not_or, Bool.not_eq_false] at hl
  simp only [K.shapedB, Bool.and_eq_true, Bool.or_eq_true, Bool.not_eq_true'] at hs
  obtain ⟨s1, ⟨⟨s2, s3⟩, s4⟩, s5⟩ := hs
  have hop : op = 1 ∨ op = 2 ∨ op = 3 ∨ op = 4 ∨ op = 5 ∨ op = 6 ∨ op = 7 ∨ op = 8 ∨ op = 9 := by omega
  refine ⟨ho.1, ho.2, by show 1 ≤ who; omega, by show who ≤ 4; omega, k2, k3, ?_, m2, m3, ?_, a2, a3, ?_, ?_, ?_, ?_, ?_, ?_, by simp only; omega, by simp only; omega, hl.1, hl.2⟩
  all_goals
    simp only
    rcases hop with rfl | rfl | rfl | rfl | rfl | rfl | rfl | rfl | rfl <;> simp [K.hasKey, K.hasNew, K.hasAt, K.hasHeld, K.hasStays, K.hasData, K.hasWant] at k1 m1 a1 s1 s2 s3 s4 s5 ⊢ <;> first | assumption | omega | (intros; assumption)
end Go.Proofs.YtfkmaiiainbcbaaGreatDoor.K
