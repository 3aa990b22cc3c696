/- What code.guess answers, for every text. No statement of the seat is proved here. -/
import Derived.Test.YtfkmaiiainbcbaaGreatDoorTAt
import Derived.Test.YtfkmaiiainbcbaaGreatDoorTSplit
namespace Go.Proofs.YtfkmaiiainbcbaaGreatDoor.K
open Go.ChangeShapes Go.WideShapes Go.ChangeAt Go.RowKit Go.Maps

/-- What is left behind the first words, and the next word there. -/
def rsW : Nat → List UInt8 → List UInt8
  | 0, s => s
  | n + 1, s => (Lib.cut (rsW n s) [32]).2.1
def nxW (n : Nat) (s : List UInt8) : List UInt8 := (Lib.cut (rsW n s) [32]).1
theorem cut1_len (b : UInt8) : ∀ s : List UInt8, (cut1 b s).1.length ≤ s.length ∧ (cut1 b s).2.1.length ≤ s.length
  | [] => ⟨Nat.le_refl _, Nat.le_refl _⟩
  | c :: s => by
    have := cut1_len b s
    unfold cut1
    split
    · simp
    · simp; omega
theorem rs_len : ∀ (n : Nat) (s : List UInt8), (rsW n s).length ≤ s.length
  | 0, _ => Nat.le_refl _
  | n + 1, s => by
    have := rs_len n s
    have h := (cut1_len 32 (rsW n s)).2
    rw [← cut_eq] at h
    show (Lib.cut (rsW n s) [32]).2.1.length ≤ _
    omega
theorem nx_len (n : Nat) (s : List UInt8) : (nxW n s).length ≤ s.length := by
  have := rs_len n s
  have h := (cut1_len 32 (rsW n s)).1
  rw [← cut_eq] at h
  show (Lib.cut (rsW n s) [32]).1.length ≤ _
  omega
def gC (o : Int) (s : List UInt8) : Cmd :=
  if o = 1 then ⟨1, numOf ⟨(nxW 0 s).toArray⟩, (numOf ⟨(nxW 2 s).toArray⟩), (numOf ⟨(nxW 3 s).toArray⟩), 0, 0, (nxW 4 s == [115, 116, 97, 121, 115]), ⟨#[]⟩, ⟨#[]⟩⟩
  else if o = 2 then ⟨2, numOf ⟨(nxW 0 s).toArray⟩, (numOf ⟨(nxW 2 s).toArray⟩), (numOf ⟨(nxW 3 s).toArray⟩), 0, 0, (nxW 4 s == [115, 116, 97, 121, 115]), ⟨#[]⟩, ⟨#[]⟩⟩
  else if o = 3 then ⟨3, numOf ⟨(nxW 0 s).toArray⟩, (numOf ⟨(nxW 2 s).toArray⟩), 0, (numOf ⟨(nxW 3 s).toArray⟩), 0, false, ⟨#[]⟩, ⟨#[]⟩⟩
  else if o = 4 then ⟨4, numOf ⟨(nxW 0 s).toArray⟩, (numOf ⟨(nxW 2 s).toArray⟩), 0, (numOf ⟨(nxW 3 s).toArray⟩), 0, false, ⟨#[]⟩, ⟨#[]⟩⟩
  else if o = 5 then ⟨5, numOf ⟨(nxW 0 s).toArray⟩, (numOf ⟨(nxW 2 s).toArray⟩), 0, 0, 0, false, ⟨#[]⟩, ⟨#[]⟩⟩
  else if o = 6 then ⟨6, numOf ⟨(nxW 0 s).toArray⟩, (numOf ⟨(nxW 2 s).toArray⟩), (numOf ⟨(nxW 3 s).toArray⟩), (numOf ⟨(nxW 4 s).toArray⟩), 0, false, ⟨#[]⟩, ⟨#[]⟩⟩
  else if o = 7 then ⟨7, numOf ⟨(nxW 0 s).toArray⟩, 0, 0, 0, (numOf ⟨(nxW 2 s).toArray⟩), false, ⟨#[]⟩, ⟨#[]⟩⟩
  else if o = 8 then ⟨8, numOf ⟨(nxW 0 s).toArray⟩, 0, 0, 0, (numOf ⟨(nxW 2 s).toArray⟩), false, (undataW ⟨(nxW 3 s).toArray⟩), ⟨#[]⟩⟩
  else if o = 9 then ⟨9, numOf ⟨(nxW 0 s).toArray⟩, 0, 0, 0, (numOf ⟨(nxW 2 s).toArray⟩), false, (undataW ⟨(nxW 3 s).toArray⟩), (undataW ⟨(nxW 4 s).toArray⟩)⟩
  else ⟨0, numOf ⟨(nxW 0 s).toArray⟩, 0, 0, 0, 0, false, ⟨#[]⟩, ⟨#[]⟩⟩

theorem sz_arr (l : List UInt8) : (⟨l.toArray⟩ : ByteArray).size = l.length := by simp [ByteArray.size]

theorem At.drewN {W : World} {b : Nat} {l : List Value} {T : TypeId} (h : At W b l T) (q : Nat) : At (W.drewN q) b l T := h
theorem two (w : World) (x y : Obj) : ∃ X, X = (w.alloc x).alloc y ∧ X.heap[w.heap.size]? = some x ∧ X.heap[w.heap.size + 1]? = some y ∧ Below w.heap.size w X ∧ X.heap.size = w.heap.size + 2 := by
  refine ⟨_, rfl, ?_, ?_, ((Below.refl _ _).alloc (Nat.le_refl _) _).alloc (by simp) _, by simp⟩
  · rw [Below.heap_alloc _ _ _ (by simp)]; exact heap_alloc_new w _
  · simpa using heap_alloc_new (w.alloc x) y
theorem new_cmd (w : World) (vs : List Value) (hv : vs.length = 9) (h1 : ∀ v ∈ vs, v.oneCell' = true) : ∃ Y, (Instr.storeAt 40 (.pointer (some ⟨w.heap.size, 0, Option.none⟩)) (.agg vs.toArray)).run Tryz.prog (w.alloc (.cells (cmdL 0 0 0 0 0 0 false ⟨#[]⟩ ⟨#[]⟩).toArray 40)) = .ok () Y ∧
    At Y w.heap.size vs 40 ∧ Below w.heap.size w Y ∧ Y.heap.size = w.heap.size + 1 := by
  have A : At (w.alloc (.cells (cmdL 0 0 0 0 0 0 false ⟨#[]⟩ ⟨#[]⟩).toArray 40)) w.heap.size (cmdL 0 0 0 0 0 0 false ⟨#[]⟩ ⟨#[]⟩) 40 := heap_alloc_new w _
  refine ⟨_, store_cmd A rfl hv h1, ?_, below_setCells (Nat.le_refl _) _ _ _ ((Below.refl _ _).alloc (Nat.le_refl _) _), ?_⟩
  · have := At.set vs 0 _ _ A
    rwa [setL_whole _ _ (by rw [hv]; rfl)] at this
  · rw [size_setCells]; simp
theorem op_range {s : ByteArray} {o : Int} (h : OpIs s o) : 0 ≤ o ∧ o ≤ 9 := by
  rcases h with ⟨h1, h9, _⟩ | ⟨rfl, _⟩ <;> omega

end Go.Proofs.YtfkmaiiainbcbaaGreatDoor.K
