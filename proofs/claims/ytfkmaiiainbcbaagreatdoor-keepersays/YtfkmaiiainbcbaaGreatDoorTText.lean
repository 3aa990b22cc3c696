/- What code.Text answers of a command that may be: its words, a blank between. No statement of the seat is proved here. -/
import Derived.Test.YtfkmaiiainbcbaaGreatDoorTLaid
import Derived.Deep.RegionHeld3
import Derived.Deep.DeepCutAuto
namespace Go.Proofs.YtfkmaiiainbcbaaGreatDoor.K
open Go.ChangeShapes Go.WideShapes Go.ChangeAt Go.RowKit Go.Maps

/-- Texts in a row of the call's own. -/
def OwnS (w : World) (base : Nat) (v : Value) (l : List ByteArray) : Prop := w.ownsRow base 9 1 v l.length (l.map Value.string)
theorem OwnS.later {X X' : World} {base B : Nat} {v : Value} {l : List ByteArray} (h : OwnS X base v l) (hb : Below B X X') (hB : X.heap.size ≤ B) : OwnS X' base v l := by
  refine ⟨h.1, ?_⟩
  rcases h.2 with h0 | ⟨g, cap, cur, e, h1, hg, h2⟩
  · exact .inl h0
  · have := (Array.getElem?_eq_some_iff.1 hg).1
    exact .inr ⟨g, cap, cur, e, h1, by rw [hb.block g (by omega)]; exact hg, h2⟩
theorem OwnS.block {w : World} {base : Nat} {v : Value} {l : List ByteArray} (h : OwnS w base v l) : ∀ k, v.ownBlock = some k → base ≤ k := by
  intro k hk
  rcases h.2 with ⟨rfl, _⟩ | ⟨g, cap, cur, rfl, hb, _⟩
  · cases hk
  · simp [Value.ownBlock] at hk; omega
theorem OwnS.form {w : World} {base : Nat} {v : Value} {l : List ByteArray} (h : OwnS w base v l) (hl : l ≠ []) : ∃ g c, v = .slice (some ⟨g, 0, Option.none⟩) l.length c ∧ g < w.heap.size ∧ l.length ≤ c ∧ ∀ (j : Nat) x, l[j]? = some x → w.cell? ⟨g, 0 + j, Option.none⟩ = some (.string x) := by
  rcases h.2 with ⟨_, h0⟩ | ⟨g, cap, cur, rfl, hb, hg, hnc, hcm, hs, ht⟩
  · exact absurd (List.eq_nil_of_length_eq_zero h0) hl
  · refine ⟨g, cap, rfl, (Array.getElem?_eq_some_iff.1 hg).1, hnc, fun j x hj => ?_⟩
    have hlt := (List.getElem?_eq_some_iff.1 hj).1
    have := World.ownsRow.cellAt h j (by omega)
    rw [Nat.zero_add, this]
    simp [hj]
theorem zero_str : ∃ i, Tryz.prog.info? 9 = some i ∧ i.zero = some (.string ⟨#[]⟩) ∧ i.size = 1 ∧ i.bytes = 16 := by
  have h : (Tryz.prog.info? 9).map (fun i => (i.zero, i.size, i.bytes)) = some (some (.string ⟨#[]⟩), 1, 16) := by kernel_rfl
  cases hi : Tryz.prog.info? 9 with
  | none => rw [hi] at h; cases h
  | some i => rw [hi] at h; simp at h; exact ⟨i, rfl, h.1, h.2.1, h.2.2⟩
/-- 'append' of one text that lies in a new block. -/
theorem wpList_appS {ops : Array Oper} {rest : List Oper} {o : Oper} {a : Act} {Q : Exit → Act → World → Prop} (hgd : o.guard = Option.none) (s x : Operand) (hop : o.op = .call { callee := .builtin .append, args := #[s, x], argTypes := #[114, 114] })
    (base : Nat) (u : Value) (acc : List ByteArray) (p : ByteArray) (X : World) (hs : a.eval s = u) (hx : a.eval x = .slice (some ⟨X.heap.size, 0, Option.none⟩) 1 1) (ho : OwnS X base u acc) (hl : acc.length ≤ 1000000) (hb : base ≤ X.heap.size)
    (h : ∀ v' w', OwnS w' base v' (acc ++ [p]) → Below base X w' → wpList Tryz.prog ops Q rest (a.put o.dst v') w') :
    wpList Tryz.prog ops Q (o :: rest) a (X.alloc (.cells #[.string p] 9)) := by
  obtain ⟨i0, hi, hz0, hz1, hz2⟩ := zero_str
  have hX : Below X.heap.size X (X.alloc (.cells #[.string p] 9)) := (Below.refl _ _).alloc (Nat.le_refl _) _
  have ho' := ho.later hX (Nat.le_refl _)
  refine wpList_append_own _ hgd s x 114 hop base 9 i0 _ 1 16 Tryz.underlying114 hi hz0 hz1 hz2 rfl (by decide) u acc.length _ hs ho' ⟨X.heap.size, 0, Option.none⟩ 1 1 [.string p] hx rfl
    (fun j v hj => by cases j with
      | zero => simp at hj; subst hj; simp [Addr.add, go_sem]
      | succ j => simp at hj) (fun v hv => by simp at hv; subst hv; rfl) (by simp only [maxLen]; omega) (by omega) (by have := hX.size; omega) ?_
  intro v' w' hown hgrow _
  have hO : OwnS w' base v' (acc ++ [p]) := by
    have e : (acc ++ [p]).length = acc.length + 1 := by simp
    unfold OwnS
    rw [e, List.map_append]
    exact hown
  exact h v' w' hO ((hX.mono hb).grown hgrow (by have := hX.size; omega) ho.block)
theorem OwnS.sl {w : World} {base : Nat} {v : Value} {l : List ByteArray} (h : OwnS w base v l) : ∃ a n c, v = .slice a n c := by
  rcases h.2 with ⟨rfl, _⟩ | ⟨g, cap, cur, rfl, _⟩
  · exact ⟨_, _, _, rfl⟩
  · exact ⟨_, _, _, rfl⟩
theorem two_later {a b : World} {p q : Addr} {u v : Value} (hb : Below a.heap.size a b) (h : a.cell? p = some u ∧ a.cell? q = some v) : b.cell? p = some u ∧ b.cell? q = some v := ⟨cell_later hb h.1, cell_later hb h.2⟩
theorem two_alloc {a : World} {p q : Addr} {u v : Value} {ob : Obj} (h : a.cell? p = some u ∧ a.cell? q = some v) : (a.alloc ob).cell? p = some u ∧ (a.alloc ob).cell? q = some v := ⟨cell_alloc h.1, cell_alloc h.2⟩
theorem ty_range {c : Cmd} (F : Full c) : 0 ≤ c.kind ∧ c.kind ≤ 1000000000 := by
  by_cases h : c.op = 3 ∨ c.op = 4 ∨ c.op = 6
  · have := F.ty h
    simp only [typeB, Bool.or_eq_true, beq_iff_eq] at this
    omega
  · rw [F.noty h]; omega
theorem join_len : ∀ ws : List (List UInt8), (∀ w ∈ ws, w.length ≤ 10) → (joinW ws).length ≤ 11 * ws.length
  | [], _ => by simp [joinW, Lib.join, List.intercalate]
  | [w], h => by rw [joinW_one]; have := h w (by simp); simp; omega
  | w :: x :: ws, h => by
    have h1 := h w (by simp)
    have ih := join_len (x :: ws) fun y hy => h y (by simp only [List.mem_cons] at hy ⊢; exact .inr hy)
    rw [joinW_cons]
    simp at ih ⊢
    omega
theorem dec_len {n : Int} (h : n ≤ 1000000000) : (decI n).length ≤ 10 := dec_len10 _ (by omega)
theorem data_len {s : ByteArray} (h : s.size ≤ 8) : (dataL s).length ≤ 10 := by
  unfold dataL dataW
  split
  · decide
  · rw [Array.length_toList]; exact Nat.le_trans h (by decide)
theorem txt_len {c : Cmd} (F : Full c) : (txtC c).length ≤ 55 := by
  have hty := ty_range F
  have h1 := dec_len (n := c.who) (by have := F.who4; omega)
  have h2 := dec_len (n := c.key) (by have := F.key9; omega)
  have h3 := dec_len (n := c.new) (by have := F.new9; omega)
  have h4 := dec_len (n := c.kind) hty.2
  have h5 := dec_len (n := c.at') (by have := F.at7; omega)
  have h6 : (staysL c.st).length ≤ 10 := by cases c.st <;> decide
  have h7 := data_len F.da8
  have h8 := data_len F.wa8
  have h9 : (wordOf c.op).data.toList.length ≤ 10 := by
    have hop : c.op = 1 ∨ c.op = 2 ∨ c.op = 3 ∨ c.op = 4 ∨ c.op = 5 ∨ c.op = 6 ∨ c.op = 7 ∨ c.op = 8 ∨ c.op = 9 := by have := F.op1; have := F.op9; omega
    rcases hop with e | e | e | e | e | e | e | e | e <;> rw [e] <;> decide
  have hw : ∀ w ∈ wordsC c, w.length ≤ 10 := by
    unfold wordsC partsC
    repeat' split
    all_goals
      intro w hm
      simp only [List.mem_cons, List.not_mem_nil, or_false] at hm
      rcases hm with rfl | rfl | rfl | rfl | rfl | rfl <;> assumption
  have hp : (partsC c).length ≤ 3 := by
    unfold partsC
    repeat' split
    all_goals simp
  have hl : (wordsC c).length ≤ 5 := by unfold wordsC; simp; omega
  have := join_len _ hw
  unfold txtC
  omega
def addIf (b : Bool) (xs : List ByteArray) (x : ByteArray) : List ByteArray := if b then xs ++ [x] else xs
def decB (n : Int) : ByteArray := ⟨(decI n).toArray⟩
def staysT (b : Bool) : ByteArray := if b then ⟨#[115, 116, 97, 121, 115]⟩ else ⟨#[103, 111, 101, 115]⟩
theorem staysT_any (b : Bool) (w : World) : Calls Tryz.prog 66 #[.bool b] w fun e w' => e = .returned (.string (staysT b)) ∧ w' = w := staysText_any b w
theorem addIf_len (b : Bool) (xs : List ByteArray) (x : ByteArray) : (addIf b xs x).length ≤ xs.length + 1 := by unfold addIf; split <;> simp
theorem itoa_int (n : Int) (h0 : 0 ≤ n) (h1 : n ≤ 1000000000) (w : World) (hL : Laid w) : Calls Tryz.prog 55 #[.int .i64 n] w fun e w' => e = .returned (.string (decB n)) ∧ Below w.heap.size w w' := by
  have := itoa_any n.toNat (by omega) w hL
  rw [show ((n.toNat : Nat) : Int) = n by omega] at this
  exact this
/-- A command's words, as they are laid one behind the other. -/
def wordsT (op who key new ty at' : Int) (st : Bool) (d wt : ByteArray) : List ByteArray :=
  addIf (hasWant op) (addIf (hasData op) (addIf (hasStays op) (addIf (hasAt op) (addIf (hasHeld op) (addIf (hasNew op) (addIf (hasKey op) [decB who, wordOf op] (decB key)) (decB new)) (decB ty)) (decB at')) (staysT st)) (dataW d)) (dataW wt)
theorem words_eq {c : Cmd} (h : Full c) : (wordsT c.op c.who c.key c.new c.kind c.at' c.st c.da c.wa).map (·.data.toList) = wordsC c := by
  have h1 := h.op1
  have h9 := h.op9
  obtain ⟨op, who, key, new, kind, at', st, da, wa⟩ := c
  simp only at h1 h9 ⊢
  have hop : op = 1 ∨ op = 2 ∨ op = 3 ∨ op = 4 ∨ op = 5 ∨ op = 6 ∨ op = 7 ∨ op = 8 ∨ op = 9 := by omega
  have hs : (staysT st).data.toList = staysL st := by cases st <;> rfl
  rcases hop with rfl | rfl | rfl | rfl | rfl | rfl | rfl | rfl | rfl <;> simp [wordsT, addIf, hasKey, hasNew, hasHeld, hasAt, hasStays, hasData, hasWant, wordsC, partsC, decB, dataL, hs]

def CB (X : World) (N : Nat) (op who key new ty at' : Int) (st : Bool) (d wt : ByteArray) : Prop := X.heap[N]? = some (.cells #[.int .i64 op, .int .i64 who, .int .i64 key, .int .i64 new, .int .i64 ty, .int .i64 at', .bool st, .string d, .string wt] 40 (0, 0))
theorem CB.later {X X' : World} {N M : Nat} {op who key new ty at' : Int} {st : Bool} {d wt : ByteArray} (h : CB X N op who key new ty at' st d wt) (hb : Below M X X') (hM : N < M) : CB X' N op who key new ty at' st d wt := by unfold CB; rw [hb.block N hM]; exact h
theorem CB.lt {X : World} {N : Nat} {op who key new ty at' : Int} {st : Bool} {d wt : ByteArray} (h : CB X N op who key new ty at' st d wt) : N < X.heap.size := (Array.getElem?_eq_some_iff.1 h).1
theorem k_start {a : World} {p : Addr} {v : Value} (h : a.cell? p = some v) : a.drew.cell? p = some v := h
theorem k_startA {a : World} {p : Addr} {v : Value} {ob : Obj} (h : a.cell? p = some v) : (a.alloc ob).drew.cell? p = some v := cell_later (((Below.refl _ _).alloc (Nat.le_refl _) _).drew) h
theorem k_alloc {a : World} {p : Addr} {v : Value} {ob : Obj} (h : a.cell? p = some v) : (a.alloc ob).cell? p = some v := cell_alloc h
theorem k_B {a : World} {N i : Nat} {v : Value} {ob ob2 : Obj} (hs : N < a.heap.size) (h : (a.alloc ob).cell? ⟨N, i, Option.none⟩ = some v) : (a.alloc ob2).cell? ⟨N, i, Option.none⟩ = some v := by
  have e1 := (Below.refl a.heap.size a).alloc (Nat.le_refl _) ob
  have e2 := (Below.refl a.heap.size a).alloc (Nat.le_refl _) ob2
  exact ((e2.cell (p := ⟨N, i, Option.none⟩) hs).trans (e1.cell (p := ⟨N, i, Option.none⟩) hs).symm).trans h
theorem k_set {a : World} {N M i j : Nat} {u v : Value} (hne : N ≠ M) (h : a.cell? ⟨N, i, Option.none⟩ = some v) : (a.setCell ⟨M, j, Option.none⟩ u).cell? ⟨N, i, Option.none⟩ = some v :=
  (World.cell?_of_block (a := ⟨N, i, Option.none⟩) (Below.heap_setCell _ _ _ _ hne)).trans h
theorem k_set8 {a : World} {N M i : Nat} {v u0 u1 u2 u3 u4 u5 u6 u7 : Value} (hne : N ≠ M) (h : a.cell? ⟨N, i, Option.none⟩ = some v) :
    ((((((((a.setCell ⟨M, 0, Option.none⟩ u0).setCell ⟨M, 1, Option.none⟩ u1).setCell ⟨M, 2, Option.none⟩ u2).setCell ⟨M, 3, Option.none⟩ u3).setCell ⟨M, 4, Option.none⟩ u4).setCell ⟨M, 5, Option.none⟩ u5).setCell ⟨M, 6, Option.none⟩ u6).setCell ⟨M, 7, Option.none⟩ u7).cell? ⟨N, i, Option.none⟩ = some v :=
  k_set hne (k_set hne (k_set hne (k_set hne (k_set hne (k_set hne (k_set hne (k_set hne h)))))))

end Go.Proofs.YtfkmaiiainbcbaaGreatDoor.K
