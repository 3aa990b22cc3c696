/- What code.Text answers of a command that may be: its words, a blank between. No statement of the seat is proved here. -/
import Derived.Test.YthkckogbjdbnnaaDoorTLaid
import Derived.Deep.RegionHeld3
import Derived.Deep.DeepCutAuto
namespace Go.Proofs.YthkckogbjdbnnaaDoor.K
open Go.ChangeShapes Go.WideShapes Go.ChangeAt Go.RowKit Go.Maps

/-- Texts in a row of the call's own. -/
def OwnS (w : World) (base : Nat) (v : Value) (l : List ByteArray) : Prop := w.ownsRow base 9 1 v l.length (l.map Value.string)
theorem OwnS.later {X X' : World} {base B : Nat} {v : Value} {l : List ByteArray} (h : OwnS X base v l) (hb : Below B X X') (hB : X.heap.size ≤ B) : OwnS X' base v l := by
  refine ⟨h.1, ?_⟩
  rcases h.2 with h0 | ⟨g, cap, cur, e, h1, hg, h2⟩
  · exact .inl h0
  · have := (Array.getElem?_eq_some_iff.1 hg).1
    exact .inr ⟨g, cap, cur, e, h1, by rw [hb.block g (by omega)]; exact hg, h2⟩
theorem OwnS.block {w : World} {base : Nat} {v : Value} {l : List ByteArray} (h : OwnS w base v l) : ∀ k, v.ownBlock = some k → base ≤ k := by
  intro k hk
  rcases h.2 with ⟨rfl, _⟩ | ⟨g, cap, cur, rfl, hb, _⟩
  · cases hk
  · simp [Value.ownBlock] at hk; omega
theorem OwnS.form {w : World} {base : Nat} {v : Value} {l : List ByteArray} (h : OwnS w base v l) (hl : l ≠ []) : ∃ g c, v = .slice (some ⟨g, 0, Option.none⟩) l.length c ∧ g < w.heap.size ∧ l.length ≤ c ∧ ∀ (j : Nat) x, l[j]? = some x → w.cell? ⟨g, 0 + j, Option.none⟩ = some (.string x) := by
  rcases h.2 with ⟨_, h0⟩ | ⟨g, cap, cur, rfl, hb, hg, hnc, hcm, hs, ht⟩
  · exact absurd (List.eq_nil_of_length_eq_zero h0) hl
  · refine ⟨g, cap, rfl, (Array.getElem?_eq_some_iff.1 hg).1, hnc, fun j x hj => ?_⟩
    have hlt := (List.getElem?_eq_some_iff.1 hj).1
    have := World.ownsRow.cellAt h j (by omega)
    rw [Nat.zero_add, this]
    simp [hj]
theorem zero_str : ∃ i, Tryd.prog.info? 9 = some i ∧ i.zero = some (.string ⟨#[]⟩) ∧ i.size = 1 ∧ i.bytes = 16 := by
  have h : (Tryd.prog.info? 9).map (fun i => (i.zero, i.size, i.bytes)) = some (some (.string ⟨#[]⟩), 1, 16) := by kernel_rfl
  cases hi : Tryd.prog.info? 9 with
  | none => rw [hi] at h; cases h
  | some i => rw [hi] at h; simp at h; exact ⟨i, rfl, h.1, h.2.1, h.2.2⟩
/-- 'append' of one text that lies in a new block. -/
theorem wpList_appS {ops : Array Oper} {rest : List Oper} {o : Oper} {a : Act} {Q : Exit → Act → World → Prop} (hgd : o.guard = Option.none) (s x : Operand) (hop : o.op = .call { callee := .builtin .append, args := #[s, x], argTypes := #[63, 63] })
    (base : Nat) (u : Value) (acc : List ByteArray) (p : ByteArray) (X : World) (hs : a.eval s = u) (hx : a.eval x = .slice (some ⟨X.heap.size, 0, Option.none⟩) 1 1) (ho : OwnS X base u acc) (hl : acc.length ≤ 1000000) (hb : base ≤ X.heap.size)
    (h : ∀ v' w', OwnS w' base v' (acc ++ [p]) → Below base X w' → wpList Tryd.prog ops Q rest (a.put o.dst v') w') :
    wpList Tryd.prog ops Q (o :: rest) a (X.alloc (.cells #[.string p] 9)) := by
  obtain ⟨i0, hi, hz0, hz1, hz2⟩ := zero_str
  have hX : Below X.heap.size X (X.alloc (.cells #[.string p] 9)) := (Below.refl _ _).alloc (Nat.le_refl _) _
  have ho' := ho.later hX (Nat.le_refl _)
  refine wpList_append_own _ hgd s x 63 hop base 9 i0 _ 1 16 Tryd.underlying63 hi hz0 hz1 hz2 rfl (by decide) u acc.length _ hs ho' ⟨X.heap.size, 0, Option.none⟩ 1 1 [.string p] hx rfl
    (fun j v hj => by cases j with
      | zero => simp at hj; subst hj; simp [Addr.add, go_sem]
      | succ j => simp at hj) (fun v hv => by simp at hv; subst hv; rfl) (by simp only [maxLen]; omega) (by omega) (by have := hX.size; omega) ?_
  intro v' w' hown hgrow _
  have hO : OwnS w' base v' (acc ++ [p]) := by
    have e : (acc ++ [p]).length = acc.length + 1 := by simp
    unfold OwnS
    rw [e, List.map_append]
    exact hown
  exact h v' w' hO ((hX.mono hb).grown hgrow (by have := hX.size; omega) ho.block)
theorem OwnS.sl {w : World} {base : Nat} {v : Value} {l : List ByteArray} (h : OwnS w base v l) : ∃ a n c, v = .slice a n c := by
  rcases h.2 with ⟨rfl, _⟩ | ⟨g, cap, cur, rfl, _⟩
  · exact ⟨_, _, _, rfl⟩
  · exact ⟨_, _, _, rfl⟩
theorem two_later {a b : World} {p q : Addr} {u v : Value} (hb : Below a.heap.size a b) (h : a.cell? p = some u ∧ a.cell? q = some v) : b.cell? p = some u ∧ b.cell? q = some v := ⟨cell_later hb h.1, cell_later hb h.2⟩
theorem two_alloc {a : World} {p q : Addr} {u v : Value} {ob : Obj} (h : a.cell? p = some u ∧ a.cell? q = some v) : (a.alloc ob).cell? p = some u ∧ (a.alloc ob).cell? q = some v := ⟨cell_alloc h.1, cell_alloc h.2⟩
theorem ty_range {c : Cmd} (F : Full c) : 0 ≤ c.kind ∧ c.kind ≤ 1000000000 := by
  by_cases h : c.op = 3 ∨ c.op = 4 ∨ c.op = 6
  · have := F.ty h
    simp only [typeB, Bool.or_eq_true, beq_iff_eq] at this
    omega
  · rw [F.noty h]; omega
theorem join_len : ∀ ws : List (List UInt8), (∀ w ∈ ws, w.length ≤ 10) → (joinW ws).length ≤ 11 * ws.length
  | [], _ => by simp [joinW, Lib.join, List.intercalate]
  | [w], h => by rw [joinW_one]; have := h w (by simp); simp; omega
  | w :: x :: ws, h => by
    have h1 := h w (by simp)
    have ih := join_len (x :: ws) fun y hy => h y (by simp only [List.mem_cons] at hy ⊢; exact .inr hy)
    rw [joinW_cons]
    simp at ih ⊢
    omega
theorem dec_len {n : Int} (h : n ≤ 1000000000) : (decI n).length ≤ 10 := dec_len10 _ (by omega)
theorem data_len {s : ByteArray} (h : s.size ≤ 8) : (dataL s).length ≤ 10 := by
  unfold dataL dataW
  split
  · decide
  · rw [Array.length_toList]; exact Nat.le_trans h (by decide)
theorem txt_len {c : Cmd} (F : Full c) : (txtC c).length ≤ 55 := by
  have hty := ty_range F
  have h1 := dec_len (n := c.who) (by have := F.who4; omega)
  have h2 := dec_len (n := c.key) (by have := F.key9; omega)
  have h3 := dec_len (n := c.new) (by have := F.new9; omega)
  have h4 := dec_len (n := c.kind) hty.2
  have h5 := dec_len (n := c.at') (by have := F.at7; omega)
  have h6 : (staysL c.st).length ≤ 10 := by cases c.st <;> decide
  have h7 := data_len F.da8
  have h8 := data_len F.wa8
  have h9 : (wordOf c.op).data.toList.length ≤ 10 := by
    have hop : c.op = 1 ∨ c.op = 2 ∨ c.op = 3 ∨ c.op = 4 ∨ c.op = 5 ∨ c.op = 6 ∨ c.op = 7 ∨ c.op = 8 ∨ c.op = 9 := by have := F.op1; have := F.op9; omega
    rcases hop with e | e | e | e | e | e | e | e | e <;> rw [e] <;> decide
  have hw : ∀ w ∈ wordsC c, w.length ≤ 10 := by
    unfold wordsC partsC
    repeat' split
    all_goals
      intro w hm
      simp only [List.mem_cons, List.not_mem_nil, or_false] at hm
      rcases hm with rfl | rfl | rfl | rfl | rfl | rfl <;> assumption
  have hp : (partsC c).length ≤ 3 := by
    unfold partsC
    repeat' split
    all_goals simp
  have hl : (wordsC c).length ≤ 5 := by unfold wordsC; simp; omega
  have := join_len _ hw
  unfold txtC
  omega
def addIf (b : Bool) (xs : List ByteArray) (x : ByteArray) : List ByteArray := if b then xs ++ [x] else xs
def decB (n : Int) : ByteArray := ⟨(decI n).toArray⟩
def staysT (b : Bool) : ByteArray := if b then ⟨#[115, 116, 97, 121, 115]⟩ else ⟨#[103, 111, 101, 115]⟩
theorem staysT_any (b : Bool) (w : World) : Calls Tryd.prog 33 #[.bool b] w fun e w' => e = .returned (.string (staysT b)) ∧ w' = w := staysText_any b w
theorem addIf_len (b : Bool) (xs : List ByteArray) (x : ByteArray) : (addIf b xs x).length ≤ xs.length + 1 := by unfold addIf; split <;> simp
theorem itoa_int (n : Int) (h0 : 0 ≤ n) (h1 : n ≤ 1000000000) (w : World) (hL : Laid w) : Calls Tryd.prog 32 #[.int .i64 n] w fun e w' => e = .returned (.string (decB n)) ∧ Below w.heap.size w w' := by
  have := itoa_any n.toNat (by omega) w hL
  rw [show ((n.toNat : Nat) : Int) = n by omega] at this
  exact this
/-- A command's words, as they are laid one behind the other. -/
def wordsT (op who key new ty at' : Int) (st : Bool) (d wt : ByteArray) : List ByteArray :=
  addIf (hasWant op) (addIf (hasData op) (addIf (hasStays op) (addIf (hasAt op) (addIf (hasHeld op) (addIf (hasNew op) (addIf (hasKey op) [decB who, wordOf op] (decB key)) (decB new)) (decB ty)) (decB at')) (staysT st)) (dataW d)) (dataW wt)
theorem words_eq {c : Cmd} (h : Full c) : (wordsT c.op c.who c.key c.new c.kind c.at' c.st c.da c.wa).map (·.data.toList) = wordsC c := by
  have h1 := h.op1
  have h9 := h.op9
  obtain ⟨op, who, key, new, kind, at', st, da, wa⟩ := c
  simp only at h1 h9 ⊢
  have hop : op = 1 ∨ op = 2 ∨ op = 3 ∨ op = 4 ∨ op = 5 ∨ op = 6 ∨ op = 7 ∨ op = 8 ∨ op = 9 := by omega
  have hs : (staysT st).data.toList = staysL st := by cases st <;> rfl
  rcases hop with rfl | rfl | rfl | rfl | rfl | rfl | rfl | rfl | rfl <;> simp [wordsT, addIf, hasKey, hasNew, hasHeld, hasAt, hasStays, hasData, hasWant, wordsC, partsC, decB, dataL, hs]

def KB (X : World) (B : Nat) (op : Int) : Prop := X.heap[B]? = some (.cells #[.string (wordOf op), .bool (hasKey op), .bool (hasNew op), .bool (hasHeld op), .bool (hasAt op), .bool (hasStays op), .bool (hasData op), .bool (hasWant op)] 59 (0, 0))
def CB (X : World) (N : Nat) (op who key new ty at' : Int) (st : Bool) (d wt : ByteArray) : Prop := X.heap[N]? = some (.cells #[.int .i64 op, .int .i64 who, .int .i64 key, .int .i64 new, .int .i64 ty, .int .i64 at', .bool st, .string d, .string wt] 23 (0, 0))
theorem KB.later {X X' : World} {B M : Nat} {op : Int} (h : KB X B op) (hb : Below M X X') (hM : B < M) : KB X' B op := by unfold KB; rw [hb.block B hM]; exact h
theorem CB.later {X X' : World} {N M : Nat} {op who key new ty at' : Int} {st : Bool} {d wt : ByteArray} (h : CB X N op who key new ty at' st d wt) (hb : Below M X X') (hM : N < M) : CB X' N op who key new ty at' st d wt := by unfold CB; rw [hb.block N hM]; exact h
theorem KB.lt {X : World} {B : Nat} {op : Int} (h : KB X B op) : B < X.heap.size := (Array.getElem?_eq_some_iff.1 h).1
theorem CB.lt {X : World} {N : Nat} {op who key new ty at' : Int} {st : Bool} {d wt : ByteArray} (h : CB X N op who key new ty at' st d wt) : N < X.heap.size := (Array.getElem?_eq_some_iff.1 h).1
theorem zero_block {A B : World} (hb : Below (A.alloc (.cells #[.string ⟨#[]⟩, .bool false, .bool false, .bool false, .bool false, .bool false, .bool false, .bool false] 59)).drew.heap.size (A.alloc (.cells #[.string ⟨#[]⟩, .bool false, .bool false, .bool false, .bool false, .bool false, .bool false, .bool false] 59)).drew B) : B.heap[A.heap.size]? = some (.cells #[.string ⟨#[]⟩, .bool false, .bool false, .bool false, .bool false, .bool false, .bool false, .bool false] 59 (0, 0)) := by
  rw [hb.block A.heap.size (by simp)]; exact heap_alloc_new A _
theorem zero_block2 {A B : World} (hb : Below (A.drew.alloc (.cells #[.string ⟨#[]⟩, .bool false, .bool false, .bool false, .bool false, .bool false, .bool false, .bool false] 59)).heap.size (A.drew.alloc (.cells #[.string ⟨#[]⟩, .bool false, .bool false, .bool false, .bool false, .bool false, .bool false, .bool false] 59)) B) : B.heap[A.heap.size]? = some (.cells #[.string ⟨#[]⟩, .bool false, .bool false, .bool false, .bool false, .bool false, .bool false, .bool false] 59 (0, 0)) := by
  rw [hb.block A.heap.size (by simp)]; exact heap_alloc_new A.drew _
theorem k_start {a : World} {p : Addr} {v : Value} (h : a.cell? p = some v) : a.drew.cell? p = some v := h
theorem k_startA {a : World} {p : Addr} {v : Value} {ob : Obj} (h : a.cell? p = some v) : (a.alloc ob).drew.cell? p = some v := cell_later (((Below.refl _ _).alloc (Nat.le_refl _) _).drew) h
theorem k_alloc {a : World} {p : Addr} {v : Value} {ob : Obj} (h : a.cell? p = some v) : (a.alloc ob).cell? p = some v := cell_alloc h
theorem k_B {a : World} {N i : Nat} {v : Value} {ob ob2 : Obj} (hs : N < a.heap.size) (h : (a.alloc ob).cell? ⟨N, i, Option.none⟩ = some v) : (a.alloc ob2).cell? ⟨N, i, Option.none⟩ = some v := by
  have e1 := (Below.refl a.heap.size a).alloc (Nat.le_refl _) ob
  have e2 := (Below.refl a.heap.size a).alloc (Nat.le_refl _) ob2
  exact ((e2.cell (p := ⟨N, i, Option.none⟩) hs).trans (e1.cell (p := ⟨N, i, Option.none⟩) hs).symm).trans h
theorem k_set {a : World} {N M i j : Nat} {u v : Value} (hne : N ≠ M) (h : a.cell? ⟨N, i, Option.none⟩ = some v) : (a.setCell ⟨M, j, Option.none⟩ u).cell? ⟨N, i, Option.none⟩ = some v :=
  (World.cell?_of_block (a := ⟨N, i, Option.none⟩) (Below.heap_setCell _ _ _ _ hne)).trans h
theorem k_set8 {a : World} {N M i : Nat} {v u0 u1 u2 u3 u4 u5 u6 u7 : Value} (hne : N ≠ M) (h : a.cell? ⟨N, i, Option.none⟩ = some v) :
    ((((((((a.setCell ⟨M, 0, Option.none⟩ u0).setCell ⟨M, 1, Option.none⟩ u1).setCell ⟨M, 2, Option.none⟩ u2).setCell ⟨M, 3, Option.none⟩ u3).setCell ⟨M, 4, Option.none⟩ u4).setCell ⟨M, 5, Option.none⟩ u5).setCell ⟨M, 6, Option.none⟩ u6).setCell ⟨M, 7, Option.none⟩ u7).cell? ⟨N, i, Option.none⟩ = some v :=
  k_set hne (k_set hne (k_set hne (k_set hne (k_set hne (k_set hne (k_set hne (k_set hne h)))))))

set_option maxRecDepth 100000 in
set_option maxHeartbeats 8000000 in
theorem text_ok (op who key new ty at' : Int) (st : Bool) (d wt : ByteArray) (hop : (Lit.int .i64 op).wf = true) (w : World) (hL : Laid w) (hf : cmdF op who key new ty at' st d wt = 0) :
    Calls Tryd.prog 9 #[cmdA op who key new ty at' st d wt] w fun e w' => e = .returned (.tuple #[.string ⟨(txtC ⟨op, who, key, new, ty, at', st, d, wt⟩).toArray⟩, .nilIface]) ∧ Below w.heap.size w w' := by
  have F : Full ⟨op, who, key, new, ty, at', st, d, wt⟩ := full_of hf
  have hd : d.size ≤ 9223372036854775807 := by have := F.da8; simp only at this; omega
  have hwt : wt.size ≤ 9223372036854775807 := by have := F.wa8; simp only at this; omega
  obtain ⟨X, hX⟩ : ∃ X, X = w.alloc (.cells #[.int .i64 op, .int .i64 who, .int .i64 key, .int .i64 new, .int .i64 ty, .int .i64 at', .bool st, .string d, .string wt] 23) := ⟨_, rfl⟩
  have bX : Below w.heap.size w X := by rw [hX]; exact (Below.refl _ _).alloc (Nat.le_refl _) _
  have C0 : CB X w.heap.size op who key new ty at' st d wt := by rw [hX]; exact heap_alloc_new w _
  go_enter Tryd.func9, Tryd.ntmps9
  go_wp2_with fail
  rw [← hX]
  clear hX
  refine (check_any op who key new ty at' st d wt hop hd hwt X).mono ?_
  rintro e w1 ⟨rfl, hb1⟩
  rw [hf, errV_ok]
  have bw := bX.trans (hb1.mono bX.size)
  have C := C0.later hb1 C0.lt
  clear C0 hb1 bX hf
  have hCl := C.lt
  obtain ⟨c0, c1, c2, c3, c4, c5, c6, c7, c8⟩ := cells9 C
  go_upto_region 4 with fail
  go_cut [5] (fun s5 wx => ∃ B : Nat, s5 = .pointer (some ⟨B, 0, Option.none⟩) ∧ KB wx B op ∧ Below w1.heap.size w1 wx ∧ w1.heap.size ≤ B)
  case first =>
    go_region_held3 (fun w' => w'.cell? ⟨w.heap.size, 0, Option.none⟩ = some (.int .i64 op))
      ((first | with_reducible assumption | with_reducible exact k_start c0 | with_reducible exact k_startA c0 | with_reducible exact cell_later (by assumption) (by assumption) | with_reducible exact k_alloc (by assumption) | with_reducible exact k_B (by have h1 := hb2.size; simp at h1; omega) (by assumption) | with_reducible exact k_set8 (by omega) (by assumption)))
      (first
        | (go_at_call 31; with_reducible refine (kinds_at w1.heap.size _ ?_).mono ?_; (focus (simp; done)); rintro e w2 ⟨rfl, hown, hb2⟩; have hl0 := look_kind hown op hop; have hl1 := fun o => look_kind (hown.alloc o) op hop)
        | (go_at_call 31; with_reducible refine (kinds_at (w1.heap.size + 1) _ ?_).mono ?_; (focus (simp; done)); rintro e w2 ⟨rfl, hown, hb2⟩; have hl0 := look_kind hown op hop; have hl1 := fun o => look_kind (hown.alloc o) op hop; (first | with_reducible have hM := zero_block hb2 | with_reducible have hM := zero_block2 hb2); obtain ⟨⟨k0, k1, k2, k3, k4, k5, k6, k7⟩, f0, f1, f2, f3, f4, f5, f6, f7⟩ := cells8 hM))
    all_goals go_wp2_with fail
    all_goals go_meet
    · have hb4 : Below w1.heap.size w1 w2 := (Below.refl _ _).drew.trans hb2
      exact ⟨w2.heap.size, rfl, heap_alloc_new w2 _, hb4.alloc hb4.size _, hb4.size⟩
    · have hb4 : Below w1.heap.size w1 w2 := (Below.refl _ _).drew.trans hb2
      exact ⟨w2.heap.size, rfl, heap_alloc_new w2 _, hb4.alloc hb4.size _, hb4.size⟩
    · exact ⟨w1.heap.size, rfl, Z8.block _ _ _ _ _ _ _ _ hM, Z8.below _ _ _ _ _ _ _ _ (below_on w1 _ hb2) (Nat.le_refl _), Nat.le_refl _⟩
  case rest =>
  obtain ⟨B, rfl, KBx, hbn, hB⟩ := hcut
  obtain ⟨w2, rfl⟩ : ∃ W, W = wc := ⟨_, rfl⟩
  clear c0 c1 c2 c3 c4 c5 c6 c7 c8
  have bw := bw.trans (hbn.mono bw.size)
  have C := C.later hbn hCl
  have hNB : w.heap.size < B := by omega
  have hBl := KBx.lt
  clear hbn
  have HLd : Hid (Laid w2) := hL.later bw
  have hw0 : 0 ≤ who := by have := F.who1; simp only at this; omega
  have hw9 : who ≤ 1000000000 := by have := F.who4; simp only at this; omega
  obtain ⟨c0, c1, c2, c3, c4, c5, c6, c7, c8⟩ := cells9 C
  obtain ⟨⟨k0, k1, k2, k3, k4, k5, k6, k7⟩, _⟩ := cells8 KBx
  go_upto_region 5 with fail
  go_cut [6] (fun v wx => ∃ a n c, v = .slice a n c ∧ OwnS wx (B + 1) (.slice a n c) [decB who, wordOf op] ∧ Below (B + 1) w2 wx)
  case first =>
    go_region_held3 (fun w' => w'.cell? ⟨w.heap.size, 1, Option.none⟩ = some (.int .i64 who) ∧ w'.cell? ⟨B, 0, Option.none⟩ = some (.string (wordOf op)))
      ((first | with_reducible assumption | with_reducible exact And.intro (k_start c1) (k_start k0) | with_reducible exact two_later (by assumption) (by assumption) | with_reducible exact two_alloc (by assumption)))
      ((go_at_call 32; with_reducible refine (itoa_int who hw0 hw9 _ (HLd.out.later (Below.refl _ _).drew)).mono ?_; rintro e w3 ⟨rfl, hb3⟩))
    all_goals go_wp2_with fail
    all_goals go_meet
    all_goals
      have hb4 : Below w2.heap.size w2 w3 := (Below.refl _ _).drew.trans hb3
      exact ⟨_, _, _, rfl, World.ownsRow_lit w3 #[.string (decB who), .string (wordOf op)] 2 (by have := hb4.size; omega) (by simp [maxLen]) rfl, (hb4.alloc hb4.size _).mono (by omega)⟩
  case rest =>
  obtain ⟨xs0, hxs⟩ : ∃ xs, xs = [decB who, wordOf op] := ⟨_, rfl⟩
  rw [← hxs] at hcut
  have HX0 : Hid (xs0 = [decB who, wordOf op]) := hxs
  have hl0 : xs0.length ≤ 2 := by rw [hxs]; exact Nat.le_refl _
  clear hxs
  obtain ⟨a0, n0, l0, rfl, ho, hbn⟩ := hcut
  obtain ⟨v1, rfl⟩ : ∃ W, W = wc := ⟨_, rfl⟩
  clear c0 c1 c2 c3 c4 c5 c6 c7 c8 k0 k1 k2 k3 k4 k5 k6 k7 HLd
  have bw := bw.trans (hbn.mono (by omega))
  have C := C.later hbn (by omega)
  have KBx := KBx.later hbn (by omega)
  have hBl := KBx.lt
  have HO : Hid (OwnS v1 (B + 1) (.slice a0 n0 l0) xs0) := ho
  have HLd : Hid (Laid v1) := hL.later bw
  clear ho hbn
  obtain ⟨c0, c1, c2, c3, c4, c5, c6, c7, c8⟩ := cells9 C
  obtain ⟨⟨k0, k1, k2, k3, k4, k5, k6, k7⟩, _⟩ := cells8 KBx
  have hv0 : 0 ≤ key := F.key0
  have hv9 : key ≤ 1000000000 := by have := F.key9; simp only at this; omega
  go_upto_if 23 with fail
  go_cut [6] (fun v wx => ∃ a n c, v = .slice a n c ∧ OwnS wx (B + 1) (.slice a n c) (addIf (hasKey op) xs0 (decB key)) ∧ Below (B + 1) v1 wx)
  case first =>
    cases hb : hasKey op with
    | true =>
      go_wp2_with fail
      refine (itoa_int key hv0 hv9 v1 HLd.out).mono ?_
      rintro e x1 ⟨rfl, hx1⟩
      have HO1 : Hid (OwnS x1 (B + 1) (.slice a0 n0 l0) xs0) := HO.out.later hx1 (Nat.le_refl _)
      have hx1s := hx1.size
      have hx2 := hx1.mono (show B + 1 ≤ v1.heap.size by omega)
      clear HO hx1
      go_wp2_with (at_builtin; refine wpList_appS rfl _ _ rfl (B + 1) (.slice a0 n0 l0) xs0 (decB key) x1 (by simp [Act.eval]) (by simp [Act.eval]) HO1.out (by omega) (by omega) ?_)
      intro v' y2 ho2 hy2
      obtain ⟨a9, n9, l9, rfl⟩ := ho2.sl
      go_wp2
      go_meet
      case rel => exact ⟨a9, n9, l9, rfl, by simpa [addIf, hb] using ho2, hx2.trans hy2⟩
    | false =>
      go_wp2
      go_meet
      case rel => exact ⟨_, _, _, rfl, by simpa [addIf, hb] using HO.out, Below.refl _ _⟩
  case rest =>
  obtain ⟨xs1, hxs⟩ : ∃ xs, xs = addIf (hasKey op) xs0 (decB key) := ⟨_, rfl⟩
  rw [← hxs] at hcut
  have HX1 : Hid (xs1 = addIf (hasKey op) xs0 (decB key)) := hxs
  have hl1 : xs1.length ≤ 3 := by rw [hxs]; exact Nat.le_trans (addIf_len _ _ _) (by omega)
  clear hxs
  obtain ⟨a1, n1, l1, rfl, ho, hbn⟩ := hcut
  obtain ⟨v2, rfl⟩ : ∃ W, W = wc := ⟨_, rfl⟩
  clear c0 c1 c2 c3 c4 c5 c6 c7 c8 k0 k1 k2 k3 k4 k5 k6 k7 HLd
  have bw := bw.trans (hbn.mono (by omega))
  have C := C.later hbn (by omega)
  have KBx := KBx.later hbn (by omega)
  have hBl := KBx.lt
  have HO : Hid (OwnS v2 (B + 1) (.slice a1 n1 l1) xs1) := ho
  have HLd : Hid (Laid v2) := hL.later bw
  clear ho hbn
  obtain ⟨c0, c1, c2, c3, c4, c5, c6, c7, c8⟩ := cells9 C
  obtain ⟨⟨k0, k1, k2, k3, k4, k5, k6, k7⟩, _⟩ := cells8 KBx
  have hv0 : 0 ≤ new := F.new0
  have hv9 : new ≤ 1000000000 := by have := F.new9; simp only at this; omega
  go_upto_if 31 with fail
  go_cut [6] (fun v wx => ∃ a n c, v = .slice a n c ∧ OwnS wx (B + 1) (.slice a n c) (addIf (hasNew op) xs1 (decB new)) ∧ Below (B + 1) v2 wx)
  case first =>
    cases hb : hasNew op with
    | true =>
      go_wp2_with fail
      refine (itoa_int new hv0 hv9 v2 HLd.out).mono ?_
      rintro e x1 ⟨rfl, hx1⟩
      have HO1 : Hid (OwnS x1 (B + 1) (.slice a1 n1 l1) xs1) := HO.out.later hx1 (Nat.le_refl _)
      have hx1s := hx1.size
      have hx2 := hx1.mono (show B + 1 ≤ v2.heap.size by omega)
      clear HO hx1
      go_wp2_with (at_builtin; refine wpList_appS rfl _ _ rfl (B + 1) (.slice a1 n1 l1) xs1 (decB new) x1 (by simp [Act.eval]) (by simp [Act.eval]) HO1.out (by omega) (by omega) ?_)
      intro v' y2 ho2 hy2
      obtain ⟨a9, n9, l9, rfl⟩ := ho2.sl
      go_wp2
      go_meet
      case rel => exact ⟨a9, n9, l9, rfl, by simpa [addIf, hb] using ho2, hx2.trans hy2⟩
    | false =>
      go_wp2
      go_meet
      case rel => exact ⟨_, _, _, rfl, by simpa [addIf, hb] using HO.out, Below.refl _ _⟩
  case rest =>
  obtain ⟨xs2, hxs⟩ : ∃ xs, xs = addIf (hasNew op) xs1 (decB new) := ⟨_, rfl⟩
  rw [← hxs] at hcut
  have HX2 : Hid (xs2 = addIf (hasNew op) xs1 (decB new)) := hxs
  have hl2 : xs2.length ≤ 4 := by rw [hxs]; exact Nat.le_trans (addIf_len _ _ _) (by omega)
  clear hxs
  obtain ⟨a2, n2, l2, rfl, ho, hbn⟩ := hcut
  obtain ⟨v3, rfl⟩ : ∃ W, W = wc := ⟨_, rfl⟩
  clear c0 c1 c2 c3 c4 c5 c6 c7 c8 k0 k1 k2 k3 k4 k5 k6 k7 HLd
  have bw := bw.trans (hbn.mono (by omega))
  have C := C.later hbn (by omega)
  have KBx := KBx.later hbn (by omega)
  have hBl := KBx.lt
  have HO : Hid (OwnS v3 (B + 1) (.slice a2 n2 l2) xs2) := ho
  have HLd : Hid (Laid v3) := hL.later bw
  clear ho hbn
  obtain ⟨c0, c1, c2, c3, c4, c5, c6, c7, c8⟩ := cells9 C
  obtain ⟨⟨k0, k1, k2, k3, k4, k5, k6, k7⟩, _⟩ := cells8 KBx
  have hv09 : 0 ≤ ty ∧ ty ≤ 1000000000 := ty_range F
  obtain ⟨hv0, hv9⟩ := hv09
  go_upto_if 39 with fail
  go_cut [6] (fun v wx => ∃ a n c, v = .slice a n c ∧ OwnS wx (B + 1) (.slice a n c) (addIf (hasHeld op) xs2 (decB ty)) ∧ Below (B + 1) v3 wx)
  case first =>
    cases hb : hasHeld op with
    | true =>
      go_wp2_with fail
      refine (itoa_int ty hv0 hv9 v3 HLd.out).mono ?_
      rintro e x1 ⟨rfl, hx1⟩
      have HO1 : Hid (OwnS x1 (B + 1) (.slice a2 n2 l2) xs2) := HO.out.later hx1 (Nat.le_refl _)
      have hx1s := hx1.size
      have hx2 := hx1.mono (show B + 1 ≤ v3.heap.size by omega)
      clear HO hx1
      go_wp2_with (at_builtin; refine wpList_appS rfl _ _ rfl (B + 1) (.slice a2 n2 l2) xs2 (decB ty) x1 (by simp [Act.eval]) (by simp [Act.eval]) HO1.out (by omega) (by omega) ?_)
      intro v' y2 ho2 hy2
      obtain ⟨a9, n9, l9, rfl⟩ := ho2.sl
      go_wp2
      go_meet
      case rel => exact ⟨a9, n9, l9, rfl, by simpa [addIf, hb] using ho2, hx2.trans hy2⟩
    | false =>
      go_wp2
      go_meet
      case rel => exact ⟨_, _, _, rfl, by simpa [addIf, hb] using HO.out, Below.refl _ _⟩
  case rest =>
  obtain ⟨xs3, hxs⟩ : ∃ xs, xs = addIf (hasHeld op) xs2 (decB ty) := ⟨_, rfl⟩
  rw [← hxs] at hcut
  have HX3 : Hid (xs3 = addIf (hasHeld op) xs2 (decB ty)) := hxs
  have hl3 : xs3.length ≤ 5 := by rw [hxs]; exact Nat.le_trans (addIf_len _ _ _) (by omega)
  clear hxs
  obtain ⟨a3, n3, l3, rfl, ho, hbn⟩ := hcut
  obtain ⟨v4, rfl⟩ : ∃ W, W = wc := ⟨_, rfl⟩
  clear c0 c1 c2 c3 c4 c5 c6 c7 c8 k0 k1 k2 k3 k4 k5 k6 k7 HLd
  have bw := bw.trans (hbn.mono (by omega))
  have C := C.later hbn (by omega)
  have KBx := KBx.later hbn (by omega)
  have hBl := KBx.lt
  have HO : Hid (OwnS v4 (B + 1) (.slice a3 n3 l3) xs3) := ho
  have HLd : Hid (Laid v4) := hL.later bw
  clear ho hbn
  obtain ⟨c0, c1, c2, c3, c4, c5, c6, c7, c8⟩ := cells9 C
  obtain ⟨⟨k0, k1, k2, k3, k4, k5, k6, k7⟩, _⟩ := cells8 KBx
  have hv0 : 0 ≤ at' := F.at0
  have hv9 : at' ≤ 1000000000 := by have := F.at7; simp only at this; omega
  go_upto_if 47 with fail
  go_cut [6] (fun v wx => ∃ a n c, v = .slice a n c ∧ OwnS wx (B + 1) (.slice a n c) (addIf (hasAt op) xs3 (decB at')) ∧ Below (B + 1) v4 wx)
  case first =>
    cases hb : hasAt op with
    | true =>
      go_wp2_with fail
      refine (itoa_int at' hv0 hv9 v4 HLd.out).mono ?_
      rintro e x1 ⟨rfl, hx1⟩
      have HO1 : Hid (OwnS x1 (B + 1) (.slice a3 n3 l3) xs3) := HO.out.later hx1 (Nat.le_refl _)
      have hx1s := hx1.size
      have hx2 := hx1.mono (show B + 1 ≤ v4.heap.size by omega)
      clear HO hx1
      go_wp2_with (at_builtin; refine wpList_appS rfl _ _ rfl (B + 1) (.slice a3 n3 l3) xs3 (decB at') x1 (by simp [Act.eval]) (by simp [Act.eval]) HO1.out (by omega) (by omega) ?_)
      intro v' y2 ho2 hy2
      obtain ⟨a9, n9, l9, rfl⟩ := ho2.sl
      go_wp2
      go_meet
      case rel => exact ⟨a9, n9, l9, rfl, by simpa [addIf, hb] using ho2, hx2.trans hy2⟩
    | false =>
      go_wp2
      go_meet
      case rel => exact ⟨_, _, _, rfl, by simpa [addIf, hb] using HO.out, Below.refl _ _⟩
  case rest =>
  obtain ⟨xs4, hxs⟩ : ∃ xs, xs = addIf (hasAt op) xs3 (decB at') := ⟨_, rfl⟩
  rw [← hxs] at hcut
  have HX4 : Hid (xs4 = addIf (hasAt op) xs3 (decB at')) := hxs
  have hl4 : xs4.length ≤ 6 := by rw [hxs]; exact Nat.le_trans (addIf_len _ _ _) (by omega)
  clear hxs
  obtain ⟨a4, n4, l4, rfl, ho, hbn⟩ := hcut
  obtain ⟨v5, rfl⟩ : ∃ W, W = wc := ⟨_, rfl⟩
  clear c0 c1 c2 c3 c4 c5 c6 c7 c8 k0 k1 k2 k3 k4 k5 k6 k7 HLd
  have bw := bw.trans (hbn.mono (by omega))
  have C := C.later hbn (by omega)
  have KBx := KBx.later hbn (by omega)
  have hBl := KBx.lt
  have HO : Hid (OwnS v5 (B + 1) (.slice a4 n4 l4) xs4) := ho
  have HLd : Hid (Laid v5) := hL.later bw
  clear ho hbn
  obtain ⟨c0, c1, c2, c3, c4, c5, c6, c7, c8⟩ := cells9 C
  obtain ⟨⟨k0, k1, k2, k3, k4, k5, k6, k7⟩, _⟩ := cells8 KBx
  go_upto_if 55 with fail
  go_cut [6] (fun v wx => ∃ a n c, v = .slice a n c ∧ OwnS wx (B + 1) (.slice a n c) (addIf (hasStays op) xs4 (staysT st)) ∧ Below (B + 1) v5 wx)
  case first =>
    cases hb : hasStays op with
    | true =>
      go_wp2_with fail
      refine (staysT_any st v5).mono ?_
      rintro e x1 ⟨rfl, hx⟩
      have hx1 : Below v5.heap.size v5 x1 := by rw [hx]; exact Below.refl _ _
      clear hx
      have HO1 : Hid (OwnS x1 (B + 1) (.slice a4 n4 l4) xs4) := HO.out.later hx1 (Nat.le_refl _)
      have hx1s := hx1.size
      have hx2 := hx1.mono (show B + 1 ≤ v5.heap.size by omega)
      clear HO hx1
      go_wp2_with (at_builtin; refine wpList_appS rfl _ _ rfl (B + 1) (.slice a4 n4 l4) xs4 (staysT st) x1 (by simp [Act.eval]) (by simp [Act.eval]) HO1.out (by omega) (by omega) ?_)
      intro v' y2 ho2 hy2
      obtain ⟨a9, n9, l9, rfl⟩ := ho2.sl
      go_wp2
      go_meet
      case rel => exact ⟨a9, n9, l9, rfl, by simpa [addIf, hb] using ho2, hx2.trans hy2⟩
    | false =>
      go_wp2
      go_meet
      case rel => exact ⟨_, _, _, rfl, by simpa [addIf, hb] using HO.out, Below.refl _ _⟩
  case rest =>
  obtain ⟨xs5, hxs⟩ : ∃ xs, xs = addIf (hasStays op) xs4 (staysT st) := ⟨_, rfl⟩
  rw [← hxs] at hcut
  have HX5 : Hid (xs5 = addIf (hasStays op) xs4 (staysT st)) := hxs
  have hl5 : xs5.length ≤ 7 := by rw [hxs]; exact Nat.le_trans (addIf_len _ _ _) (by omega)
  clear hxs
  obtain ⟨a5, n5, l5, rfl, ho, hbn⟩ := hcut
  obtain ⟨v6, rfl⟩ : ∃ W, W = wc := ⟨_, rfl⟩
  clear c0 c1 c2 c3 c4 c5 c6 c7 c8 k0 k1 k2 k3 k4 k5 k6 k7 HLd
  have bw := bw.trans (hbn.mono (by omega))
  have C := C.later hbn (by omega)
  have KBx := KBx.later hbn (by omega)
  have hBl := KBx.lt
  have HO : Hid (OwnS v6 (B + 1) (.slice a5 n5 l5) xs5) := ho
  have HLd : Hid (Laid v6) := hL.later bw
  clear ho hbn
  obtain ⟨c0, c1, c2, c3, c4, c5, c6, c7, c8⟩ := cells9 C
  obtain ⟨⟨k0, k1, k2, k3, k4, k5, k6, k7⟩, _⟩ := cells8 KBx
  go_upto_if 63 with fail
  go_cut [6] (fun v wx => ∃ a n c, v = .slice a n c ∧ OwnS wx (B + 1) (.slice a n c) (addIf (hasData op) xs5 (dataW d)) ∧ Below (B + 1) v6 wx)
  case first =>
    cases hb : hasData op with
    | true =>
      go_wp2_with fail
      refine (dataText_any d v6).mono ?_
      rintro e x1 ⟨rfl, hx⟩
      have hx1 : Below v6.heap.size v6 x1 := by rw [hx]; exact Below.refl _ _
      clear hx
      have HO1 : Hid (OwnS x1 (B + 1) (.slice a5 n5 l5) xs5) := HO.out.later hx1 (Nat.le_refl _)
      have hx1s := hx1.size
      have hx2 := hx1.mono (show B + 1 ≤ v6.heap.size by omega)
      clear HO hx1
      go_wp2_with (at_builtin; refine wpList_appS rfl _ _ rfl (B + 1) (.slice a5 n5 l5) xs5 (dataW d) x1 (by simp [Act.eval]) (by simp [Act.eval]) HO1.out (by omega) (by omega) ?_)
      intro v' y2 ho2 hy2
      obtain ⟨a9, n9, l9, rfl⟩ := ho2.sl
      go_wp2
      go_meet
      case rel => exact ⟨a9, n9, l9, rfl, by simpa [addIf, hb] using ho2, hx2.trans hy2⟩
    | false =>
      go_wp2
      go_meet
      case rel => exact ⟨_, _, _, rfl, by simpa [addIf, hb] using HO.out, Below.refl _ _⟩
  case rest =>
  obtain ⟨xs6, hxs⟩ : ∃ xs, xs = addIf (hasData op) xs5 (dataW d) := ⟨_, rfl⟩
  rw [← hxs] at hcut
  have HX6 : Hid (xs6 = addIf (hasData op) xs5 (dataW d)) := hxs
  have hl6 : xs6.length ≤ 8 := by rw [hxs]; exact Nat.le_trans (addIf_len _ _ _) (by omega)
  clear hxs
  obtain ⟨a6, n6, l6, rfl, ho, hbn⟩ := hcut
  obtain ⟨v7, rfl⟩ : ∃ W, W = wc := ⟨_, rfl⟩
  clear c0 c1 c2 c3 c4 c5 c6 c7 c8 k0 k1 k2 k3 k4 k5 k6 k7 HLd
  have bw := bw.trans (hbn.mono (by omega))
  have C := C.later hbn (by omega)
  have KBx := KBx.later hbn (by omega)
  have hBl := KBx.lt
  have HO : Hid (OwnS v7 (B + 1) (.slice a6 n6 l6) xs6) := ho
  have HLd : Hid (Laid v7) := hL.later bw
  clear ho hbn
  obtain ⟨c0, c1, c2, c3, c4, c5, c6, c7, c8⟩ := cells9 C
  obtain ⟨⟨k0, k1, k2, k3, k4, k5, k6, k7⟩, _⟩ := cells8 KBx
  go_upto_if 71 with fail
  go_cut [6] (fun v wx => ∃ a n c, v = .slice a n c ∧ OwnS wx (B + 1) (.slice a n c) (addIf (hasWant op) xs6 (dataW wt)) ∧ Below (B + 1) v7 wx)
  case first =>
    cases hb : hasWant op with
    | true =>
      go_wp2_with fail
      refine (dataText_any wt v7).mono ?_
      rintro e x1 ⟨rfl, hx⟩
      have hx1 : Below v7.heap.size v7 x1 := by rw [hx]; exact Below.refl _ _
      clear hx
      have HO1 : Hid (OwnS x1 (B + 1) (.slice a6 n6 l6) xs6) := HO.out.later hx1 (Nat.le_refl _)
      have hx1s := hx1.size
      have hx2 := hx1.mono (show B + 1 ≤ v7.heap.size by omega)
      clear HO hx1
      go_wp2_with (at_builtin; refine wpList_appS rfl _ _ rfl (B + 1) (.slice a6 n6 l6) xs6 (dataW wt) x1 (by simp [Act.eval]) (by simp [Act.eval]) HO1.out (by omega) (by omega) ?_)
      intro v' y2 ho2 hy2
      obtain ⟨a9, n9, l9, rfl⟩ := ho2.sl
      go_wp2
      go_meet
      case rel => exact ⟨a9, n9, l9, rfl, by simpa [addIf, hb] using ho2, hx2.trans hy2⟩
    | false =>
      go_wp2
      go_meet
      case rel => exact ⟨_, _, _, rfl, by simpa [addIf, hb] using HO.out, Below.refl _ _⟩
  case rest =>
  obtain ⟨xs7, hxs⟩ : ∃ xs, xs = addIf (hasWant op) xs6 (dataW wt) := ⟨_, rfl⟩
  rw [← hxs] at hcut
  have HX7 : Hid (xs7 = addIf (hasWant op) xs6 (dataW wt)) := hxs
  have hl7 : xs7.length ≤ 9 := by rw [hxs]; exact Nat.le_trans (addIf_len _ _ _) (by omega)
  clear hxs
  obtain ⟨a7, n7, l7, rfl, ho, hbn⟩ := hcut
  obtain ⟨v8, rfl⟩ : ∃ W, W = wc := ⟨_, rfl⟩
  have bw := bw.trans (hbn.mono (by omega))
  have hW : xs7 = wordsT op who key new ty at' st d wt := by rw [HX7.out, HX6.out, HX5.out, HX4.out, HX3.out, HX2.out, HX1.out, HX0.out]; rfl
  have hne : xs7 ≠ [] := by
    intro e
    have h1 := words_eq F
    simp only at h1
    rw [← hW, e] at h1
    simp [wordsC] at h1
  have hj : Lib.join (xs7.map (·.data.toList)) [32] = txtC ⟨op, who, key, new, ty, at', st, d, wt⟩ := by rw [hW, words_eq F]; rfl
  have hjl : (Lib.join (xs7.map (·.data.toList)) [32]).length ≤ 140737488355328 := by rw [hj]; exact Nat.le_trans (txt_len F) (by decide)
  obtain ⟨gg, cc, e, hg, hcc, hcells⟩ := ho.form hne
  simp only [Value.slice.injEq] at e
  obtain ⟨rfl, rfl, rfl⟩ := e
  have HC : Hid (Calls Tryd.prog 35 #[.slice (some ⟨gg, 0, Option.none⟩) xs7.length l7, .string ⟨#[32]⟩] v8 fun e w' => e = .returned (.string ⟨(txtC ⟨op, who, key, new, ty, at', st, d, wt⟩).toArray⟩) ∧ Below v8.heap.size v8 w') := by
    have := Tryd.strings_Join gg 0 l7 xs7 ⟨#[32]⟩ v8 hcells hg (by omega) hcc hjl
    rw [show (⟨#[32]⟩ : ByteArray).data.toList = [32] from rfl, hj] at this
    exact this
  clear hcells hj hjl hW hne ho c0 c1 c2 c3 c4 c5 c6 c7 c8 k0 k1 k2 k3 k4 k5 k6 k7
  go_wp2_with fail
  refine HC.out.mono ?_
  rintro e v9 ⟨rfl, hb9⟩
  go_wp2
  go_ret2
  exact ⟨rfl, bw.trans (hb9.mono bw.size)⟩
end Go.Proofs.YthkckogbjdbnnaaDoor.K
