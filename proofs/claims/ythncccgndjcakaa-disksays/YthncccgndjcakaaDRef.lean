/- The document's disk as plain data, and what it is in memory; what its noughts, step and Read answer. No statement of the seat is proved here. -/
import Derived.Test.YthncccgndjcakaaDNew
import Derived.Test.YthncccgndjcakaaOwx
import Derived.Test.YthncccgndjcakaaLastZ
namespace Go.Proofs.Ythncccgndjcakaa
open Go.ChangeShapes Go.WideShapes Go.ChangeAt Go.RowKit Go.Deep

def sv (s : Sec) : Value := .string ⟨s.toArray⟩
def svs (l : List Sec) : List Value := l.map sv
def tv (x : Nat × Sec) : List Value := [.int .i64 x.1, sv x.2]
def tvs (l : List (Nat × Sec)) : List Value := l.flatMap tv
theorem tvs_len : ∀ l : List (Nat × Sec), (tvs l).length = l.length * 2
  | [] => rfl
  | x :: l => by
    have := tvs_len l
    simp only [tvs, List.flatMap_cons, List.length_append, List.length_cons] at *
    rw [this]; simp [tv]; omega
theorem tvs_get : ∀ (l : List (Nat × Sec)) (j : Nat) (x : Nat × Sec), l[j]? = some x → (tvs l)[j * 2]? = some (.int .i64 x.1) ∧ (tvs l)[j * 2 + 1]? = some (sv x.2)
  | [], j, x, h => by simp at h
  | y :: l, 0, x, h => by
    have : y = x := by simpa using h
    subst this
    exact ⟨rfl, rfl⟩
  | y :: l, j + 1, x, h => by
    have := tvs_get l j x (by simpa using h)
    simp only [tvs, List.flatMap_cons] at *
    rw [show (j + 1) * 2 = j * 2 + 2 by omega, show j * 2 + 2 + 1 = j * 2 + 1 + 2 by omega, List.getElem?_append_right (by simp [tv]), List.getElem?_append_right (by simp [tv])]
    exact this
theorem svs_one (l : List Sec) : ∀ y ∈ svs l, y.oneCell' = true := by
  intro y hy
  obtain ⟨x, _, rfl⟩ := List.mem_map.1 hy
  rfl
/-- The document's disk. -/
structure RM where
  kept : List Sec
  now : List Sec
  wait : List (Nat × Sec)
  fuse : Int
  down : Bool
structure RP where
  k : Value
  m : Value
  t : Value
def rhd (R : RM) (P : RP) : List Value := [P.k, P.m, P.t, .int .i64 R.fuse, .bool R.down]
def RF (P : RP) (b : Nat) : Nat → Prop := fun q => q = b ∨ ObX P.k q ∨ ObX P.m q ∨ ObX P.t q
structure RM.OK (R : RM) (n : Nat) : Prop where
  kl : R.kept.length = n
  ml : R.now.length = n
  n1 : 1 ≤ n
  n40 : n ≤ 40
  wl : R.wait.length ≤ 1000
  wi : ∀ x ∈ R.wait, x.1 < n
  flo : -1 ≤ R.fuse
  fhi : R.fuse ≤ 9223372036854775807
structure RAt (w : World) (b n : Nat) (R : RM) (P : RP) : Prop where
  ok : R.OK n
  hd : At w b (rhd R P) 54
  k : OwnX 9 1 w P.k n (svs R.kept)
  m : OwnX 9 1 w P.m n (svs R.now)
  t : OwnX 77 2 w P.t R.wait.length (tvs R.wait)
  ne : ¬ ObX P.k b ∧ ¬ ObX P.m b ∧ ¬ ObX P.t b
  d1 : ∀ q, ObX P.k q → ¬ ObX P.m q ∧ ¬ ObX P.t q
  d2 : ∀ q, ObX P.m q → ¬ ObX P.t q
section
variable {w w' : World} {b n : Nat} {R R' : RM} {P : RP}
theorem RAt.foot (h : RAt w b n R P) : ∀ q, RF P b q → q < w.heap.size := by
  rintro q (rfl | hq | hq | hq)
  · exact h.hd.lt
  · exact h.k.lt hq
  · exact h.m.lt hq
  · exact h.t.lt hq
theorem RAt.kept (h : RAt w b n R P) (hk : ∀ q, RF P b q → w'.heap[q]? = w.heap[q]?) : RAt w' b n R P :=
  ⟨h.ok, by unfold At; rw [hk _ (.inl rfl)]; exact h.hd, h.k.kept fun q e => hk q (.inr (.inl e)), h.m.kept fun q e => hk q (.inr (.inr (.inl e))), h.t.kept fun q e => hk q (.inr (.inr (.inr e))), h.ne, h.d1, h.d2⟩
theorem RAt.later {B : Nat} (h : RAt w b n R P) (hb : Below B w w') (hB : w.heap.size ≤ B) : RAt w' b n R P :=
  h.kept fun q hq => hb.block q (by have := h.foot q hq; omega)
theorem RAt.moved {F F' : Nat → Prop} (h : RAt w b n R P) (hm : Moved F F' w w') (hd : ∀ q, F q → ¬ RF P b q) : RAt w' b n R P :=
  h.kept fun q hq => hm.block q (h.foot q hq) (fun hf => hd q hf hq)
theorem RAt.head (h : RAt w b n R P) (hm : Moved (Is b) (Is b) w w') (hd : At w' b (rhd R' P) 54) (ok : R'.OK n) (hk : R'.kept = R.kept) (hn : R'.now = R.now) (hs : R'.wait = R.wait) : RAt w' b n R' P := by
  refine ⟨ok, hd, ?_, ?_, ?_, h.ne, h.d1, h.d2⟩
  · rw [hk]; exact h.k.moved hm (fun q e f => h.ne.1 (by rw [← show q = b from f]; exact e))
  · rw [hn]; exact h.m.moved hm (fun q e f => h.ne.2.1 (by rw [← show q = b from f]; exact e))
  · rw [hs]; exact h.t.moved hm (fun q e f => h.ne.2.2 (by rw [← show q = b from f]; exact e))
theorem RAt.keptV (h : RAt w b n R P) : ∃ g cap, P.k = .slice (some ⟨g, 0, Option.none⟩) n cap := by
  obtain ⟨g, cap, _, e, _⟩ := h.k.some h.ok.n1
  exact ⟨g, cap, e⟩
theorem RAt.nowV (h : RAt w b n R P) : ∃ g cap, P.m = .slice (some ⟨g, 0, Option.none⟩) n cap := by
  obtain ⟨g, cap, _, e, _⟩ := h.m.some h.ok.n1
  exact ⟨g, cap, e⟩
theorem RAt.cells (h : RAt w b n R P) : w.cell? ⟨b, 0, Option.none⟩ = some P.k ∧ w.cell? ⟨b, 1, Option.none⟩ = some P.m ∧ w.cell? ⟨b, 2, Option.none⟩ = some P.t ∧ w.cell? ⟨b, 3, Option.none⟩ = some (.int .i64 R.fuse) ∧ w.cell? ⟨b, 4, Option.none⟩ = some (.bool R.down) :=
  ⟨h.hd.cell 0, h.hd.cell 1, h.hd.cell 2, h.hd.cell 3, h.hd.cell 4⟩
theorem RAt.froz (h : RAt w b n R P) (j : Nat) (hj : j < 5) : w.frozen? ⟨b, j, Option.none⟩ = false := (h.hd.there j 1 (by simp [rhd]; omega) 0 (by decide)).2
end
theorem svs_get {l : List Sec} {k : Nat} (h : k < l.length) : (svs l)[k]? = some (sv (l.getD k [])) := by simp [svs, List.getD, h]
theorem elt_str : EltI 51 9 1 16 := by
  have h : (Try.prog.info? 9).map (fun i => (i.zero, i.size, i.bytes)) = some (some (.string ⟨#[]⟩), 1, 16) := by kernel_rfl
  refine ⟨?_, Try.underlying51, by decide, by decide⟩
  cases hi : Try.prog.info? 9 with
  | none => rw [hi] at h; cases h
  | some i =>
    rw [hi] at h
    simp only [Option.map_some, Option.some.injEq, Prod.mk.injEq] at h
    exact ⟨i, _, rfl, h.1, h.2.1, h.2.2, rfl⟩
theorem elt_turn : EltI 52 77 2 24 := by
  have h : (Try.prog.info? 77).map (fun i => (i.zero, i.size, i.bytes)) = some (some (.agg #[.int .i64 0, .string ⟨#[]⟩]), 2, 24) := by kernel_rfl
  refine ⟨?_, Try.underlying52, by decide, by decide⟩
  cases hi : Try.prog.info? 77 with
  | none => rw [hi] at h; cases h
  | some i =>
    rw [hi] at h
    simp only [Option.map_some, Option.some.injEq, Prod.mk.injEq] at h
    exact ⟨i, _, rfl, h.1, h.2.1, h.2.2, rfl⟩

theorem zero_u8 : ∃ i, Try.prog.info? 5 = some i ∧ i.zero = some (.int .u8 0) ∧ i.size = 1 ∧ i.bytes = 1 := by
  have h : (Try.prog.info? 5).map (fun i => (i.zero, i.size, i.bytes)) = some (some (.int .u8 0), 1, 1) := by kernel_rfl
  cases hi : Try.prog.info? 5 with
  | none => rw [hi] at h; cases h
  | some i => rw [hi] at h; simp at h; exact ⟨i, rfl, h.1, h.2.1, h.2.2⟩
theorem wp_mkB {o : Oper} {a : Act} {w : World} {K : Act → World → Prop} {Q : Exit → Act → World → Prop} (x : Operand) (ho : o.op = .makeSlice 73 x x) (n : Nat) (hn : n ≤ 64) (hx : a.eval x = .int .i64 n)
    (h : ∀ W, At W w.heap.size (bcs (List.replicate n 0)) 5 → Below w.heap.size w W → K (a.put o.dst (.slice (some ⟨w.heap.size, 0, Option.none⟩) n n)) W) : o.wp Try.prog a w K Q := by
  obtain ⟨i, hi, hz, hs, hb⟩ := zero_u8
  have hr := run_make (P := Try.prog) w 73 5 i _ Try.underlying73 hi hz .i64 .i64 n n (by omega) (Int.le_refl _) (by rw [hb]; omega) (by omega)
  simp only [Int.toNat_natCast, hs] at hr
  have e : madeCells (Value.int .u8 0).cells (n * 1) = (bcs (List.replicate n 0)).toArray := by
    apply Array.ext'
    rw [List.toList_toArray, Nat.mul_one]
    have := toList_madeCells_one (Value.int .u8 0) n
    simp only [bcs, List.map_replicate]
    exact this
  rw [e] at hr
  unfold Oper.wp
  simp [execOp, ho, hx, hr, Result.andThen]
  exact h _ (heap_alloc_new w _) ((Below.refl _ _).alloc (Nat.le_refl _) _)
theorem bytes_of {W : World} {g : Nat} {s : Sec} {T : TypeId} (h : At W g (bcs s) T) : Lib.Bytes W g 0 ⟨s.toArray⟩ := by
  intro j hj
  have hj' : j < s.length := by simpa [ByteArray.size] using hj
  rw [Nat.zero_add, h.cell]
  simp [bcs, hj']
  rfl
theorem noughts_any (n : Nat) (hn : n ≤ 64) (w : World) : Calls Try.prog 23 #[.int .i64 n] w fun e w' => e = .returned (sv (List.replicate n 0)) ∧ Below w.heap.size w w' := by
  go_enter Try.func23, Try.ntmps23
  go_wp2_with (refine wpList_plain rfl fun K hK => wp_mkB _ rfl n hn rfl fun W A b => hK _ _ ?_)
  have hcv := Lib.run_convert_window (P := Try.prog) W 73 5 9 Try.underlying73 Try.underlying5 Try.underlying9 w.heap.size 0 _ (bytes_of A) 0 n n (by simp [ByteArray.size])
  have hex : (⟨(List.replicate n (0 : UInt8)).toArray⟩ : ByteArray).extract 0 (0 + n) = ⟨(List.replicate n (0 : UInt8)).toArray⟩ := ByteArray.ext (by simp)
  rw [hex, Nat.add_zero] at hcv
  clear hex
  rw [hcv]
  simp only [Result.andThen_ok]
  go_wp2
  go_ret
  exact ⟨rfl, b⟩

def rstepF (R : RM) : Int := if R.down = true ∨ R.fuse = 0 then 10 else 0
def rstepR (R : RM) : RM := if R.down = true then R else if R.fuse = 0 then { R with down := true, fuse := -1 } else if 0 < R.fuse then { R with fuse := R.fuse - 1 } else R
theorem rstepR_same (R : RM) : (rstepR R).kept = R.kept ∧ (rstepR R).now = R.now ∧ (rstepR R).wait = R.wait := by
  unfold rstepR; split
  · exact ⟨rfl, rfl, rfl⟩
  · split
    · exact ⟨rfl, rfl, rfl⟩
    · split <;> exact ⟨rfl, rfl, rfl⟩
theorem rstepR_ok {R : RM} {n : Nat} (h : R.OK n) : (rstepR R).OK n := by
  unfold rstepR; split
  · exact h
  · split
    · exact ⟨h.kl, h.ml, h.n1, h.n40, h.wl, h.wi, by show (-1 : Int) ≤ -1; omega, by show (-1 : Int) ≤ _; omega⟩
    · split
      · have := h.fhi
        exact ⟨h.kl, h.ml, h.n1, h.n40, h.wl, h.wi, by show (-1 : Int) ≤ R.fuse - 1; omega, by show R.fuse - 1 ≤ _; omega⟩
      · exact h
theorem rstep_any {w : World} {b n : Nat} {R : RM} {P : RP} (h : RAt w b n R P) :
    Calls Try.prog 27 #[.pointer (some ⟨b, 0, Option.none⟩)] w fun e w' => e = .returned (.int .i64 (rstepF R)) ∧ RAt w' b n (rstepR R) P ∧ Moved (Is b) (Is b) w w' := by
  obtain ⟨_, _, _, c3, c4⟩ := h.cells
  have f3 := h.froz 3 (by decide)
  have f4 := h.froz 4 (by decide)
  have hlo := h.ok.flo
  have hhi := h.ok.fhi
  have HD : Hid (RAt w b n R P) := h
  have HO : Hid ((rstepR R).OK n) := rstepR_ok h.ok
  have HW : Hid ((rstepR R).kept = R.kept ∧ (rstepR R).now = R.now ∧ (rstepR R).wait = R.wait) := rstepR_same R
  clear h
  cases hd : R.down
  · rw [hd] at c4
    by_cases h0 : R.fuse = 0
    · have h0' : (R.fuse == 0) = true := by simpa using h0
      have HS : Hid (rstepR R = { R with down := true, fuse := -1 }) := by show _ = _; simp [rstepR, hd, h0]
      have HB : Hid (rstepF R = 10) := by show _ = _; simp [rstepF, h0]
      have A' : At ((w.setCell ⟨b, 4, Option.none⟩ (.bool true)).setCell ⟨b, 3, Option.none⟩ (.int .i64 (-1))) b (rhd (rstepR R) P) 54 := by
        have := (HD.out.hd.setCell_same 4 (.bool true)).setCell_same 3 (.int .i64 (-1))
        rw [HS.out]; exact this
      have M' : Moved (Is b) (Is b) w ((w.setCell ⟨b, 4, Option.none⟩ (.bool true)).setCell ⟨b, 3, Option.none⟩ (.int .i64 (-1))) := ((Moved.refl _ _).one_set 4 _).one_set 3 _
      have HD' := HD.out.head M' A' HO.out HW.out.1 HW.out.2.1 HW.out.2.2
      have HDH : Hid (RAt ((w.setCell ⟨b, 4, Option.none⟩ (.bool true)).setCell ⟨b, 3, Option.none⟩ (.int .i64 (-1))) b n (rstepR R) P) := HD'
      rw [h0] at c3
      clear hlo hhi h0 h0' A' HD'
      go_enter Try.func27, Try.ntmps27
      go_wp2
      go_ret
      exact ⟨by rw [HB.out]; rfl, HDH.out, M'⟩
    · have h0' : (R.fuse == 0) = false := by simpa using h0
      have HB : Hid (rstepF R = 0) := by show _ = _; simp [rstepF, hd, h0]
      by_cases hp : 0 < R.fuse
      · have HS : Hid (rstepR R = { R with fuse := R.fuse - 1 }) := by show _ = _; simp [rstepR, hd, h0, hp]
        have A' : At (w.setCell ⟨b, 3, Option.none⟩ (.int .i64 (R.fuse - 1))) b (rhd (rstepR R) P) 54 := by
          have := HD.out.hd.setCell_same 3 (.int .i64 (R.fuse - 1))
          rw [HS.out]; exact this
        have M' : Moved (Is b) (Is b) w (w.setCell ⟨b, 3, Option.none⟩ (.int .i64 (R.fuse - 1))) := (Moved.refl _ _).one_set 3 _
        have HDH : Hid (RAt (w.setCell ⟨b, 3, Option.none⟩ (.int .i64 (R.fuse - 1))) b n (rstepR R) P) := HD.out.head M' A' HO.out HW.out.1 HW.out.2.1 HW.out.2.2
        clear hlo h0 A'
        go_enter Try.func27, Try.ntmps27
        go_wp2
        go_ret
        exact ⟨by rw [HB.out]; rfl, HDH.out, M'⟩
      · have HS : Hid (rstepR R = R) := by show _ = _; simp [rstepR, hd, h0, hp]
        clear h0
        go_enter Try.func27, Try.ntmps27
        go_wp2
        go_ret
        exact ⟨by rw [HB.out]; rfl, by rw [HS.out]; exact HD.out, Moved.refl _ _⟩
  · rw [hd] at c4
    have HS : Hid (rstepR R = R) := by show _ = _; simp [rstepR, hd]
    have HB : Hid (rstepF R = 10) := by show _ = _; simp [rstepF, hd]
    clear hlo hhi
    go_enter Try.func27, Try.ntmps27
    go_wp2
    go_ret
    exact ⟨by rw [HB.out]; rfl, by rw [HS.out]; exact HD.out, Moved.refl _ _⟩

def rreadF (R : RM) (n : Nat) (at' : Int) : Int := if R.down = true then 10 else if hasD n at' = true then 0 else 1
def rreadS (R : RM) (n : Nat) (at' : Int) : ByteArray := if rreadF R n at' = 0 then ⟨(R.now.getD at'.toNat []).toArray⟩ else ⟨#[]⟩
theorem rread_any {w : World} {b n : Nat} {R : RM} {P : RP} (h : RAt w b n R P) (at' : Int) :
    Calls Try.prog 14 #[.pointer (some ⟨b, 0, Option.none⟩), .int .i64 at'] w fun e w' => e = .returned (.tuple #[.string (rreadS R n at'), .int .i64 (rreadF R n at')]) ∧ w' = w := by
  obtain ⟨_, c1, _, _, c4⟩ := h.cells
  obtain ⟨g, cap, hv⟩ := h.nowV
  have hm := h.m
  rw [hv] at c1 hm
  have HM : Hid (OwnX 9 1 w (.slice (some ⟨g, 0, Option.none⟩) n cap) n (svs R.now)) := hm
  have HL : Hid (R.now.length = n) := h.ok.ml
  have hn := h.ok.n40
  clear h hv hm
  cases hd : R.down
  · rw [hd] at c4
    by_cases h0 : at' < 0
    · have HF : Hid (rreadF R n at' = 1) := by
        show _ = _
        have : ¬ (0 ≤ at') := by omega
        simp [rreadF, hd, hasD, this]
      have HS : Hid (rreadS R n at' = ⟨#[]⟩) := by show _ = _; unfold rreadS; rw [HF.out]; rfl
      clear c1
      go_enter Try.func14, Try.ntmps14
      go_wp2
      go_ret2
      exact ⟨by rw [HF.out, HS.out]; rfl, rfl⟩
    · obtain ⟨k, rfl⟩ : ∃ k : Nat, at' = k := ⟨at'.toNat, by omega⟩
      by_cases hk : k < n
      · have hki : (k : Int) < n := by omega
        have HF : Hid (rreadF R n k = 0) := by show _ = _; simp [rreadF, hd, hasD, hk]
        have HS : Hid (rreadS R n k = ⟨(R.now.getD k []).toArray⟩) := by show _ = _; unfold rreadS; rw [HF.out, if_pos rfl, Int.toNat_natCast]
        have cg : w.cell? ⟨g, k, Option.none⟩ = some (.string ⟨(R.now.getD k []).toArray⟩) := by
          obtain ⟨g', e, hc⟩ := HM.out.cell (j := k) (by omega)
          simp only [Option.some.injEq, Addr.mk.injEq, and_true] at e
          subst e
          rw [hc, svs_get (by rw [HL.out]; exact hk)]; rfl
        clear hk
        go_enter Try.func14, Try.ntmps14
        go_wp2
        go_ret2
        exact ⟨by rw [HF.out, HS.out]; rfl, rfl⟩
      · have hki : (n : Int) ≤ k := by omega
        have HF : Hid (rreadF R n k = 1) := by show _ = _; simp [rreadF, hd, hasD, hk]
        have HS : Hid (rreadS R n k = ⟨#[]⟩) := by show _ = _; unfold rreadS; rw [HF.out]; rfl
        clear hk
        go_enter Try.func14, Try.ntmps14
        go_wp2
        go_ret2
        exact ⟨by rw [HF.out, HS.out]; rfl, rfl⟩
  · rw [hd] at c4
    have HF : Hid (rreadF R n at' = 10) := by show _ = _; simp [rreadF, hd]
    have HS : Hid (rreadS R n at' = ⟨#[]⟩) := by show _ = _; unfold rreadS; rw [HF.out]; rfl
    clear c1
    go_enter Try.func14, Try.ntmps14
    go_wp2
    go_ret2
    exact ⟨by rw [HF.out, HS.out]; rfl, rfl⟩
end Go.Proofs.Ythncccgndjcakaa
