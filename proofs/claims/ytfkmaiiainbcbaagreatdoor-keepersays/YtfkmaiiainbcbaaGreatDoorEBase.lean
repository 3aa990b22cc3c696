/- A state and an epoch as they are kept: their text, and a state's clone. No statement of the seat is proved here. -/
import Derived.Test.YtfkmaiiainbcbaaGreatDoorETrim
import Derived.Test.YtfkmaiiainbcbaaGreatDoorRMath
import Derived.Test.YtfkmaiiainbcbaaGreatDoorSameS
import Derived.Test.YtfkmaiiainbcbaaGreatDoorClone
namespace Go.Proofs.YtfkmaiiainbcbaaGreatDoor.D
open Go.ChangeShapes Go.WideShapes Go.ChangeAt Go.RowKit Go.Deep

/-- A state. -/
structure KS where
  g : Int
  t : Int
  hd : Int
  y : Bool
  l : List (Int × Int)
def KS.vs (s : KS) (a : Option Addr) (c : Nat) : List Value := [.int .i64 s.g, .slice a s.l.length c, .int .i64 s.t, .int .i64 s.hd, .bool s.y]
def KS.f (s : KS) : Int := Go.Proofs.YtfkmaiiainbcbaaGreatDoor.fault s.g s.t s.hd s.l
def KS.none : KS := ⟨0, 0, 0, false, []⟩
theorem KS.one (s : KS) (a : Option Addr) (c : Nat) : ∀ v ∈ s.vs a c, v.oneCell' = true := by
  intro v hv
  simp only [KS.vs, List.mem_cons, List.not_mem_nil, or_false] at hv
  rcases hv with rfl | rfl | rfl | rfl | rfl <;> rfl
theorem rf_lenK : ∀ (l : List (Int × Int)) (p : Int), p ≤ 4 → Go.Proofs.YtfkmaiiainbcbaaGreatDoor.rf p l = 0 → (l.length : Int) ≤ 4 - p
  | [], p, h, _ => by simp; omega
  | q :: l, p, h, hf => by
    unfold Go.Proofs.YtfkmaiiainbcbaaGreatDoor.rf at hf
    split at hf
    · omega
    · split at hf
      · omega
      · have := rf_lenK l q.1 (by omega) hf
        simp only [List.length_cons]; omega
theorem KS.len {s : KS} (h : s.f = 0) : s.l.length ≤ 4 := by
  have := rf_lenK s.l 0 (by decide) (Go.Proofs.YtfkmaiiainbcbaaGreatDoor.fault_rf h).1
  omega
theorem KS.sok {s : KS} (h : s.f = 0) : K.SOK s.g s.t s.hd s.l := K.sok_of h (KS.len h)
/-- The text that is kept. -/
def ktxt (e : Int) (s : KS) : List UInt8 := kpre ++ (K.decI e ++ 32 :: K.stTxt s.g s.t s.hd s.y s.l)
theorem dec_lenk (k : Nat) : ∀ n : Nat, n < 10 ^ (k + 1) → (Lib.decDigits n).length ≤ k + 1 := by
  induction k with
  | zero => intro n hn; rw [Go.Proofs.YtfkmaiiainbcbaaGreatDoor.dec_rec, if_pos (by simpa using hn)]; simp
  | succ k ih =>
    intro n hn
    rw [Go.Proofs.YtfkmaiiainbcbaaGreatDoor.dec_rec]
    split
    · simp
    · have := ih (n / 10) (by rw [Nat.pow_succ] at hn; omega)
      simp; omega
theorem ktxt_len {e : Int} (h1 : e ≤ 1000000) {s : KS} (h : s.f = 0) : (ktxt e s).length ≤ 64 := by
  have h49 := K.st_len49 s.y (KS.sok h)
  have h7 : (K.decI e).length ≤ 7 := dec_lenk 6 e.toNat (by omega)
  simp only [ktxt, List.length_append, List.length_cons, kpre, List.length_nil]
  omega
theorem joinW_mem : ∀ (ws : List (List UInt8)) (c : UInt8), c ∈ Go.Proofs.YtfkmaiiainbcbaaGreatDoor.joinW ws → c = 32 ∨ ∃ w ∈ ws, c ∈ w
  | [], c, h => by simp [Go.Proofs.YtfkmaiiainbcbaaGreatDoor.joinW, Lib.join, List.intercalate] at h
  | [w], c, h => by rw [Go.Proofs.YtfkmaiiainbcbaaGreatDoor.joinW_one] at h; exact .inr ⟨w, List.mem_cons_self, h⟩
  | w :: x :: ws, c, h => by
    rw [Go.Proofs.YtfkmaiiainbcbaaGreatDoor.joinW_cons] at h
    rcases List.mem_append.1 h with h | h
    · exact .inr ⟨w, List.mem_cons_self, h⟩
    · rcases List.mem_cons.1 h with h | h
      · exact .inl h
      · rcases joinW_mem (x :: ws) c h with h | ⟨v, hv, h⟩
        · exact .inl h
        · exact .inr ⟨v, List.mem_cons_of_mem _ hv, h⟩
theorem decI_nz (n : Int) : ∀ c ∈ K.decI n, c ≠ 0 := by
  rintro c hc rfl
  have := Go.Proofs.YtfkmaiiainbcbaaGreatDoor.dec_dig n.toNat 0 hc
  simp at this
theorem st_nz (s : KS) : ∀ c ∈ K.stTxt s.g s.t s.hd s.y s.l, c ≠ 0 := by
  intro c hc
  have hj : K.stTxt s.g s.t s.hd s.y s.l = Go.Proofs.YtfkmaiiainbcbaaGreatDoor.joinW ((K.stWords s.g s.t s.hd s.y s.l).map (·.data.toList)) := rfl
  rw [hj, K.stW_list] at hc
  rcases joinW_mem _ c hc with rfl | ⟨w, hw, hc⟩
  · decide
  · simp only [List.mem_cons, List.mem_map] at hw
    rcases hw with rfl | rfl | rfl | rfl | ⟨r, _, rfl⟩
    · exact decI_nz _ c hc
    · exact decI_nz _ c hc
    · exact decI_nz _ c hc
    · have : ∀ b, ∀ c ∈ K.staysL b, c ≠ 0 := by
        intro b; cases b <;> decide
      exact this _ c hc
    · rcases List.mem_append.1 hc with hc | hc
      · exact decI_nz _ c hc
      · rcases List.mem_cons.1 hc with rfl | hc
        · decide
        · exact decI_nz _ c hc
theorem ktxt_nz (e : Int) (s : KS) : ∀ c ∈ ktxt e s, c ≠ 0 := by
  intro c hc
  unfold ktxt at hc
  rcases List.mem_append.1 hc with hc | hc
  · have hk : ∀ c ∈ kpre, c ≠ 0 := by decide
    exact hk c hc
  · rcases List.mem_append.1 hc with hc | hc
    · exact decI_nz _ c hc
    · rcases List.mem_cons.1 hc with rfl | hc
      · decide
      · exact st_nz s c hc
/-- What is kept is another text than another one's. -/
theorem undSt : ∃ d, Tryz.prog.underlying 37 = some d ∧ d.isRow = true := ⟨_, Tryz.underlying37, rfl⟩
theorem szSt : (Tryz.prog.info? 37).map (·.size) = some 5 := by kernel_rfl
theorem load_stO {X : World} {b o : Nat} {T : TypeId} {cs : List Value} {s : KS} {a : Option Addr} {c : Nat} (h : At X b cs T) (hc : ∀ j, j < 5 → cs[o + j]? = (s.vs a c)[j]?) :
    (Instr.loadAt 37 (.pointer (some ⟨b, o, Option.none⟩))).run Tryz.prog X = .ok (.agg (s.vs a c).toArray) X := by
  obtain ⟨d, hd, hr⟩ := undSt
  exact run_loadAt_mid X b o _ (s.vs a c) d (h.range o (s.vs a c) (fun j hj => hc j (by simpa [KS.vs] using hj))) hd hr szSt
theorem load_st0 {X : World} {b : Nat} {T : TypeId} {s : KS} {a : Option Addr} {c : Nat} (h : At X b (s.vs a c) T) : (Instr.loadAt 37 (.pointer (some ⟨b, 0, Option.none⟩))).run Tryz.prog X = .ok (.agg (s.vs a c).toArray) X :=
  load_stO h (fun j _ => by rw [Nat.zero_add])
theorem store_stO {X : World} {b o : Nat} {T : TypeId} {cs : List Value} (s : KS) (a : Option Addr) (c : Nat) (h : At X b cs T) (ho : o + 5 ≤ cs.length) :
    (Instr.storeAt 37 (.pointer (some ⟨b, o, Option.none⟩)) (.agg (s.vs a c).toArray)).run Tryz.prog X = .ok () (X.setCells b o (s.vs a c)) :=
  run_storeAt_mid X b o _ (s.vs a c).toArray (by simpa [KS.vs] using h.there o 5 ho) szSt (all_oneCell_toArray (s.one a c))
theorem row_moved {F F' : Nat → Prop} {w w' : World} {a : Option Addr} {n : Nat} {l : List (Int × Int)} (h : Go.Proofs.YtfkmaiiainbcbaaGreatDoor.Row w a n l) (hm : Moved F F' w w') (hf : ∀ p, a = some p → n ≠ 0 → ¬ F p.block) : Go.Proofs.YtfkmaiiainbcbaaGreatDoor.Row w' a n l := by
  refine ⟨h.1, h.2.1, fun hn => ?_⟩
  obtain ⟨g, off, e, hc⟩ := h.2.2 hn
  have hf' := hf _ e hn
  exact ⟨g, off, e, fun i hi => ⟨hm.cell (hc i hi).1 hf', hm.cell (hc i hi).2 hf'⟩⟩
theorem row_lt {w : World} {a : Option Addr} {n : Nat} {l : List (Int × Int)} (h : Go.Proofs.YtfkmaiiainbcbaaGreatDoor.Row w a n l) (hn : n ≠ 0) : ∀ p, a = some p → p.block < w.heap.size := by
  intro p hp
  obtain ⟨g, off, e, hc⟩ := h.2.2 hn
  rw [e] at hp
  obtain rfl : (⟨g, off, Option.none⟩ : Addr) = p := by simpa using hp
  have h1 := (hc 0 (by rw [h.1]; omega)).1
  refine Nat.lt_of_not_le fun hge => ?_
  have hno : w.heap[g]? = Option.none := Array.getElem?_eq_none hge
  simp [World.cell?, hno] at h1
theorem clone_reg (a : Option Addr) (n c : Nat) (l : List (Int × Int)) (w : World) (hr : Go.Proofs.YtfkmaiiainbcbaaGreatDoor.Row w a n l) (hn : n ≤ 1000000) :
    Calls Tryz.prog 46 #[.slice a n c] w fun e w' => ∃ a' c', e = .returned (.slice a' n c') ∧ Go.Proofs.YtfkmaiiainbcbaaGreatDoor.Row w' a' n l ∧ (∀ p, a' = some p → w.heap.size ≤ p.block ∧ p.block < w'.heap.size) ∧ Below w.heap.size w w' := by
  cases a with
  | none =>
    have hn0 : n = 0 := by
      rcases Nat.eq_zero_or_pos n with h | h
      · exact h
      · obtain ⟨b, off, e, _⟩ := hr.2.2 (by omega)
        cases e
    refine (Go.Proofs.YtfkmaiiainbcbaaGreatDoor.clone_nil n c w).mono ?_
    rintro e _ ⟨rfl, rfl⟩
    subst hn0
    exact ⟨Option.none, 0, rfl, hr, fun p hp => (by cases hp), Below.refl _ _⟩
  | some ad =>
    refine (Go.Proofs.YtfkmaiiainbcbaaGreatDoor.clone_some ad n c l w hr hn).mono ?_
    rintro e w' ⟨g, cap, rfl, ho, hb⟩
    have hl := hr.1
    refine ⟨_, _, rfl, ?_, fun p hp => ?_, hb⟩
    · rw [← hl]; exact ho.row
    · obtain rfl : (⟨g, 0, Option.none⟩ : Addr) = p := by simpa using hp
      exact ⟨ho.1, ho.lt⟩
set_option maxRecDepth 100000 in
set_option maxHeartbeats 4000000 in
theorem kclone_any (s : KS) (a : Option Addr) (c : Nat) (w : World) (hr : Go.Proofs.YtfkmaiiainbcbaaGreatDoor.Row w a s.l.length s.l) (hn : s.l.length ≤ 1000000) :
    Calls Tryz.prog 31 #[.agg (s.vs a c).toArray] w fun e w' => ∃ a' c', e = .returned (.agg (s.vs a' c').toArray) ∧ Go.Proofs.YtfkmaiiainbcbaaGreatDoor.Row w' a' s.l.length s.l ∧ (∀ p, a' = some p → w.heap.size ≤ p.block ∧ p.block < w'.heap.size) ∧ Below w.heap.size w w' := by
  obtain ⟨X, hX, a0, a1, bX, sX⟩ := two w (.cells (s.vs a c).toArray 37) (.cells #[.int .i64 0, .slice Option.none 0 0, .int .i64 0, .int .i64 0, .bool false] 37)
  have A0 : At X w.heap.size (s.vs a c) 37 := a0
  have A1 : At X (w.heap.size + 1) (KS.none.vs Option.none 0) 37 := a1
  have HR : Hid (Go.Proofs.YtfkmaiiainbcbaaGreatDoor.Row X a s.l.length s.l) := hr.later bX
  have HB : Hid (Below w.heap.size w X) := bX
  have c1 : X.cell? ⟨w.heap.size, 1, Option.none⟩ = some (.slice a s.l.length c) := A0.cell 1
  clear a0 a1 hr bX
  go_enter Tryz.func31, Tryz.ntmps31
  go_upto_region 1 with fail
  rw [← hX]
  clear hX
  go_wp2_with fail
  refine (clone_reg a s.l.length c s.l X HR.out hn).mono ?_
  rintro r W1 ⟨a', c', rfl, hr', hq, b1⟩
  have hs1 := b1.size
  have A0' := A0.later b1 A0.lt
  have c2 : W1.cell? ⟨w.heap.size, 1, Option.none⟩ = some (.slice a s.l.length c) := A0'.cell 1
  have f1 : W1.frozen? ⟨w.heap.size, 1, Option.none⟩ = false := (A0'.there 1 1 (by simp [KS.vs]) 0 (by decide)).2
  have B0 : At (W1.setCell ⟨w.heap.size, 1, Option.none⟩ (.slice a' s.l.length c')) w.heap.size (s.vs a' c') 37 := A0'.setCell_same 1 (.slice a' s.l.length c')
  have B1 := (A1.later b1 A1.lt).setCell_ne ⟨w.heap.size, 1, Option.none⟩ (by simp) (.slice a' s.l.length c')
  have hbw : Below w.heap.size w (W1.setCell ⟨w.heap.size, 1, Option.none⟩ (.slice a' s.l.length c')) := (HB.out.trans (b1.mono HB.out.size)).setCell (p := ⟨w.heap.size, 1, Option.none⟩) (Nat.le_refl _) _
  have hr2 : Go.Proofs.YtfkmaiiainbcbaaGreatDoor.Row (W1.setCell ⟨w.heap.size, 1, Option.none⟩ (.slice a' s.l.length c')) a' s.l.length s.l := row_moved hr' ((Moved.refl (Is w.heap.size) _).one_set 1 _) (fun p hp _ e => by have := (hq p hp).1; have : p.block = w.heap.size := e; omega)
  clear A0 A0' A1 HR HB c1
  go_upto_region 2 with fail
  generalize hW2 : W1.setCell ⟨w.heap.size, 1, Option.none⟩ (.slice a' s.l.length c') = W2 at *
  have hs2 : W2.heap.size = W1.heap.size := by rw [← hW2]; simp [World.setCell]
  clear c2 f1 hW2 hr'
  have HL : Hid ((Instr.loadAt 37 (.pointer (some ⟨w.heap.size, 0, Option.none⟩))).run Tryz.prog W2 = .ok (.agg (s.vs a' c').toArray) W2) := load_st0 B0
  have hst := store_stO (o := 0) s a' c' B1 (by simp [KS.vs])
  have B2 := At.set (s.vs a' c') 0 _ _ B1
  rw [setL_whole _ _ (by simp [KS.vs])] at B2
  have b2 := below_setCells (show w.heap.size ≤ w.heap.size + 1 by omega) (s.vs a' c') 0 _ hbw
  have hs3 := size_setCells (w.heap.size + 1) (s.vs a' c') 0 W2
  have hr3 : Go.Proofs.YtfkmaiiainbcbaaGreatDoor.Row (W2.setCells (w.heap.size + 1) 0 (s.vs a' c')) a' s.l.length s.l := row_moved hr2 (Moved.sets (show Is (w.heap.size + 1) (w.heap.size + 1) from rfl) _ _ _ (Moved.refl _ _)) (fun p hp _ e => by have := (hq p hp).1; have : p.block = w.heap.size + 1 := e; omega)
  generalize W2.setCells (w.heap.size + 1) 0 (s.vs a' c') = W3 at *
  have HST : Hid ((Instr.storeAt 37 (.pointer (some ⟨w.heap.size + 1, 0, Option.none⟩)) (.agg (s.vs a' c').toArray)).run Tryz.prog W2 = .ok () W3) := hst
  have HR : Hid ((Instr.loadAt 37 (.pointer (some ⟨w.heap.size + 1, 0, Option.none⟩))).run Tryz.prog W3 = .ok (.agg (s.vs a' c').toArray) W3) := load_st0 B2
  clear hst B0 B1 B2 hbw hr2
  go_wp2_with (first | (with_reducible refine wl_load HL.out rfl rfl ?_) | (with_reducible refine wl_store HST.out rfl rfl ?_))
  refine bodyPost_ret (ret_one Tryz.results31 rfl HR.out) rfl ⟨a', c', rfl, hr3, fun p hp => ?_, b2⟩
  have := hq p hp
  omega
end Go.Proofs.YtfkmaiiainbcbaaGreatDoor.D
