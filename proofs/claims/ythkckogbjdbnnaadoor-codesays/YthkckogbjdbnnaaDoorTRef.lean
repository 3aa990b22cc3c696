/- What the document's CommandText answers of a command that may be. No statement of the seat is proved here. -/
import Derived.Test.YthkckogbjdbnnaaDoorTText
namespace Go.Proofs.YthkckogbjdbnnaaDoor.K
open Go.ChangeShapes Go.WideShapes Go.ChangeAt Go.RowKit Go.Maps

/-- A world that is later than w. -/
structure LW (w : World) where
  val : World
  ok : Below w.heap.size w val
theorem Calls.quiet_lw {P : Program} {f : FuncId} {args : Array Value} {wr : World} {p : LW wr} {v : Value} (h : Calls P f args p.val fun e w' => e = .returned v ∧ Below p.val.heap.size p.val w') : Calls P f args p.val fun e w'' => e = .returned v ∧ ∃ q : LW wr, w'' = q.val :=
  h.mono fun _ w' ⟨he, hb⟩ => ⟨he, ⟨w', p.ok.trans (hb.mono p.ok.size)⟩, rfl⟩
theorem wp_region_lw {P : Program} {id : Nat} {Q : Exit → Act → World → Prop} {a : Act} {w : World} {l : List Oper} (hm : P.follows .mixedOrders = true) (hB : Region.lexB .any l.toArray = true)
    (h : wpQuiet P l.toArray (fun w' => ∃ p : LW w, w' = p.val) (fun a' => ∀ w', (∃ p : LW w, w' = p.val) → Q .normal a' w') l a) : (Code.region id l.toArray true).wp P Q a w :=
  wp_region_quiet (C := fun w' => ∃ p : LW w, w' = p.val) hm hB ⟨⟨w.drew, (Below.refl _ _).drew⟩, rfl⟩ (by simpa using h)
theorem quiet_same {P : Program} {f : FuncId} {args : Array Value} {wr : World} {p : LW wr} {v : Value} (h : Calls P f args p.val fun e w' => e = .returned v ∧ w' = p.val) : Calls P f args p.val fun e w'' => e = .returned v ∧ ∃ q : LW wr, w'' = q.val :=
  h.mono fun _ _ ⟨he, hb⟩ => ⟨he, p, hb⟩
theorem decimal_int (n : Int) (h0 : 0 ≤ n) (h1 : n ≤ 1000000) (w : World) : Calls Tryd.prog 36 #[.int .i64 n] w fun e w' => e = .returned (.string (decB n)) ∧ Below w.heap.size w w' := by
  have := decimal_any n.toNat (by omega) w
  rw [show ((n.toNat : Nat) : Int) = n by omega] at this
  exact this
theorem staysR_any (b : Bool) (w : World) : Calls Tryd.prog 37 #[.bool b] w fun e w' => e = .returned (.string (staysT b)) ∧ w' = w := staysWord_any b w
theorem decB_size {n : Int} (h : n ≤ 1000000000) : (decB n).size ≤ 10 := by
  have := dec_len h
  show (decI n).toArray.size ≤ 10
  simpa using this

theorem ty_range0 {c : Cmd} (F : Full c) : 0 ≤ c.kind ∧ c.kind ≤ 8 := by
  by_cases h : c.op = 3 ∨ c.op = 4 ∨ c.op = 6
  · have := F.ty h
    simp only [typeB, Bool.or_eq_true, beq_iff_eq] at this
    omega
  · rw [F.noty h]; omega
theorem dataW_size {s : ByteArray} (h : s.size ≤ 8) : (dataW s).size ≤ 10 := by
  unfold dataW
  split
  · decide
  · omega
theorem bytes_ext {a b : ByteArray} (h : a.data.toList = b.data.toList) : a = b := ByteArray.ext (Array.toList_inj.1 h)
theorem staysT_list (b : Bool) : (staysT b).data.toList = staysL b := by cases b <;> rfl

set_option maxRecDepth 100000 in
set_option maxHeartbeats 8000000 in
theorem rtext_ok (op who key new ty at' : Int) (st : Bool) (d wt : ByteArray) (w : World) (hf : cmdF op who key new ty at' st d wt = 0) :
    Calls Tryd.prog 10 #[cmdA op who key new ty at' st d wt] w fun e w' => e = .returned (.tuple #[.string ⟨(txtC ⟨op, who, key, new, ty, at', st, d, wt⟩).toArray⟩, .int .i64 0]) ∧ Below w.heap.size w w' := by
  have F : Full ⟨op, who, key, new, ty, at', st, d, wt⟩ := full_of hf
  have hd : d.size ≤ 9223372036854775807 := by have := F.da8; simp only at this; omega
  have hwt : wt.size ≤ 9223372036854775807 := by have := F.wa8; simp only at this; omega
  obtain ⟨X, hX⟩ : ∃ X, X = w.alloc (.cells #[.int .i64 op, .int .i64 who, .int .i64 key, .int .i64 new, .int .i64 ty, .int .i64 at', .bool st, .string d, .string wt] 23) := ⟨_, rfl⟩
  have bX : Below w.heap.size w X := by rw [hX]; exact (Below.refl _ _).alloc (Nat.le_refl _) _
  have C0 : CB X w.heap.size op who key new ty at' st d wt := by rw [hX]; exact heap_alloc_new w _
  go_enter Tryd.func10, Tryd.ntmps10
  go_wp2_with fail
  rw [← hX]
  clear hX
  refine (fault_any op who key new ty at' st d wt hd hwt X).mono ?_
  rintro e w1 ⟨rfl, hb1⟩
  rw [hf]
  have bw := bX.trans (hb1.mono bX.size)
  have C := C0.later hb1 C0.lt
  clear C0 hb1 bX hf hd hwt
  have hCl := C.lt
  have HT : Hid (txtC ⟨op, who, key, new, ty, at', st, d, wt⟩ = joinW (decI who :: (wordOf op).data.toList :: partsC ⟨op, who, key, new, ty, at', st, d, wt⟩)) := rfl
  obtain ⟨A1, hA1⟩ : ∃ A, A = decB who := ⟨_, rfl⟩
  obtain ⟨A2, hA2⟩ : ∃ A, A = decB key := ⟨_, rfl⟩
  obtain ⟨A3, hA3⟩ : ∃ A, A = decB new := ⟨_, rfl⟩
  obtain ⟨A4, hA4⟩ : ∃ A, A = decB ty := ⟨_, rfl⟩
  obtain ⟨A5, hA5⟩ : ∃ A, A = decB at' := ⟨_, rfl⟩
  obtain ⟨T, hT⟩ : ∃ A, A = staysT st := ⟨_, rfl⟩
  obtain ⟨D1, hD1⟩ : ∃ A, A = dataW d := ⟨_, rfl⟩
  obtain ⟨D2, hD2⟩ : ∃ A, A = dataW wt := ⟨_, rfl⟩
  have hop : op = 1 ∨ op = 2 ∨ op = 3 ∨ op = 4 ∨ op = 5 ∨ op = 6 ∨ op = 7 ∨ op = 8 ∨ op = 9 := by have h1 := F.op1; have h2 := F.op9; simp only at h1 h2; omega
  have zA1 : A1.size ≤ 10 := by rw [hA1]; exact decB_size (by have := F.who4; simp only at this; omega)
  have HA1 : Hid (∀ w, Calls Tryd.prog 36 #[.int .i64 who] w fun e w' => e = .returned (.string A1) ∧ Below w.heap.size w w') := by rw [hA1]; exact decimal_int who (by have := F.who1; simp only at this; omega) (by have := F.who4; simp only at this; omega)
  have zA2 : A2.size ≤ 10 := by rw [hA2]; exact decB_size (by have := F.key9; simp only at this; omega)
  have HA2 : Hid (∀ w, Calls Tryd.prog 36 #[.int .i64 key] w fun e w' => e = .returned (.string A2) ∧ Below w.heap.size w w') := by rw [hA2]; exact decimal_int key (by have := F.key0; simp only at this; omega) (by have := F.key9; simp only at this; omega)
  have zA3 : A3.size ≤ 10 := by rw [hA3]; exact decB_size (by have := F.new9; simp only at this; omega)
  have HA3 : Hid (∀ w, Calls Tryd.prog 36 #[.int .i64 new] w fun e w' => e = .returned (.string A3) ∧ Below w.heap.size w w') := by rw [hA3]; exact decimal_int new (by have := F.new0; simp only at this; omega) (by have := F.new9; simp only at this; omega)
  have zA4 : A4.size ≤ 10 := by rw [hA4]; exact decB_size (by have := (ty_range0 F).2; simp only at this; omega)
  have HA4 : Hid (∀ w, Calls Tryd.prog 36 #[.int .i64 ty] w fun e w' => e = .returned (.string A4) ∧ Below w.heap.size w w') := by rw [hA4]; exact decimal_int ty (by have := (ty_range0 F).1; simp only at this; omega) (by have := (ty_range0 F).2; simp only at this; omega)
  have zA5 : A5.size ≤ 10 := by rw [hA5]; exact decB_size (by have := F.at7; simp only at this; omega)
  have HA5 : Hid (∀ w, Calls Tryd.prog 36 #[.int .i64 at'] w fun e w' => e = .returned (.string A5) ∧ Below w.heap.size w w') := by rw [hA5]; exact decimal_int at' (by have := F.at0; simp only at this; omega) (by have := F.at7; simp only at this; omega)
  have zT : T.size ≤ 10 := by rw [hT]; cases st <;> decide
  have HT1 : Hid (∀ w, Calls Tryd.prog 37 #[.bool st] w fun e w' => e = .returned (.string T) ∧ w' = w) := by rw [hT]; exact staysR_any st
  have zD1 : D1.size ≤ 10 := by rw [hD1]; exact dataW_size F.da8
  have HD1 : Hid (∀ w, Calls Tryd.prog 38 #[.string d] w fun e w' => e = .returned (.string D1) ∧ w' = w) := by rw [hD1]; exact dataWord_any d
  have zD2 : D2.size ≤ 10 := by rw [hD2]; exact dataW_size F.wa8
  have HD2 : Hid (∀ w, Calls Tryd.prog 38 #[.string wt] w fun e w' => e = .returned (.string D2) ∧ w' = w) := by rw [hD2]; exact dataWord_any wt
  have z2 : (wordOf op).size ≤ 10 := by rcases hop with e | e | e | e | e | e | e | e | e <;> rw [e] <;> decide
  have HA : Hid (A1 = decB who ∧ A2 = decB key ∧ A3 = decB new ∧ A4 = decB ty ∧ A5 = decB at' ∧ T = staysT st ∧ D1 = dataW d ∧ D2 = dataW wt) := ⟨hA1, hA2, hA3, hA4, hA5, hT, hD1, hD2⟩
  clear hA1 hA2 hA3 hA4 hA5 hT hD1 hD2 F
  obtain ⟨Y, hY⟩ : ∃ Y, Y = w1.alloc (.cells #[.string ⟨#[]⟩, .string ⟨#[114, 101, 103, 105, 115, 116, 101, 114]⟩, .string ⟨#[105, 103, 110, 111, 114, 101]⟩, .string ⟨#[114, 101, 115, 101, 114, 118, 101]⟩, .string ⟨#[114, 101, 108, 101, 97, 115, 101]⟩, .string ⟨#[99, 108, 101, 97, 114]⟩, .string ⟨#[112, 114, 101, 101, 109, 112, 116]⟩, .string ⟨#[114, 101, 97, 100]⟩, .string ⟨#[119, 114, 105, 116, 101]⟩, .string ⟨#[99, 111, 109, 112, 97, 114, 101]⟩] 9) := ⟨_, rfl⟩
  have bY : Below w1.heap.size w1 Y := by rw [hY]; exact (Below.refl _ _).alloc (Nat.le_refl _) _
  have N0 : Y.heap[w1.heap.size]? = some (.cells #[.string ⟨#[]⟩, .string ⟨#[114, 101, 103, 105, 115, 116, 101, 114]⟩, .string ⟨#[105, 103, 110, 111, 114, 101]⟩, .string ⟨#[114, 101, 115, 101, 114, 118, 101]⟩, .string ⟨#[114, 101, 108, 101, 97, 115, 101]⟩, .string ⟨#[99, 108, 101, 97, 114]⟩, .string ⟨#[112, 114, 101, 101, 109, 112, 116]⟩, .string ⟨#[114, 101, 97, 100]⟩, .string ⟨#[119, 114, 105, 116, 101]⟩, .string ⟨#[99, 111, 109, 112, 97, 114, 101]⟩] 9 (0, 0)) := by rw [hY]; exact heap_alloc_new w1 _
  have n0 : Y.cell? ⟨w1.heap.size, op.toNat, Option.none⟩ = some (.string (wordOf op)) := by rcases hop with rfl | rfl | rfl | rfl | rfl | rfl | rfl | rfl | rfl <;> simp [World.cell?, N0] <;> rfl
  obtain ⟨c0, c1, c2, c3, c4, c5, c6, c7, c8⟩ := cells9 (C.later bY hCl)
  have CY := C.later bY hCl
  have bw := bw.trans (bY.mono bw.size)
  have q0 : ∀ p : LW Y, p.val.cell? ⟨w.heap.size, 0, Option.none⟩ = some (.int .i64 op) := fun p => cell_later p.ok c0
  have q1 : ∀ p : LW Y, p.val.cell? ⟨w.heap.size, 1, Option.none⟩ = some (.int .i64 who) := fun p => cell_later p.ok c1
  have qn : ∀ p : LW Y, p.val.cell? ⟨w1.heap.size, op.toNat, Option.none⟩ = some (.string (wordOf op)) := fun p => cell_later p.ok n0
  have hinh : Nonempty (LW Y) := ⟨⟨Y, Below.refl _ _⟩⟩
  obtain ⟨W, hW⟩ : ∃ W, W = wordOf op := ⟨_, rfl⟩
  rw [← hW] at qn z2
  have HW : Hid (W = wordOf op) := hW
  clear N0 n0 c0 c1 c2 c3 c4 c5 c6 c7 c8 hW bY C
  rcases hop with rfl | rfl | rfl | rfl | rfl | rfl | rfl | rfl | rfl
  case inl =>
    simp only [show ((1 : Int)).toNat = 1 from rfl] at qn
    go_wp2_with fail
    rw [← hY]
    clear hY
    refine wp_region_lw (by kernel_rfl) (by kernel_rfl) ?_
    repeat (go_big_quiet_step ((go_at_call 36; exact Calls.quiet_lw (HA1.out _))))
    refine wpQuiet_nil ?_
    rintro w2 ⟨p, hp⟩
    have hbq : Below Y.heap.size Y w2 := by rw [hp]; exact p.ok
    have bw := bw.trans (hbq.mono bw.size)
    have C2 := CY.later hbq CY.lt
    clear hp p q0 q1 qn hinh
    obtain ⟨S1, hS1⟩ : ∃ S1, S1 = A1 ++ ⟨#[32]⟩ ++ W := ⟨_, rfl⟩
    rw [← hS1]
    have zS : S1.size ≤ 21 := by rw [hS1, ByteArray.size_append', ByteArray.size_append']; have : (⟨#[32]⟩ : ByteArray).size = 1 := rfl; omega
    have HS : Hid (S1 = A1 ++ ⟨#[32]⟩ ++ W) := hS1
    clear hS1
    obtain ⟨c0, c1, c2, c3, c4, c5, c6, c7, c8⟩ := cells9 C2
    have q2 : ∀ p : LW w2, p.val.cell? ⟨w.heap.size, 2, Option.none⟩ = some (.int .i64 key) := fun p => cell_later p.ok c2
    have q3 : ∀ p : LW w2, p.val.cell? ⟨w.heap.size, 3, Option.none⟩ = some (.int .i64 new) := fun p => cell_later p.ok c3
    have q4 : ∀ p : LW w2, p.val.cell? ⟨w.heap.size, 4, Option.none⟩ = some (.int .i64 ty) := fun p => cell_later p.ok c4
    have q5 : ∀ p : LW w2, p.val.cell? ⟨w.heap.size, 5, Option.none⟩ = some (.int .i64 at') := fun p => cell_later p.ok c5
    have q6 : ∀ p : LW w2, p.val.cell? ⟨w.heap.size, 6, Option.none⟩ = some (.bool st) := fun p => cell_later p.ok c6
    have q7 : ∀ p : LW w2, p.val.cell? ⟨w.heap.size, 7, Option.none⟩ = some (.string d) := fun p => cell_later p.ok c7
    have q8 : ∀ p : LW w2, p.val.cell? ⟨w.heap.size, 8, Option.none⟩ = some (.string wt) := fun p => cell_later p.ok c8
    have hinh : Nonempty (LW w2) := ⟨⟨w2, Below.refl _ _⟩⟩
    go_wp2_with fail
    refine wp_region_lw (by kernel_rfl) (by kernel_rfl) ?_
    repeat (go_big_quiet_step (first | (go_at_call 36; first | with_reducible exact Calls.quiet_lw (HA2.out _) | with_reducible exact Calls.quiet_lw (HA3.out _) | with_reducible exact Calls.quiet_lw (HA4.out _) | with_reducible exact Calls.quiet_lw (HA5.out _)) | (go_at_call 37; exact quiet_same (HT1.out _)) | (go_at_call 38; first | with_reducible exact quiet_same (HD1.out _) | with_reducible exact quiet_same (HD2.out _))))
    refine wpQuiet_nil ?_
    rintro w3 ⟨p, hp⟩
    have hbq : Below w2.heap.size w2 w3 := by rw [hp]; exact p.ok
    have bw := bw.trans (hbq.mono bw.size)
    clear hp p
    go_wp2
    go_ret2
    refine ⟨?_, bw⟩
    obtain ⟨e1, e2, e3, _, _, e6, _, _⟩ := HA.out
    rw [HT.out, HS.out, HW.out, e1]
    refine congrArg (fun x => Ending.returned (Value.tuple #[Value.string x, .int .i64 0])) ?_
    apply bytes_ext
    simp [partsC, joinW_cons, joinW_one, decB, e2, e3, e6, staysT_list]
  case inr.inl =>
    simp only [show ((2 : Int)).toNat = 2 from rfl] at qn
    go_wp2_with fail
    rw [← hY]
    clear hY
    refine wp_region_lw (by kernel_rfl) (by kernel_rfl) ?_
    repeat (go_big_quiet_step ((go_at_call 36; exact Calls.quiet_lw (HA1.out _))))
    refine wpQuiet_nil ?_
    rintro w2 ⟨p, hp⟩
    have hbq : Below Y.heap.size Y w2 := by rw [hp]; exact p.ok
    have bw := bw.trans (hbq.mono bw.size)
    have C2 := CY.later hbq CY.lt
    clear hp p q0 q1 qn hinh
    obtain ⟨S1, hS1⟩ : ∃ S1, S1 = A1 ++ ⟨#[32]⟩ ++ W := ⟨_, rfl⟩
    rw [← hS1]
    have zS : S1.size ≤ 21 := by rw [hS1, ByteArray.size_append', ByteArray.size_append']; have : (⟨#[32]⟩ : ByteArray).size = 1 := rfl; omega
    have HS : Hid (S1 = A1 ++ ⟨#[32]⟩ ++ W) := hS1
    clear hS1
    obtain ⟨c0, c1, c2, c3, c4, c5, c6, c7, c8⟩ := cells9 C2
    have q2 : ∀ p : LW w2, p.val.cell? ⟨w.heap.size, 2, Option.none⟩ = some (.int .i64 key) := fun p => cell_later p.ok c2
    have q3 : ∀ p : LW w2, p.val.cell? ⟨w.heap.size, 3, Option.none⟩ = some (.int .i64 new) := fun p => cell_later p.ok c3
    have q4 : ∀ p : LW w2, p.val.cell? ⟨w.heap.size, 4, Option.none⟩ = some (.int .i64 ty) := fun p => cell_later p.ok c4
    have q5 : ∀ p : LW w2, p.val.cell? ⟨w.heap.size, 5, Option.none⟩ = some (.int .i64 at') := fun p => cell_later p.ok c5
    have q6 : ∀ p : LW w2, p.val.cell? ⟨w.heap.size, 6, Option.none⟩ = some (.bool st) := fun p => cell_later p.ok c6
    have q7 : ∀ p : LW w2, p.val.cell? ⟨w.heap.size, 7, Option.none⟩ = some (.string d) := fun p => cell_later p.ok c7
    have q8 : ∀ p : LW w2, p.val.cell? ⟨w.heap.size, 8, Option.none⟩ = some (.string wt) := fun p => cell_later p.ok c8
    have hinh : Nonempty (LW w2) := ⟨⟨w2, Below.refl _ _⟩⟩
    go_wp2_with fail
    refine wp_region_lw (by kernel_rfl) (by kernel_rfl) ?_
    repeat (go_big_quiet_step (first | (go_at_call 36; first | with_reducible exact Calls.quiet_lw (HA2.out _) | with_reducible exact Calls.quiet_lw (HA3.out _) | with_reducible exact Calls.quiet_lw (HA4.out _) | with_reducible exact Calls.quiet_lw (HA5.out _)) | (go_at_call 37; exact quiet_same (HT1.out _)) | (go_at_call 38; first | with_reducible exact quiet_same (HD1.out _) | with_reducible exact quiet_same (HD2.out _))))
    refine wpQuiet_nil ?_
    rintro w3 ⟨p, hp⟩
    have hbq : Below w2.heap.size w2 w3 := by rw [hp]; exact p.ok
    have bw := bw.trans (hbq.mono bw.size)
    clear hp p
    go_wp2
    go_ret2
    refine ⟨?_, bw⟩
    obtain ⟨e1, e2, e3, _, _, e6, _, _⟩ := HA.out
    rw [HT.out, HS.out, HW.out, e1]
    refine congrArg (fun x => Ending.returned (Value.tuple #[Value.string x, .int .i64 0])) ?_
    apply bytes_ext
    simp [partsC, joinW_cons, joinW_one, decB, e2, e3, e6, staysT_list]
  case inr.inr.inl =>
    simp only [show ((3 : Int)).toNat = 3 from rfl] at qn
    go_wp2_with fail
    rw [← hY]
    clear hY
    refine wp_region_lw (by kernel_rfl) (by kernel_rfl) ?_
    repeat (go_big_quiet_step ((go_at_call 36; exact Calls.quiet_lw (HA1.out _))))
    refine wpQuiet_nil ?_
    rintro w2 ⟨p, hp⟩
    have hbq : Below Y.heap.size Y w2 := by rw [hp]; exact p.ok
    have bw := bw.trans (hbq.mono bw.size)
    have C2 := CY.later hbq CY.lt
    clear hp p q0 q1 qn hinh
    obtain ⟨S1, hS1⟩ : ∃ S1, S1 = A1 ++ ⟨#[32]⟩ ++ W := ⟨_, rfl⟩
    rw [← hS1]
    have zS : S1.size ≤ 21 := by rw [hS1, ByteArray.size_append', ByteArray.size_append']; have : (⟨#[32]⟩ : ByteArray).size = 1 := rfl; omega
    have HS : Hid (S1 = A1 ++ ⟨#[32]⟩ ++ W) := hS1
    clear hS1
    obtain ⟨c0, c1, c2, c3, c4, c5, c6, c7, c8⟩ := cells9 C2
    have q2 : ∀ p : LW w2, p.val.cell? ⟨w.heap.size, 2, Option.none⟩ = some (.int .i64 key) := fun p => cell_later p.ok c2
    have q3 : ∀ p : LW w2, p.val.cell? ⟨w.heap.size, 3, Option.none⟩ = some (.int .i64 new) := fun p => cell_later p.ok c3
    have q4 : ∀ p : LW w2, p.val.cell? ⟨w.heap.size, 4, Option.none⟩ = some (.int .i64 ty) := fun p => cell_later p.ok c4
    have q5 : ∀ p : LW w2, p.val.cell? ⟨w.heap.size, 5, Option.none⟩ = some (.int .i64 at') := fun p => cell_later p.ok c5
    have q6 : ∀ p : LW w2, p.val.cell? ⟨w.heap.size, 6, Option.none⟩ = some (.bool st) := fun p => cell_later p.ok c6
    have q7 : ∀ p : LW w2, p.val.cell? ⟨w.heap.size, 7, Option.none⟩ = some (.string d) := fun p => cell_later p.ok c7
    have q8 : ∀ p : LW w2, p.val.cell? ⟨w.heap.size, 8, Option.none⟩ = some (.string wt) := fun p => cell_later p.ok c8
    have hinh : Nonempty (LW w2) := ⟨⟨w2, Below.refl _ _⟩⟩
    go_wp2_with fail
    refine wp_region_lw (by kernel_rfl) (by kernel_rfl) ?_
    repeat (go_big_quiet_step (first | (go_at_call 36; first | with_reducible exact Calls.quiet_lw (HA2.out _) | with_reducible exact Calls.quiet_lw (HA3.out _) | with_reducible exact Calls.quiet_lw (HA4.out _) | with_reducible exact Calls.quiet_lw (HA5.out _)) | (go_at_call 37; exact quiet_same (HT1.out _)) | (go_at_call 38; first | with_reducible exact quiet_same (HD1.out _) | with_reducible exact quiet_same (HD2.out _))))
    refine wpQuiet_nil ?_
    rintro w3 ⟨p, hp⟩
    have hbq : Below w2.heap.size w2 w3 := by rw [hp]; exact p.ok
    have bw := bw.trans (hbq.mono bw.size)
    clear hp p
    go_wp2
    go_ret2
    refine ⟨?_, bw⟩
    obtain ⟨e1, e2, _, e4, _, _, _, _⟩ := HA.out
    rw [HT.out, HS.out, HW.out, e1]
    refine congrArg (fun x => Ending.returned (Value.tuple #[Value.string x, .int .i64 0])) ?_
    apply bytes_ext
    simp [partsC, joinW_cons, joinW_one, decB, e2, e4]
  case inr.inr.inr.inl =>
    simp only [show ((4 : Int)).toNat = 4 from rfl] at qn
    go_wp2_with fail
    rw [← hY]
    clear hY
    refine wp_region_lw (by kernel_rfl) (by kernel_rfl) ?_
    repeat (go_big_quiet_step ((go_at_call 36; exact Calls.quiet_lw (HA1.out _))))
    refine wpQuiet_nil ?_
    rintro w2 ⟨p, hp⟩
    have hbq : Below Y.heap.size Y w2 := by rw [hp]; exact p.ok
    have bw := bw.trans (hbq.mono bw.size)
    have C2 := CY.later hbq CY.lt
    clear hp p q0 q1 qn hinh
    obtain ⟨S1, hS1⟩ : ∃ S1, S1 = A1 ++ ⟨#[32]⟩ ++ W := ⟨_, rfl⟩
    rw [← hS1]
    have zS : S1.size ≤ 21 := by rw [hS1, ByteArray.size_append', ByteArray.size_append']; have : (⟨#[32]⟩ : ByteArray).size = 1 := rfl; omega
    have HS : Hid (S1 = A1 ++ ⟨#[32]⟩ ++ W) := hS1
    clear hS1
    obtain ⟨c0, c1, c2, c3, c4, c5, c6, c7, c8⟩ := cells9 C2
    have q2 : ∀ p : LW w2, p.val.cell? ⟨w.heap.size, 2, Option.none⟩ = some (.int .i64 key) := fun p => cell_later p.ok c2
    have q3 : ∀ p : LW w2, p.val.cell? ⟨w.heap.size, 3, Option.none⟩ = some (.int .i64 new) := fun p => cell_later p.ok c3
    have q4 : ∀ p : LW w2, p.val.cell? ⟨w.heap.size, 4, Option.none⟩ = some (.int .i64 ty) := fun p => cell_later p.ok c4
    have q5 : ∀ p : LW w2, p.val.cell? ⟨w.heap.size, 5, Option.none⟩ = some (.int .i64 at') := fun p => cell_later p.ok c5
    have q6 : ∀ p : LW w2, p.val.cell? ⟨w.heap.size, 6, Option.none⟩ = some (.bool st) := fun p => cell_later p.ok c6
    have q7 : ∀ p : LW w2, p.val.cell? ⟨w.heap.size, 7, Option.none⟩ = some (.string d) := fun p => cell_later p.ok c7
    have q8 : ∀ p : LW w2, p.val.cell? ⟨w.heap.size, 8, Option.none⟩ = some (.string wt) := fun p => cell_later p.ok c8
    have hinh : Nonempty (LW w2) := ⟨⟨w2, Below.refl _ _⟩⟩
    go_wp2_with fail
    refine wp_region_lw (by kernel_rfl) (by kernel_rfl) ?_
    repeat (go_big_quiet_step (first | (go_at_call 36; first | with_reducible exact Calls.quiet_lw (HA2.out _) | with_reducible exact Calls.quiet_lw (HA3.out _) | with_reducible exact Calls.quiet_lw (HA4.out _) | with_reducible exact Calls.quiet_lw (HA5.out _)) | (go_at_call 37; exact quiet_same (HT1.out _)) | (go_at_call 38; first | with_reducible exact quiet_same (HD1.out _) | with_reducible exact quiet_same (HD2.out _))))
    refine wpQuiet_nil ?_
    rintro w3 ⟨p, hp⟩
    have hbq : Below w2.heap.size w2 w3 := by rw [hp]; exact p.ok
    have bw := bw.trans (hbq.mono bw.size)
    clear hp p
    go_wp2
    go_ret2
    refine ⟨?_, bw⟩
    obtain ⟨e1, e2, _, e4, _, _, _, _⟩ := HA.out
    rw [HT.out, HS.out, HW.out, e1]
    refine congrArg (fun x => Ending.returned (Value.tuple #[Value.string x, .int .i64 0])) ?_
    apply bytes_ext
    simp [partsC, joinW_cons, joinW_one, decB, e2, e4]
  case inr.inr.inr.inr.inl =>
    simp only [show ((5 : Int)).toNat = 5 from rfl] at qn
    go_wp2_with fail
    rw [← hY]
    clear hY
    refine wp_region_lw (by kernel_rfl) (by kernel_rfl) ?_
    repeat (go_big_quiet_step ((go_at_call 36; exact Calls.quiet_lw (HA1.out _))))
    refine wpQuiet_nil ?_
    rintro w2 ⟨p, hp⟩
    have hbq : Below Y.heap.size Y w2 := by rw [hp]; exact p.ok
    have bw := bw.trans (hbq.mono bw.size)
    have C2 := CY.later hbq CY.lt
    clear hp p q0 q1 qn hinh
    obtain ⟨S1, hS1⟩ : ∃ S1, S1 = A1 ++ ⟨#[32]⟩ ++ W := ⟨_, rfl⟩
    rw [← hS1]
    have zS : S1.size ≤ 21 := by rw [hS1, ByteArray.size_append', ByteArray.size_append']; have : (⟨#[32]⟩ : ByteArray).size = 1 := rfl; omega
    have HS : Hid (S1 = A1 ++ ⟨#[32]⟩ ++ W) := hS1
    clear hS1
    obtain ⟨c0, c1, c2, c3, c4, c5, c6, c7, c8⟩ := cells9 C2
    go_wp2_with fail
    refine (HA2.out w2).mono ?_
    rintro e w3 ⟨rfl, hbq⟩
    have bw := bw.trans (hbq.mono bw.size)
    go_wp2
    go_ret2
    refine ⟨?_, bw⟩
    obtain ⟨e1, e2, _, _, _, _, _, _⟩ := HA.out
    rw [HT.out, HS.out, HW.out, e1]
    refine congrArg (fun x => Ending.returned (Value.tuple #[Value.string x, .int .i64 0])) ?_
    apply bytes_ext
    simp [partsC, joinW_cons, joinW_one, decB, e2]
  case inr.inr.inr.inr.inr.inl =>
    simp only [show ((6 : Int)).toNat = 6 from rfl] at qn
    go_wp2_with fail
    rw [← hY]
    clear hY
    refine wp_region_lw (by kernel_rfl) (by kernel_rfl) ?_
    repeat (go_big_quiet_step ((go_at_call 36; exact Calls.quiet_lw (HA1.out _))))
    refine wpQuiet_nil ?_
    rintro w2 ⟨p, hp⟩
    have hbq : Below Y.heap.size Y w2 := by rw [hp]; exact p.ok
    have bw := bw.trans (hbq.mono bw.size)
    have C2 := CY.later hbq CY.lt
    clear hp p q0 q1 qn hinh
    obtain ⟨S1, hS1⟩ : ∃ S1, S1 = A1 ++ ⟨#[32]⟩ ++ W := ⟨_, rfl⟩
    rw [← hS1]
    have zS : S1.size ≤ 21 := by rw [hS1, ByteArray.size_append', ByteArray.size_append']; have : (⟨#[32]⟩ : ByteArray).size = 1 := rfl; omega
    have HS : Hid (S1 = A1 ++ ⟨#[32]⟩ ++ W) := hS1
    clear hS1
    obtain ⟨c0, c1, c2, c3, c4, c5, c6, c7, c8⟩ := cells9 C2
    have q2 : ∀ p : LW w2, p.val.cell? ⟨w.heap.size, 2, Option.none⟩ = some (.int .i64 key) := fun p => cell_later p.ok c2
    have q3 : ∀ p : LW w2, p.val.cell? ⟨w.heap.size, 3, Option.none⟩ = some (.int .i64 new) := fun p => cell_later p.ok c3
    have q4 : ∀ p : LW w2, p.val.cell? ⟨w.heap.size, 4, Option.none⟩ = some (.int .i64 ty) := fun p => cell_later p.ok c4
    have q5 : ∀ p : LW w2, p.val.cell? ⟨w.heap.size, 5, Option.none⟩ = some (.int .i64 at') := fun p => cell_later p.ok c5
    have q6 : ∀ p : LW w2, p.val.cell? ⟨w.heap.size, 6, Option.none⟩ = some (.bool st) := fun p => cell_later p.ok c6
    have q7 : ∀ p : LW w2, p.val.cell? ⟨w.heap.size, 7, Option.none⟩ = some (.string d) := fun p => cell_later p.ok c7
    have q8 : ∀ p : LW w2, p.val.cell? ⟨w.heap.size, 8, Option.none⟩ = some (.string wt) := fun p => cell_later p.ok c8
    have hinh : Nonempty (LW w2) := ⟨⟨w2, Below.refl _ _⟩⟩
    go_wp2_with fail
    refine wp_region_lw (by kernel_rfl) (by kernel_rfl) ?_
    repeat (go_big_quiet_step (first | (go_at_call 36; first | with_reducible exact Calls.quiet_lw (HA2.out _) | with_reducible exact Calls.quiet_lw (HA3.out _) | with_reducible exact Calls.quiet_lw (HA4.out _) | with_reducible exact Calls.quiet_lw (HA5.out _)) | (go_at_call 37; exact quiet_same (HT1.out _)) | (go_at_call 38; first | with_reducible exact quiet_same (HD1.out _) | with_reducible exact quiet_same (HD2.out _))))
    refine wpQuiet_nil ?_
    rintro w3 ⟨p, hp⟩
    have hbq : Below w2.heap.size w2 w3 := by rw [hp]; exact p.ok
    have bw := bw.trans (hbq.mono bw.size)
    clear hp p
    go_wp2
    go_ret2
    refine ⟨?_, bw⟩
    obtain ⟨e1, e2, e3, e4, _, _, _, _⟩ := HA.out
    rw [HT.out, HS.out, HW.out, e1]
    refine congrArg (fun x => Ending.returned (Value.tuple #[Value.string x, .int .i64 0])) ?_
    apply bytes_ext
    simp [partsC, joinW_cons, joinW_one, decB, e2, e3, e4]
  case inr.inr.inr.inr.inr.inr.inl =>
    simp only [show ((7 : Int)).toNat = 7 from rfl] at qn
    go_wp2_with fail
    rw [← hY]
    clear hY
    refine wp_region_lw (by kernel_rfl) (by kernel_rfl) ?_
    repeat (go_big_quiet_step ((go_at_call 36; exact Calls.quiet_lw (HA1.out _))))
    refine wpQuiet_nil ?_
    rintro w2 ⟨p, hp⟩
    have hbq : Below Y.heap.size Y w2 := by rw [hp]; exact p.ok
    have bw := bw.trans (hbq.mono bw.size)
    have C2 := CY.later hbq CY.lt
    clear hp p q0 q1 qn hinh
    obtain ⟨S1, hS1⟩ : ∃ S1, S1 = A1 ++ ⟨#[32]⟩ ++ W := ⟨_, rfl⟩
    rw [← hS1]
    have zS : S1.size ≤ 21 := by rw [hS1, ByteArray.size_append', ByteArray.size_append']; have : (⟨#[32]⟩ : ByteArray).size = 1 := rfl; omega
    have HS : Hid (S1 = A1 ++ ⟨#[32]⟩ ++ W) := hS1
    clear hS1
    obtain ⟨c0, c1, c2, c3, c4, c5, c6, c7, c8⟩ := cells9 C2
    go_wp2_with fail
    refine (HA5.out w2).mono ?_
    rintro e w3 ⟨rfl, hbq⟩
    have bw := bw.trans (hbq.mono bw.size)
    go_wp2
    go_ret2
    refine ⟨?_, bw⟩
    obtain ⟨e1, _, _, _, e5, _, _, _⟩ := HA.out
    rw [HT.out, HS.out, HW.out, e1]
    refine congrArg (fun x => Ending.returned (Value.tuple #[Value.string x, .int .i64 0])) ?_
    apply bytes_ext
    simp [partsC, joinW_cons, joinW_one, decB, e5]
  case inr.inr.inr.inr.inr.inr.inr.inl =>
    simp only [show ((8 : Int)).toNat = 8 from rfl] at qn
    go_wp2_with fail
    rw [← hY]
    clear hY
    refine wp_region_lw (by kernel_rfl) (by kernel_rfl) ?_
    repeat (go_big_quiet_step ((go_at_call 36; exact Calls.quiet_lw (HA1.out _))))
    refine wpQuiet_nil ?_
    rintro w2 ⟨p, hp⟩
    have hbq : Below Y.heap.size Y w2 := by rw [hp]; exact p.ok
    have bw := bw.trans (hbq.mono bw.size)
    have C2 := CY.later hbq CY.lt
    clear hp p q0 q1 qn hinh
    obtain ⟨S1, hS1⟩ : ∃ S1, S1 = A1 ++ ⟨#[32]⟩ ++ W := ⟨_, rfl⟩
    rw [← hS1]
    have zS : S1.size ≤ 21 := by rw [hS1, ByteArray.size_append', ByteArray.size_append']; have : (⟨#[32]⟩ : ByteArray).size = 1 := rfl; omega
    have HS : Hid (S1 = A1 ++ ⟨#[32]⟩ ++ W) := hS1
    clear hS1
    obtain ⟨c0, c1, c2, c3, c4, c5, c6, c7, c8⟩ := cells9 C2
    have q2 : ∀ p : LW w2, p.val.cell? ⟨w.heap.size, 2, Option.none⟩ = some (.int .i64 key) := fun p => cell_later p.ok c2
    have q3 : ∀ p : LW w2, p.val.cell? ⟨w.heap.size, 3, Option.none⟩ = some (.int .i64 new) := fun p => cell_later p.ok c3
    have q4 : ∀ p : LW w2, p.val.cell? ⟨w.heap.size, 4, Option.none⟩ = some (.int .i64 ty) := fun p => cell_later p.ok c4
    have q5 : ∀ p : LW w2, p.val.cell? ⟨w.heap.size, 5, Option.none⟩ = some (.int .i64 at') := fun p => cell_later p.ok c5
    have q6 : ∀ p : LW w2, p.val.cell? ⟨w.heap.size, 6, Option.none⟩ = some (.bool st) := fun p => cell_later p.ok c6
    have q7 : ∀ p : LW w2, p.val.cell? ⟨w.heap.size, 7, Option.none⟩ = some (.string d) := fun p => cell_later p.ok c7
    have q8 : ∀ p : LW w2, p.val.cell? ⟨w.heap.size, 8, Option.none⟩ = some (.string wt) := fun p => cell_later p.ok c8
    have hinh : Nonempty (LW w2) := ⟨⟨w2, Below.refl _ _⟩⟩
    go_wp2_with fail
    refine wp_region_lw (by kernel_rfl) (by kernel_rfl) ?_
    repeat (go_big_quiet_step (first | (go_at_call 36; first | with_reducible exact Calls.quiet_lw (HA2.out _) | with_reducible exact Calls.quiet_lw (HA3.out _) | with_reducible exact Calls.quiet_lw (HA4.out _) | with_reducible exact Calls.quiet_lw (HA5.out _)) | (go_at_call 37; exact quiet_same (HT1.out _)) | (go_at_call 38; first | with_reducible exact quiet_same (HD1.out _) | with_reducible exact quiet_same (HD2.out _))))
    refine wpQuiet_nil ?_
    rintro w3 ⟨p, hp⟩
    have hbq : Below w2.heap.size w2 w3 := by rw [hp]; exact p.ok
    have bw := bw.trans (hbq.mono bw.size)
    clear hp p
    go_wp2
    go_ret2
    refine ⟨?_, bw⟩
    obtain ⟨e1, _, _, _, e5, _, e7, _⟩ := HA.out
    rw [HT.out, HS.out, HW.out, e1]
    refine congrArg (fun x => Ending.returned (Value.tuple #[Value.string x, .int .i64 0])) ?_
    apply bytes_ext
    simp [partsC, joinW_cons, joinW_one, decB, e5, e7, dataL]
  case inr.inr.inr.inr.inr.inr.inr.inr =>
    simp only [show ((9 : Int)).toNat = 9 from rfl] at qn
    go_wp2_with fail
    rw [← hY]
    clear hY
    refine wp_region_lw (by kernel_rfl) (by kernel_rfl) ?_
    repeat (go_big_quiet_step ((go_at_call 36; exact Calls.quiet_lw (HA1.out _))))
    refine wpQuiet_nil ?_
    rintro w2 ⟨p, hp⟩
    have hbq : Below Y.heap.size Y w2 := by rw [hp]; exact p.ok
    have bw := bw.trans (hbq.mono bw.size)
    have C2 := CY.later hbq CY.lt
    clear hp p q0 q1 qn hinh
    obtain ⟨S1, hS1⟩ : ∃ S1, S1 = A1 ++ ⟨#[32]⟩ ++ W := ⟨_, rfl⟩
    rw [← hS1]
    have zS : S1.size ≤ 21 := by rw [hS1, ByteArray.size_append', ByteArray.size_append']; have : (⟨#[32]⟩ : ByteArray).size = 1 := rfl; omega
    have HS : Hid (S1 = A1 ++ ⟨#[32]⟩ ++ W) := hS1
    clear hS1
    obtain ⟨c0, c1, c2, c3, c4, c5, c6, c7, c8⟩ := cells9 C2
    have q2 : ∀ p : LW w2, p.val.cell? ⟨w.heap.size, 2, Option.none⟩ = some (.int .i64 key) := fun p => cell_later p.ok c2
    have q3 : ∀ p : LW w2, p.val.cell? ⟨w.heap.size, 3, Option.none⟩ = some (.int .i64 new) := fun p => cell_later p.ok c3
    have q4 : ∀ p : LW w2, p.val.cell? ⟨w.heap.size, 4, Option.none⟩ = some (.int .i64 ty) := fun p => cell_later p.ok c4
    have q5 : ∀ p : LW w2, p.val.cell? ⟨w.heap.size, 5, Option.none⟩ = some (.int .i64 at') := fun p => cell_later p.ok c5
    have q6 : ∀ p : LW w2, p.val.cell? ⟨w.heap.size, 6, Option.none⟩ = some (.bool st) := fun p => cell_later p.ok c6
    have q7 : ∀ p : LW w2, p.val.cell? ⟨w.heap.size, 7, Option.none⟩ = some (.string d) := fun p => cell_later p.ok c7
    have q8 : ∀ p : LW w2, p.val.cell? ⟨w.heap.size, 8, Option.none⟩ = some (.string wt) := fun p => cell_later p.ok c8
    have hinh : Nonempty (LW w2) := ⟨⟨w2, Below.refl _ _⟩⟩
    go_wp2_with fail
    refine wp_region_lw (by kernel_rfl) (by kernel_rfl) ?_
    repeat (go_big_quiet_step (first | (go_at_call 36; first | with_reducible exact Calls.quiet_lw (HA2.out _) | with_reducible exact Calls.quiet_lw (HA3.out _) | with_reducible exact Calls.quiet_lw (HA4.out _) | with_reducible exact Calls.quiet_lw (HA5.out _)) | (go_at_call 37; exact quiet_same (HT1.out _)) | (go_at_call 38; first | with_reducible exact quiet_same (HD1.out _) | with_reducible exact quiet_same (HD2.out _))))
    refine wpQuiet_nil ?_
    rintro w3 ⟨p, hp⟩
    have hbq : Below w2.heap.size w2 w3 := by rw [hp]; exact p.ok
    have bw := bw.trans (hbq.mono bw.size)
    clear hp p
    go_wp2
    go_ret2
    refine ⟨?_, bw⟩
    obtain ⟨e1, _, _, _, e5, _, e7, e8⟩ := HA.out
    rw [HT.out, HS.out, HW.out, e1]
    refine congrArg (fun x => Ending.returned (Value.tuple #[Value.string x, .int .i64 0])) ?_
    apply bytes_ext
    simp [partsC, joinW_cons, joinW_one, decB, e5, e7, e8, dataL]
end Go.Proofs.YthkckogbjdbnnaaDoor.K
