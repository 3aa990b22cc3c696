/- Proved: the tied card of the law CodeSays: for every command, text and number she returns true and leaves her arguments as they were, where the five listed variables of the library hold what the program's own text lays there. -/
import Derived.Test.YthkckogbjdbnnaaDoorTopCode
import Derived.Test.YthkckogbjdbnnaaDoorTRef
import Derived.Test.YthkckogbjdbnnaaDoorTCof
import Derived.Deep.QuietTactic
import Derived.BigQuiet
import Derived.ChangeMaps5
namespace Go.Proofs.YthkckogbjdbnnaaDoor
open Go.ChangeShapes Go.WideShapes Go.ChangeAt Go.RowKit Go.Maps Go.Proofs.YthkckogbjdbnnaaDoor.K

/-- A world that is later than w. -/
structure LW (w : World) where
  val : World
  ok : Below w.heap.size w val
theorem Calls.quiet_lw {P : Program} {f : FuncId} {args : Array Value} {wr : World} {p : LW wr} {v : Value} (h : Calls P f args p.val fun e w' => e = .returned v ∧ Below p.val.heap.size p.val w') : Calls P f args p.val (fun e w'' => e = .returned v ∧ ∃ q : LW wr, w'' = q.val) :=
  h.mono fun _ w' ⟨he, hb⟩ => ⟨he, ⟨w', p.ok.trans (hb.mono p.ok.size)⟩, rfl⟩
theorem Calls.eq_lw {P : Program} {f : FuncId} {args : Array Value} {wr : World} {p : LW wr} {v : Value} (h : Calls P f args p.val fun e w' => e = .returned v ∧ w' = p.val) : Calls P f args p.val (fun e w'' => e = .returned v ∧ ∃ q : LW wr, w'' = q.val) :=
  h.mono fun _ _ ⟨he, hb⟩ => ⟨he, p, hb⟩
theorem wp_region_lw {P : Program} {id : Nat} {Q : Exit → Act → World → Prop} {a : Act} {w : World} {l : List Oper} (hm : P.follows .mixedOrders = true) (hB : Region.lexB .any l.toArray = true)
    (h : wpQuiet P l.toArray (fun w' => ∃ p : LW w, w' = p.val) (fun a' => ∀ w', (∃ p : LW w, w' = p.val) → Q .normal a' w') l a) : (Code.region id l.toArray true).wp P Q a w :=
  wp_region_quiet (C := fun w' => ∃ p : LW w, w' = p.val) hm hB ⟨⟨w.drew, (Below.refl _ _).drew⟩, rfl⟩ (by simpa using h)

set_option maxRecDepth 100000 in
theorem same_err (f : Int) (hf : 0 ≤ f) (w : World) : Calls Tryd.prog 15 #[errV f, .int .i64 f] w fun e w' => e = .returned (.bool true) ∧ w' = w := by
  by_cases h0 : f = 0
  · subst h0
    rw [show errV 0 = .nilIface from rfl]
    go_enter Tryd.func15, Tryd.ntmps15
    go_wp2
    go_ret
    exact ⟨rfl, rfl⟩
  · rw [show errV f = .iface 68 (.int .i64 f) from errV_no h0]
    have hp : 0 < f := by omega
    have hta := assert_no f
    go_enter Tryd.func15, Tryd.ntmps15
    go_wp2
    go_ret
    exact ⟨rfl, rfl⟩
/-- A command's text; none, where it may not be. -/
def txF (c : Cmd) : List UInt8 := if c.f = 0 then txtC c else []
theorem text_all (c : Cmd) (w : World) (hL : Laid w) (hwf : (Lit.int .i64 c.op).wf = true) (hd : c.da.size ≤ 9223372036854775807) (hw : c.wa.size ≤ 9223372036854775807) :
    Calls Tryd.prog 9 #[.agg #[.int .i64 c.op, .int .i64 c.who, .int .i64 c.key, .int .i64 c.new, .int .i64 c.kind, .int .i64 c.at', .bool c.st, .string c.da, .string c.wa]] w fun e w' => e = .returned (.tuple #[.string ⟨(txF c).toArray⟩, errV c.f]) ∧ Below w.heap.size w w' := by
  by_cases hf : c.f = 0
  · refine (text_ok c.op c.who c.key c.new c.kind c.at' c.st c.da c.wa hwf w hL hf).mono fun e w' h => ⟨?_, h.2⟩
    rw [h.1]; unfold txF; rw [if_pos hf, hf]; rfl
  · refine (text_no c.op c.who c.key c.new c.kind c.at' c.st c.da c.wa hwf hd hw w hf).mono fun e w' h => ⟨?_, h.2⟩
    rw [h.1]; unfold txF; rw [if_neg hf]; rfl
theorem rtext_all (c : Cmd) (w : World) (hd : c.da.size ≤ 9223372036854775807) (hw : c.wa.size ≤ 9223372036854775807) :
    Calls Tryd.prog 10 #[.agg #[.int .i64 c.op, .int .i64 c.who, .int .i64 c.key, .int .i64 c.new, .int .i64 c.kind, .int .i64 c.at', .bool c.st, .string c.da, .string c.wa]] w fun e w' => e = .returned (.tuple #[.string ⟨(txF c).toArray⟩, .int .i64 c.f]) ∧ Below w.heap.size w w' := by
  by_cases hf : c.f = 0
  · refine (rtext_ok c.op c.who c.key c.new c.kind c.at' c.st c.da c.wa w hf).mono fun e w' h => ⟨?_, h.2⟩
    rw [h.1]; unfold txF; rw [if_pos hf, hf]
  · have hp : 0 < cmdF c.op c.who c.key c.new c.kind c.at' c.st c.da c.wa := by have := cmdF_ge c.op c.who c.key c.new c.kind c.at' c.st c.da c.wa; have : cmdF c.op c.who c.key c.new c.kind c.at' c.st c.da c.wa ≠ 0 := hf; omega
    refine (rtext_no c.op c.who c.key c.new c.kind c.at' c.st c.da c.wa hd hw w hp).mono fun e w' h => ⟨?_, h.2⟩
    rw [h.1]; unfold txF; rw [if_neg hf]; rfl
def zeroC : Cmd := ⟨0, 0, 0, 0, 0, 0, false, ⟨#[]⟩, ⟨#[]⟩⟩
/-- What a text is read as, and the error. -/
def PR (l : List UInt8) (a : Cmd) (f : Int) : Prop := (f = 0 ∧ a.f = 0 ∧ txtC a = l) ∨ (f = 3 ∧ a = zeroC ∧ ∀ c : Cmd, c.f = 0 → txtC c ≠ l)
theorem PR.one {l : List UInt8} {o : Int} (ho : OpIs ⟨(nxW 1 l).toArray⟩ o) {a b : Cmd} {f g : Int} (ha : PR l a f) (hb : PR l b g) : b = a ∧ g = f := by
  rcases ha with ⟨rfl, a0, al⟩ | ⟨rfl, rfl, an⟩
  · rcases hb with ⟨rfl, b0, bl⟩ | ⟨rfl, rfl, bn⟩
    · refine ⟨?_, rfl⟩
      have e1 := guess_back (full_of a0) (o := o) (by rw [al]; exact ho)
      have e2 := guess_back (full_of b0) (o := o) (by rw [bl]; exact ho)
      rw [al] at e1
      rw [bl] at e2
      rw [← e1, ← e2]
    · exact absurd al (bn a a0)
  · rcases hb with ⟨rfl, b0, bl⟩ | ⟨rfl, rfl, bn⟩
    · exact absurd bl (an b b0)
    · exact ⟨rfl, rfl⟩
theorem parse_all (l : List UInt8) (w : World) (hL : Laid w) (hs : l.length ≤ 1000000) :
    Calls Tryd.prog 11 #[.string ⟨l.toArray⟩] w fun e w' => (∃ o pc pf, OpIs ⟨(nxW 1 l).toArray⟩ o ∧ PR l pc pf ∧ e = .returned (.tuple #[.agg #[.int .i64 pc.op, .int .i64 pc.who, .int .i64 pc.key, .int .i64 pc.new, .int .i64 pc.kind, .int .i64 pc.at', .bool pc.st, .string pc.da, .string pc.wa], errV pf])) ∧ Below w.heap.size w w' := by
  refine (parse_any l w hL hs).mono ?_
  rintro e w' ⟨⟨o, hop, h | h⟩, hb⟩
  · exact ⟨⟨o, gC o l, 0, hop, .inl ⟨rfl, h.1, h.2.1⟩, h.2.2⟩, hb⟩
  · refine ⟨⟨o, zeroC, 3, hop, .inr ⟨rfl, rfl, fun c h0 hl => h.1 ?_⟩, h.2⟩, hb⟩
    have := guess_back (full_of h0) (o := o) (by rw [hl]; exact hop)
    rw [hl] at this
    rw [this]
    exact ⟨h0, hl⟩
theorem cof_all (l : List UInt8) (hl : l.length ≤ 1000) (w : World) {o : Int} (ho : OpIs ⟨(nxW 1 l).toArray⟩ o) {pc : Cmd} {pf : Int} (hp : PR l pc pf) :
    Calls Tryd.prog 12 #[.string ⟨l.toArray⟩] w fun e w' => e = .returned (.tuple #[.agg #[.int .i64 pc.op, .int .i64 pc.who, .int .i64 pc.key, .int .i64 pc.new, .int .i64 pc.kind, .int .i64 pc.at', .bool pc.st, .string pc.da, .string pc.wa], .int .i64 pf]) ∧ Below w.heap.size w w' := by
  refine (cof_any l hl w).mono ?_
  rintro e w' ⟨h | h, hb⟩
  · obtain ⟨c, c0, cl0, he⟩ := h
    obtain ⟨rfl, rfl⟩ := hp.one ho (.inl ⟨rfl, c0, cl0⟩ : PR l c 0)
    exact ⟨he, hb⟩
  · obtain ⟨rfl, rfl⟩ := hp.one ho (.inr ⟨rfl, rfl, h.1⟩ : PR l zeroC 3)
    exact ⟨h.2, hb⟩

set_option maxHeartbeats 8000000 in
set_option maxRecDepth 100000 in
theorem codes_any (w : World) (hL : Laid w) : Calls Tryd.prog 7 #[] w fun e w' => e = .returned (.bool true) ∧ Below w.heap.size w w' := by
  have hcl : txtC ⟨8, 2, 0, 0, 0, 3, false, ⟨#[104, 97, 121]⟩, ⟨#[]⟩⟩ = [50, 32, 119, 114, 105, 116, 101, 32, 51, 32, 104, 97, 121] := by decide +kernel
  go_enter Tryd.func7, Tryd.ntmps7
  go_wp2_with fail
  refine (text_ok 8 2 0 0 0 3 false ⟨#[104, 97, 121]⟩ ⟨#[]⟩ (by decide) w hL (by decide +kernel)).mono ?_
  rintro e W1 ⟨rfl, hb1⟩
  rw [hcl]
  clear hcl
  go_wp2_with fail
  refine (same_err 0 (by decide) W1).mono ?_
  rintro e W2 ⟨rfl, hw2⟩
  rw [hw2]
  go_wp2
  go_ret
  exact ⟨rfl, hb1⟩

set_option maxHeartbeats 8000000 in
set_option maxRecDepth 100000 in
theorem codeSays_walk (c : Cmd) (sb : ByteArray) (kd : Int) (w : World) (hL : Laid w) (hwf : (Lit.int .i64 c.op).wf = true) (hd : c.da.size ≤ 9223372036854775807) (hw : c.wa.size ≤ 9223372036854775807) (hsb : sb.size ≤ 9223372036854775807) :
    Calls Tryd.prog 3 #[.agg #[.int .i64 c.op, .int .i64 c.who, .int .i64 c.key, .int .i64 c.new, .int .i64 c.kind, .int .i64 c.at', .bool c.st, .string c.da, .string c.wa], .string sb, .int .i64 kd] w fun e w' => e = .returned (.bool true) ∧ Below w.heap.size w w' := by
  obtain ⟨X, hX⟩ : ∃ X, X = w.alloc (.cells #[.int .i64 c.op, .int .i64 c.who, .int .i64 c.key, .int .i64 c.new, .int .i64 c.kind, .int .i64 c.at', .bool c.st, .string c.da, .string c.wa] 23) := ⟨_, rfl⟩
  have A1 : At X w.heap.size (cl c) 23 := by rw [hX]; exact heap_alloc_new w _
  have bX : Below w.heap.size w X := by rw [hX]; exact (Below.refl _ _).alloc (Nat.le_refl _) _
  go_enter Tryd.func3, Tryd.ntmps3
  go_wp2_with fail
  rw [← hX]
  clear hX
  refine (codes_any X (hL.later bX)).mono ?_
  rintro e W1 ⟨rfl, hb1⟩
  replace A1 := A1.later hb1 A1.lt
  replace bX := bX.trans (hb1.mono bX.size)
  clear hb1
  have HL : Hid ((Instr.loadAt 23 (.pointer (some ⟨w.heap.size, 0, Option.none⟩))).run Tryd.prog W1 = .ok (.agg #[.int .i64 c.op, .int .i64 c.who, .int .i64 c.key, .int .i64 c.new, .int .i64 c.kind, .int .i64 c.at', .bool c.st, .string c.da, .string c.wa]) W1) := load_cmd A1 rfl
  go_wp2_with (with_reducible refine wl_load HL.out rfl rfl ?_)
  clear HL
  refine (light_cmd c W1 hd hw).mono ?_
  rintro e W2 ⟨rfl, hb2⟩
  replace A1 := A1.later hb2 A1.lt
  replace bX := bX.trans (hb2.mono bX.size)
  clear hb2
  cases hlt : decide (c.da.size ≤ 20) && decide (c.wa.size ≤ 20) with
  | false =>
    go_wp2
    go_ret
    exact ⟨rfl, bX⟩
  | true =>
  clear hlt
  by_cases h100 : 100 < sb.size
  · have h100' : decide ((100 : Int) < (sb.size : Int)) = true := by simp; omega
    clear h100
    go_wp2
    go_ret
    exact ⟨rfl, bX⟩
  have h100' : decide ((100 : Int) < (sb.size : Int)) = false := by simp; omega
  obtain ⟨l, rfl⟩ : ∃ l : List UInt8, sb = ⟨l.toArray⟩ := ⟨sb.data.toList, by simp⟩
  rw [sz_arr] at h100
  have HL : Hid ((Instr.loadAt 23 (.pointer (some ⟨w.heap.size, 0, Option.none⟩))).run Tryd.prog W2 = .ok (.agg #[.int .i64 c.op, .int .i64 c.who, .int .i64 c.key, .int .i64 c.new, .int .i64 c.kind, .int .i64 c.at', .bool c.st, .string c.da, .string c.wa]) W2) := load_cmd A1 rfl
  go_wp2_with (with_reducible refine wl_load HL.out rfl rfl ?_)
  clear HL
  refine (text_all c W2 (hL.later bX) hwf hd hw).mono ?_
  rintro e W3 ⟨rfl, hb3⟩
  replace A1 := A1.later hb3 A1.lt
  replace bX := bX.trans (hb3.mono bX.size)
  clear hb3
  have HL : Hid ((Instr.loadAt 23 (.pointer (some ⟨w.heap.size, 0, Option.none⟩))).run Tryd.prog W3 = .ok (.agg #[.int .i64 c.op, .int .i64 c.who, .int .i64 c.key, .int .i64 c.new, .int .i64 c.kind, .int .i64 c.at', .bool c.st, .string c.da, .string c.wa]) W3) := load_cmd A1 rfl
  go_wp2_with (with_reducible refine wl_load HL.out rfl rfl ?_)
  clear HL
  refine (rtext_all c W3 hd hw).mono ?_
  rintro e W4 ⟨rfl, hb4⟩
  replace A1 := A1.later hb4 A1.lt
  replace bX := bX.trans (hb4.mono bX.size)
  clear hb4
  go_wp2_with fail
  refine (parse_all l W4 (hL.later bX) (by omega)).mono ?_
  rintro e W5 ⟨⟨o, pc, pf, hop, hpr, rfl⟩, hb5⟩
  replace A1 := A1.later hb5 A1.lt
  replace bX := bX.trans (hb5.mono bX.size)
  clear hb5
  obtain ⟨Y, hY⟩ : ∃ Y, Y = W5.alloc (.cells #[.int .i64 pc.op, .int .i64 pc.who, .int .i64 pc.key, .int .i64 pc.new, .int .i64 pc.kind, .int .i64 pc.at', .bool pc.st, .string pc.da, .string pc.wa] 23) := ⟨_, rfl⟩
  have A12 : At Y W5.heap.size (cl pc) 23 := by rw [hY]; exact heap_alloc_new W5 _
  have bY : Below W5.heap.size W5 Y := by rw [hY]; exact (Below.refl _ _).alloc (Nat.le_refl _) _
  replace A1 := A1.later bY A1.lt
  replace bX := bX.trans (bY.mono bX.size)
  clear bY
  have HOP : Hid (OpIs ⟨(nxW 1 l).toArray⟩ o) := hop
  have HPR : Hid (PR l pc pf) := hpr
  have hpf : 0 ≤ pf := by rcases hpr with h | h <;> omega
  clear hop hpr
  go_upto_region 7 with fail
  rw [← hY]
  clear hY
  obtain ⟨b12, hb12⟩ : ∃ b12, W5.heap.size = b12 := ⟨_, rfl⟩
  rw [hb12] at A12 ⊢
  clear hb12
  go_wp2_with fail
  refine (cof_all l (by omega) Y HOP.out HPR.out).mono ?_
  rintro e W6 ⟨rfl, hb6⟩
  replace A1 := A1.later hb6 A1.lt
  replace A12 := A12.later hb6 A12.lt
  replace bX := bX.trans (hb6.mono bX.size)
  clear hb6
  obtain ⟨Z, hZ⟩ : ∃ Z, Z = W6.alloc (.cells #[.int .i64 pc.op, .int .i64 pc.who, .int .i64 pc.key, .int .i64 pc.new, .int .i64 pc.kind, .int .i64 pc.at', .bool pc.st, .string pc.da, .string pc.wa] 23) := ⟨_, rfl⟩
  have A14 : At Z W6.heap.size (cl pc) 23 := by rw [hZ]; exact heap_alloc_new W6 _
  have bZ : Below W6.heap.size W6 Z := by rw [hZ]; exact (Below.refl _ _).alloc (Nat.le_refl _) _
  replace A1 := A1.later bZ A1.lt
  replace A12 := A12.later bZ A12.lt
  replace bX := bX.trans (bZ.mono bX.size)
  clear bZ
  go_upto_region 8 with fail
  rw [← hZ]
  clear hZ
  obtain ⟨b14, hb14⟩ : ∃ b14, W6.heap.size = b14 := ⟨_, rfl⟩
  rw [hb14] at A14 ⊢
  clear hb14
  have hinh : Nonempty (LW Z) := ⟨⟨Z, Below.refl _ _⟩⟩
  have hcf : 0 ≤ c.f := cmdF_ge c.op c.who c.key c.new c.kind c.at' c.st c.da c.wa
  have C1 : Hid (∀ p : LW Z, Calls Tryd.prog 13 #[.int .i64 kd] p.val fun e w'' => e = .returned (.bool (typeB kd)) ∧ ∃ q : LW Z, w'' = q.val) := fun p => Calls.eq_lw (type_any kd p.val)
  have C2 : Hid (∀ p : LW Z, Calls Tryd.prog 14 #[.int .i64 kd] p.val fun e w'' => e = .returned (.bool (typeB kd)) ∧ ∃ q : LW Z, w'' = q.val) := fun p => Calls.eq_lw (typeMay_any kd p.val)
  have C3 : Hid (∀ p : LW Z, Calls Tryd.prog 16 #[.agg #[.int .i64 c.op, .int .i64 c.who, .int .i64 c.key, .int .i64 c.new, .int .i64 c.kind, .int .i64 c.at', .bool c.st, .string c.da, .string c.wa]] p.val fun e w'' => e = .returned (errV c.f) ∧ ∃ q : LW Z, w'' = q.val) := fun p => Calls.quiet_lw (check_any c.op c.who c.key c.new c.kind c.at' c.st c.da c.wa hwf hd hw p.val)
  have C4 : Hid (∀ p : LW Z, Calls Tryd.prog 17 #[.agg #[.int .i64 c.op, .int .i64 c.who, .int .i64 c.key, .int .i64 c.new, .int .i64 c.kind, .int .i64 c.at', .bool c.st, .string c.da, .string c.wa]] p.val fun e w'' => e = .returned (.int .i64 c.f) ∧ ∃ q : LW Z, w'' = q.val) := fun p => Calls.quiet_lw (fault_any c.op c.who c.key c.new c.kind c.at' c.st c.da c.wa hd hw p.val)
  have C5 : Hid (∀ p : LW Z, Calls Tryd.prog 15 #[errV c.f, .int .i64 c.f] p.val fun e w'' => e = .returned (.bool true) ∧ ∃ q : LW Z, w'' = q.val) := fun p => Calls.eq_lw (same_err c.f hcf p.val)
  have C6 : Hid (∀ p : LW Z, Calls Tryd.prog 15 #[errV pf, .int .i64 pf] p.val fun e w'' => e = .returned (.bool true) ∧ ∃ q : LW Z, w'' = q.val) := fun p => Calls.eq_lw (same_err pf hpf p.val)
  have HA : Hid (∀ w', (∃ p : LW Z, w' = p.val) → (Instr.loadAt 23 (.pointer (some ⟨w.heap.size, 0, Option.none⟩))).run Tryd.prog w' = .ok (.agg #[.int .i64 c.op, .int .i64 c.who, .int .i64 c.key, .int .i64 c.new, .int .i64 c.kind, .int .i64 c.at', .bool c.st, .string c.da, .string c.wa]) w') := by
    rintro w' ⟨p, rfl⟩; exact load_cmd (A1.later p.ok A1.lt) rfl
  have HB : Hid (∀ w', (∃ p : LW Z, w' = p.val) → (Instr.loadAt 23 (.pointer (some ⟨b12, 0, Option.none⟩))).run Tryd.prog w' = .ok (.agg #[.int .i64 pc.op, .int .i64 pc.who, .int .i64 pc.key, .int .i64 pc.new, .int .i64 pc.kind, .int .i64 pc.at', .bool pc.st, .string pc.da, .string pc.wa]) w') := by
    rintro w' ⟨p, rfl⟩; exact load_cmd (A12.later p.ok A12.lt) rfl
  have HD : Hid (∀ w', (∃ p : LW Z, w' = p.val) → (Instr.loadAt 23 (.pointer (some ⟨b14, 0, Option.none⟩))).run Tryd.prog w' = .ok (.agg #[.int .i64 pc.op, .int .i64 pc.who, .int .i64 pc.key, .int .i64 pc.new, .int .i64 pc.kind, .int .i64 pc.at', .bool pc.st, .string pc.da, .string pc.wa]) w') := by
    rintro w' ⟨p, rfl⟩; exact load_cmd (A14.later p.ok A14.lt) rfl
  clear A1 A12 A14
  refine wp_region_lw (by kernel_rfl) (by kernel_rfl) ?_
  repeat (go_big_quiet_step ((first | (go_at_call 13; with_reducible exact C1.out _) | (go_at_call 14; with_reducible exact C2.out _) | (go_at_call 16; with_reducible exact C3.out _) | (go_at_call 17; with_reducible exact C4.out _) | (go_at_call 15; with_reducible exact C5.out _) | (go_at_call 15; with_reducible exact C6.out _))))
  go_big_quiet_want
  with_reducible refine q_load HA.out rfl ?_
  go_big_quiet_on
  simp only [Act.put, List.setIfInBounds_toArray, List.set_cons_succ, List.set_cons_zero]
  repeat (go_big_quiet_step ((first | (go_at_call 13; with_reducible exact C1.out _) | (go_at_call 14; with_reducible exact C2.out _) | (go_at_call 16; with_reducible exact C3.out _) | (go_at_call 17; with_reducible exact C4.out _) | (go_at_call 15; with_reducible exact C5.out _) | (go_at_call 15; with_reducible exact C6.out _))))
  go_big_quiet_want
  with_reducible refine q_load HA.out rfl ?_
  go_big_quiet_on
  simp only [Act.put, List.setIfInBounds_toArray, List.set_cons_succ, List.set_cons_zero]
  repeat (go_big_quiet_step ((first | (go_at_call 13; with_reducible exact C1.out _) | (go_at_call 14; with_reducible exact C2.out _) | (go_at_call 16; with_reducible exact C3.out _) | (go_at_call 17; with_reducible exact C4.out _) | (go_at_call 15; with_reducible exact C5.out _) | (go_at_call 15; with_reducible exact C6.out _))))
  go_big_quiet_want
  with_reducible refine q_load HB.out rfl ?_
  go_big_quiet_on
  simp only [Act.put, List.setIfInBounds_toArray, List.set_cons_succ, List.set_cons_zero]
  repeat (go_big_quiet_step ((first | (go_at_call 13; with_reducible exact C1.out _) | (go_at_call 14; with_reducible exact C2.out _) | (go_at_call 16; with_reducible exact C3.out _) | (go_at_call 17; with_reducible exact C4.out _) | (go_at_call 15; with_reducible exact C5.out _) | (go_at_call 15; with_reducible exact C6.out _))))
  go_big_quiet_want
  with_reducible refine q_load HD.out rfl ?_
  go_big_quiet_on
  simp only [Act.put, List.setIfInBounds_toArray, List.set_cons_succ, List.set_cons_zero]
  repeat (go_big_quiet_step ((first | (go_at_call 13; with_reducible exact C1.out _) | (go_at_call 14; with_reducible exact C2.out _) | (go_at_call 16; with_reducible exact C3.out _) | (go_at_call 17; with_reducible exact C4.out _) | (go_at_call 15; with_reducible exact C5.out _) | (go_at_call 15; with_reducible exact C6.out _))))
  refine wpQuiet_nil ?_
  rintro W9 ⟨⟨_, hb9⟩, rfl⟩
  go_wp2
  go_ret
  exact ⟨rfl, bX.trans (hb9.mono bX.size)⟩

section
variable {H : Type} {enc : TypeId × Value → H}
set_option maxRecDepth 100000 in
theorem open_str {W : World} {base : Nat} {v : Value} {d : DataW H} {ps : List MemPlace} (hv : Value.okWide Tryd.prog W .any base 9 v) (h : DataW.Trod enc Tryd.prog W 0 (fun _ => true) true 9 v d ps) : ∃ s : ByteArray, v = .string s ∧ s.size ≤ 9223372036854775807 := by
  have hml : maxLen ≤ 9223372036854775807 := by unfold maxLen; decide
  obtain ⟨s, rfl, _, _, hs⟩ := Go.ChangeMaps.open_string Tryd.underlying9 hv h
  exact ⟨s, rfl, Nat.le_trans hs hml⟩
end
theorem codeSays_met (os : Os) (args : Array Value) : laidMetH Tryd.prog Rows.codeSaysRow.laid ((World.doorLaid Tryd.prog 4000 os).forCall (fun _ _ => 0) ⟨#[], args, []⟩).memory :=
  laidMetH_of_parts3 (fuel := 8) (laidMet_of_run' 8 (by kernel_rfl) (by kernel_rfl)) (by kernel_rfl) (by kernel_rfl)

set_option maxRecDepth 100000 in
theorem codeSays_lifted (os : Os) (started : os.Started) (H : Type) (enc : TypeId × Value → H) :
    ReturnsInHanded {} Tryd.checked os 3 .any (fun w args => (Rows.codeSaysSpec.pre enc Tryd.prog Tryd.f3 [] false w args ∧ laidMetH Tryd.prog Rows.codeSaysRow.laid w) ∧ sizedMet enc Tryd.prog Tryd.f3 (OpenSpec.ofChange Rows.codeSaysSpec) false w args)
      (Rows.codeSaysSpec.post enc Tryd.prog Tryd.f3 false true false false) := by
  refine lift_both (C := Tryd.checked) own started (by kernel_rfl) Tryd.func3
    (ChangeSpec.witness_shaped (enc := enc) (C := Tryd.checked) (os := os) (X := fun w _ => laidMetH Tryd.prog Rows.codeSaysRow.laid w) false (World.doorLaid Tryd.prog 4000 os) #[.agg #[.int .i64 0, .int .i64 0, .int .i64 0, .int .i64 0, .int .i64 0, .int .i64 0, .bool false, .string ⟨#[]⟩, .string ⟨#[]⟩], .string ⟨#[]⟩, .int .i64 0] 8 rfl (World.shaped_of_RefB (by kernel_rfl) (by kernel_rfl)) (by kernel_rfl) (by kernel_rfl) (by kernel_rfl) (codeSays_met os _)) ?_
  intro W base args ds gs before hval0 hW hL hsh
  have hval : ∀ (j : Nat) t v, Tryd.f3.params[j]? = some t → args[j]? = some v → Value.okWide Tryd.prog W .any base t v := hval0
  have hW' := hW
  obtain ⟨p, q, hA0, hV, rfl, hfz, hnd⟩ := hW
  have hA : DataW.TrodAll enc Tryd.prog W 0 (fun _ => true) true Tryd.f3.params.toList args.toList ds p := hA0
  rw [Tryd.params3] at hA hval
  obtain ⟨v0, v1, v2, d0, d1, d2, p0, p1, p2, rfl, rfl, rfl, h0, h1, h2⟩ := trodAll_three hA
  obtain ⟨rfl, rfl⟩ := trodVars_none hV
  have k0 := h0
  have k1 := h1
  have lt0 : ∀ x ∈ p0, x.block < W.heap.size := by obtain ⟨m, hm⟩ := k0; exact DataW.trod_lt m _ _ _ hm
  have lt1 : ∀ x ∈ p1, x.block < W.heap.size := by obtain ⟨m, hm⟩ := k1; exact DataW.trod_lt m _ _ _ hm
  obtain ⟨c, rfl, hwf, hd, hw⟩ := open_command (hval 0 23 v0 rfl rfl) h0
  obtain ⟨sb, rfl, hsb⟩ := open_str (hval 1 9 v1 rfl rfl) h1
  obtain ⟨x2, rfl, rfl, rfl, wf2⟩ := open_int Tryd.underlying3 (hval 2 3 v2 rfl rfl) h2
  clear hA0 hval0
  refine (codeSays_walk c sb x2 W (laid_of hL hsh) hwf hd hw hsb).mono fun e W' ⟨he, bel⟩ => ?_
  subst he
  exact ⟨_, rfl, _, _, _, [], _, [], hW', trodAll_mk1 (shut_bool Tryd.underlying4 _), (trodAll_cons_mk (Below.trod laidOut (by kernel_rfl) (of_decide_eq_true (by kernel_rfl)) k0 bel lt0) (trodAll_cons_mk (Below.trod laidOut (by kernel_rfl) (of_decide_eq_true (by kernel_rfl)) k1 bel lt1) (trodAll_cons_mk (shut_int Tryd.underlying3 wf2) trodAll_mk0))), rfl, bel.frame _, fun h => by cases h⟩

theorem codeSays_holds : Rows.CodeSaysSaid :=
  OpenClaim.holds_of_wide 3 Tryd.f3 rfl rfl rfl rfl rfl rfl rfl ⟨rfl, rfl, rfl, rfl, rfl⟩ rfl rfl rfl rfl rfl (by kernel_rfl) Tryd.func3 (by kernel_rfl)
    (of_decide_eq_true (by kernel_rfl)) (by unfold Func.isWrapper; first | (rw [if_pos (by decide +kernel)]; kernel_rfl) | (rw [if_neg (by decide +kernel)]; exact ⟨rfl, rfl⟩))
    (fun os started H enc _ => codeSays_lifted os started H enc)

theorem codeSays_card : Rows.CodeSaysCardSaid :=
  Claim7.holds_tied_plain_at .later [] [.data, .data, .data, .sentinel, .sentinel] true Rows.codeSaysCard.stood.harness true
    codeSays_holds (fun _ h => by cases h) (by kernel_rfl) (fun _ h => by cases h) codeSays_row_tie rfl ⟨rfl, rfl⟩ (by kernel_rfl) rfl
    (fun f fn hf hfn => by
      obtain rfl : f = 3 := Option.some.inj ((show Tryd.prog.funcNamed Rows.codeSaysRow.func = some 3 by kernel_rfl).symm.trans hf) |>.symm
      obtain rfl : fn = Tryd.f3 := (Option.some.inj (Tryd.func3.symm.trans hfn)).symm
      exact ⟨by kernel_rfl, fun j t ht => by
        rw [Tryd.params3] at ht
        match j, ht with
        | 0, ht =>
          obtain rfl := Option.some.inj (show some 23 = some t from ht)
          show Tryd.prog.wantsStandIn 23 = false
          kernel_rfl
        | 1, ht =>
          obtain rfl := Option.some.inj (show some 9 = some t from ht)
          show Tryd.prog.wantsStandIn 9 = false
          kernel_rfl
        | 2, ht =>
          obtain rfl := Option.some.inj (show some 3 = some t from ht)
          show Tryd.prog.wantsStandIn 3 = false
          kernel_rfl
        | j + 3, ht => simp at ht⟩)
    (by kernel_rfl)
#print axioms codeSays_card
end Go.Proofs.YthkckogbjdbnnaaDoor
