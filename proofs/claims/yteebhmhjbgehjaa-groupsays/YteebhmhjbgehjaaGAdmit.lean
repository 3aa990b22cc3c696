/- What replica.Replica.Admit hands back, for every replica, block and cell. No statement of the seat is proved here. -/
import Derived.Test.YteebhmhjbgehjaaGBlk
namespace Go.Proofs.Yteebhmhjbgehjaa
open Go.ChangeShapes Go.WideShapes Go.ChangeAt Go.RowKit Go.Deep

/-- A world that is later than w. -/
structure LW (w : World) where
  val : World
  ok : Below w.heap.size w val
theorem Calls.quiet_lw {P : Program} {f : FuncId} {args : Array Value} {wr : World} {p : LW wr} {v : Value} (h : Calls P f args p.val fun e w' => e = .returned v ∧ Below p.val.heap.size p.val w') : Calls P f args p.val (fun e w'' => e = .returned v ∧ ∃ q : LW wr, w'' = q.val) :=
  h.mono fun _ w' ⟨he, hb⟩ => ⟨he, ⟨w', p.ok.trans (hb.mono p.ok.size)⟩, rfl⟩
theorem wp_region_lw {P : Program} {id : Nat} {Q : Exit → Act → World → Prop} {a : Act} {w : World} {l : List Oper} (hm : P.follows .mixedOrders = true) (hB : Region.lexB .any l.toArray = true)
    (h : wpQuiet P l.toArray (fun w' => ∃ p : LW w, w' = p.val) (fun a' => ∀ w', (∃ p : LW w, w' = p.val) → Q .normal a' w') l a) : (Code.region id l.toArray true).wp P Q a w :=
  wp_region_quiet (C := fun w' => ∃ p : LW w, w' = p.val) hm hB ⟨⟨w.drew, (Below.refl _ _).drew⟩, rfl⟩ (by simpa using h)

/-- A replica whose cells can all be stored. -/
structure RepOK (l : List Cel) : Prop where
  len : l.length = 8
theorem RepOK.vlen {l : List Cel} (h : RepOK l) (f : Int) : (repV f l).length = 25 := by simp [repV, cells8_len, h.len]
theorem vone (l : List Cel) (f : Int) : ∀ v ∈ repV f l, v.oneCell' = true := by
  intro v hv; simp only [repV, List.mem_cons] at hv; rcases hv with rfl | hv
  · rfl
  · exact vs_one v hv
theorem RepOK.set {l : List Cel} (h : RepOK l) (k : Nat) {c : Cel} : RepOK (l.set k c) := ⟨by simp [h.len]⟩

theorem cells8_get : ∀ (l : List Cel) (k : Nat) (h : k < l.length), (cells8 l)[3 * k]? = some (.int .i64 l[k].e) ∧ (cells8 l)[3 * k + 1]? = some (.int .i64 l[k].n) ∧ (cells8 l)[3 * k + 2]? = some (.string l[k].d)
  | [], _, h => by simp at h
  | c :: l, 0, _ => by simp [cells8, Cel.vs]
  | c :: l, k + 1, h => by
    have := cells8_get l k (by simpa using h)
    have e : ∀ j, (cells8 (c :: l))[3 * (k + 1) + j]? = (cells8 l)[3 * k + j]? := fun j => by
      show (_ :: _ :: _ :: cells8 l)[_]? = _
      rw [show 3 * (k + 1) + j = (3 * k + j) + 1 + 1 + 1 by omega]; simp
    exact ⟨(e 0).trans this.1, (e 1).trans this.2.1, (e 2).trans this.2.2⟩
theorem cells8_set : ∀ (l : List Cel) (k : Nat) (c : Cel), setL (cells8 l) (3 * k) c.vs = cells8 (l.set k c)
  | [], k, c => by simp [cells8, setL, Cel.vs]
  | x :: l, 0, c => by simp [cells8, setL, Cel.vs]
  | x :: l, k + 1, c => by
    have := cells8_set l k c
    simp only [Cel.vs, setL] at this ⊢
    show ((List.set (_ :: _ :: _ :: cells8 l) _ _).set _ _).set _ _ = _ :: _ :: _ :: cells8 (l.set k c)
    rw [← this, show 3 * (k + 1) = 3 * k + 1 + 1 + 1 by omega]
    simp
theorem repV_get (f : Int) (l : List Cel) (k : Nat) (h : k < l.length) : (repV f l)[1 + k * 3]? = some (.int .i64 l[k].e) ∧ (repV f l)[1 + k * 3 + 1]? = some (.int .i64 l[k].n) ∧ (repV f l)[1 + k * 3 + 2]? = some (.string l[k].d) := by
  have := cells8_get l k h
  refine ⟨?_, ?_, ?_⟩
  · rw [show 1 + k * 3 = 3 * k + 1 by omega]; simpa [repV] using this.1
  · rw [show 1 + k * 3 + 1 = (3 * k + 1) + 1 by omega]; simpa [repV] using this.2.1
  · rw [show 1 + k * 3 + 2 = (3 * k + 2) + 1 by omega]; simpa [repV] using this.2.2
theorem repV_set (f : Int) (l : List Cel) (k : Nat) (c : Cel) : setL (repV f l) (1 + k * 3) c.vs = repV f (l.set k c) := by
  have := cells8_set l k c
  simp only [Cel.vs, setL, repV] at this ⊢
  rw [← this, show 1 + k * 3 = 3 * k + 1 by omega]
  simp

theorem ret_ra {P : Program} {fn : Func} {r t : Tmp} {T : TypeId} {tmps : Array Value} {w : World} {b : Nat} {v : Value} (h : fn.results = #[.cell r T, .tmp t]) (hr : tmps.getD r undef = .pointer (some ⟨b, 0, Option.none⟩))
    (law : (Instr.loadAt T (.pointer (some ⟨b, 0, Option.none⟩))).run P w = .ok v w) : (results fn tmps).run P w = .ok (.tuple #[v, tmps.getD t undef]) w := by
  have law' : (loadVar T ⟨b, 0, Option.none⟩).run P w = .ok v w := by simpa [Instr.loadAt, Instr.sureAddr, Sem.run_bind] using law
  simp only [Array.getD_eq_getD_getElem?] at hr
  simp [results, h, hr, asAddr, law']

theorem ret_one {P : Program} {fn : Func} {r : Tmp} {T : TypeId} {tmps : Array Value} {w : World} {b : Nat} {v : Value} (h : fn.results = #[.cell r T]) (hr : tmps.getD r undef = .pointer (some ⟨b, 0, Option.none⟩))
    (law : (Instr.loadAt T (.pointer (some ⟨b, 0, Option.none⟩))).run P w = .ok v w) : (results fn tmps).run P w = .ok v w := by
  have law' : (loadVar T ⟨b, 0, Option.none⟩).run P w = .ok v w := by simpa [Instr.loadAt, Instr.sureAddr, Sem.run_bind] using law
  simp only [Array.getD_eq_getD_getElem?] at hr
  simp [results, h, hr, asAddr, law']

/-- What Admit says, and leaves. -/
def admL (f : Int) (l : List Cel) (k : Nat) (c : Cel) : List Cel := if c.e = f then (if h : k < l.length then (if newerB c l[k] then l.set k c else l) else l) else l

set_option maxHeartbeats 1000000 in
theorem admit_no (f : Int) (l : List Cel) (x : Int) (e n : Int) (d : ByteArray) (w : World) (hl : RepOK l) (hx : hasB x = false ∨ (hasB x = true ∧ (e == f) = false)) :
    Calls Try.prog 9 #[.agg (repV f l).toArray, .int .i64 x, .agg #[.int .i64 e, .int .i64 n, .string d]] w fun r w' => r = .returned (.tuple #[.agg (repV f l).toArray, .bool false]) ∧ Below w.heap.size w w' := by
  obtain ⟨X, hX, a0, a1, a2, bX, sX⟩ := three w (.cells (repV f l).toArray 26) (.cells #[.int .i64 e, .int .i64 n, .string d] 23) (.cells z25.toArray 26)
  have A0 : At X w.heap.size (repV f l) 26 := a0
  have A2 : At X (w.heap.size + 1 + 1) z25 26 := a2
  have c0 : X.cell? ⟨w.heap.size + 1, 0, Option.none⟩ = some (.int .i64 e) := by simp [World.cell?, a1]
  have f0 : X.cell? ⟨w.heap.size, 0, Option.none⟩ = some (.int .i64 f) := A0.cell 0
  have hld := load_rep A0 (hl.vlen f)
  have hst := store_rep A2 rfl (hl.vlen f) (vone l f)
  have A2' : At (X.setCells (w.heap.size + 1 + 1) 0 (repV f l)) (w.heap.size + 1 + 1) (repV f l) 26 := by
    have := At.set (repV f l) 0 _ _ A2
    rwa [setL_whole _ _ (by rw [hl.vlen f]; rfl)] at this
  have hld2 := load_rep A2' (hl.vlen f)
  have bY := below_setCells (show w.heap.size ≤ w.heap.size + 1 + 1 by omega) (repV f l) 0 _ bX
  simp only [z25] at hX
  clear a0 a1 a2 A0 A2 A2' hl
  generalize X.setCells (w.heap.size + 1 + 1) 0 (repV f l) = Y at *
  have HL : Hid ((Instr.loadAt 26 (.pointer (some ⟨w.heap.size, 0, Option.none⟩))).run Try.prog X = .ok (.agg (repV f l).toArray) X) := hld
  have HS : Hid ((Instr.storeAt 26 (.pointer (some ⟨w.heap.size + 1 + 1, 0, Option.none⟩)) (.agg (repV f l).toArray)).run Try.prog X = .ok () Y) := hst
  have HL2 : Hid ((Instr.loadAt 26 (.pointer (some ⟨w.heap.size + 1 + 1, 0, Option.none⟩))).run Try.prog Y = .ok (.agg (repV f l).toArray) Y) := hld2
  clear hld hst hld2
  rcases hx with hx | ⟨hx, he⟩
  · go_enter Try.func9, Try.ntmps9
    go_wp2_with fail
    rw [← hX]
    clear hX
    refine (hasBlock_any x _).mono ?_
    rintro r w1 ⟨rfl, rfl⟩
    go_wp2_with (first | (with_reducible refine wl_load HL.out rfl rfl ?_) | (with_reducible refine wl_store HS.out rfl rfl ?_))
    refine bodyPost_ret (ret_ra Try.results9 rfl HL2.out) rfl ⟨rfl, bY⟩
  · go_enter Try.func9, Try.ntmps9
    go_wp2_with fail
    rw [← hX]
    clear hX
    refine (hasBlock_any x _).mono ?_
    rintro r w1 ⟨rfl, rfl⟩
    go_wp2_with (first | (with_reducible refine wl_load HL.out rfl rfl ?_) | (with_reducible refine wl_store HS.out rfl rfl ?_))
    refine bodyPost_ret (ret_ra Try.results9 rfl HL2.out) rfl ⟨rfl, bY⟩

theorem sz23 : (Try.prog.info? 23).map (·.size) = some 3 := by kernel_rfl
theorem und23 : ∃ d, Try.prog.underlying 23 = some d ∧ d.isRow = true := ⟨_, Try.underlying23, rfl⟩
theorem load_cel {X : World} {b o : Nat} {c : Cel} (h : X.rangeAt b o c.vs) :
    (Instr.loadAt 23 (.pointer (some ⟨b, o, Option.none⟩))).run Try.prog X = .ok (.agg #[.int .i64 c.e, .int .i64 c.n, .string c.d]) X := by
  obtain ⟨d, hd, hr⟩ := und23
  exact run_loadAt_mid X b o _ c.vs d h hd hr sz23
theorem store_cel {X : World} {b o : Nat} {T : TypeId} {cs : List Value} (c : Cel) (h : At X b cs T) (ho : o + 3 ≤ cs.length) :
    (Instr.storeAt 23 (.pointer (some ⟨b, o, Option.none⟩)) (.agg #[.int .i64 c.e, .int .i64 c.n, .string c.d])).run Try.prog X = .ok () (X.setCells b o c.vs) :=
  run_storeAt_mid X b o _ #[.int .i64 c.e, .int .i64 c.n, .string c.d] (h.there o 3 ho) sz23 (all_oneCell_toArray (cs := c.vs) (fun v hv => by simp [Cel.vs] at hv; rcases hv with rfl | rfl | rfl <;> rfl))
theorem At.rep_cel {X : World} {b : Nat} {T : TypeId} {f : Int} {l : List Cel} (h : At X b (repV f l) T) (k : Nat) (hk : k < l.length) : X.rangeAt b (1 + k * 3) l[k].vs := by
  obtain ⟨h0, h1, h2⟩ := repV_get f l k hk
  refine h.range _ _ (fun j hj => ?_)
  simp [Cel.vs] at hj
  have : j = 0 ∨ j = 1 ∨ j = 2 := by omega
  rcases this with rfl | rfl | rfl
  · exact h0
  · exact h1
  · exact h2


set_option maxHeartbeats 1000000 in
theorem admit_yes (f : Int) (l : List Cel) (k : Nat) (c : Cel) (w : World) (hl : RepOK l) (hk : k < l.length) (hx : hasB k = true) (he : (c.e == f) = true) (b : Bool) (hn : newerB c l[k] = b) :
    Calls Try.prog 9 #[.agg (repV f l).toArray, .int .i64 k, .agg #[.int .i64 c.e, .int .i64 c.n, .string c.d]] w fun r w' => r = .returned (.tuple #[.agg (repV f (if b = true then l.set k c else l)).toArray, .bool true]) ∧ Below w.heap.size w w' := by
  obtain ⟨X, hX, a0, a1, a2, bX, sX⟩ := three w (.cells (repV f l).toArray 26) (.cells #[.int .i64 c.e, .int .i64 c.n, .string c.d] 23) (.cells z25.toArray 26)
  have A0 : At X w.heap.size (repV f l) 26 := a0
  have A1 : At X (w.heap.size + 1) c.vs 23 := a1
  have A2 : At X (w.heap.size + 1 + 1) z25 26 := a2
  have k8 : (k : Int) < 8 := by have := hl.len; omega
  simp only [z25] at hX
  go_enter Try.func9, Try.ntmps9
  go_wp2_with fail
  rw [← hX]
  clear hX
  refine (hasBlock_any k _).mono ?_
  rintro r w1 ⟨rfl, rfl⟩
  have c0 : X.cell? ⟨w.heap.size + 1, 0, Option.none⟩ = some (.int .i64 c.e) := A1.cell 0
  have f0 : X.cell? ⟨w.heap.size, 0, Option.none⟩ = some (.int .i64 f) := A0.cell 0
  go_wp2_with fail
  have hinh : Nonempty (LW X) := ⟨⟨X, Below.refl _ _⟩⟩
  have q0 : ∀ p : LW X, p.val.cell? ⟨w.heap.size + 1, 0, Option.none⟩ = some (.int .i64 c.e) := fun p => cell_later p.ok (A1.cell 0)
  have q1 : ∀ p : LW X, p.val.cell? ⟨w.heap.size + 1, 1, Option.none⟩ = some (.int .i64 c.n) := fun p => cell_later p.ok (A1.cell 1)
  have q2 : ∀ p : LW X, p.val.cell? ⟨w.heap.size + 1, 2, Option.none⟩ = some (.string c.d) := fun p => cell_later p.ok (A1.cell 2)
  obtain ⟨g0, g1, g2⟩ := repV_get f l k hk
  have s0 : ∀ p : LW X, p.val.cell? ⟨w.heap.size, 1 + k * 3, Option.none⟩ = some (.int .i64 l[k].e) := fun p => cell_later p.ok ((A0.cell _).trans g0)
  have s1 : ∀ p : LW X, p.val.cell? ⟨w.heap.size, 1 + k * 3 + 1, Option.none⟩ = some (.int .i64 l[k].n) := fun p => cell_later p.ok ((A0.cell _).trans g1)
  have s2 : ∀ p : LW X, p.val.cell? ⟨w.heap.size, 1 + k * 3 + 2, Option.none⟩ = some (.string l[k].d) := fun p => cell_later p.ok ((A0.cell _).trans g2)
  clear c0 f0 g0 g1 g2
  have HN : Hid (newerB ⟨c.e, c.n, c.d⟩ ⟨l[k].e, l[k].n, l[k].d⟩ = b) := hn
  clear hn
  refine wp_region_lw (by kernel_rfl) (by kernel_rfl) ?_
  repeat (go_big_quiet_step ((go_at_call 10; exact Calls.quiet_lw (newer_any c.e c.n l[k].e l[k].n c.d l[k].d _))))
  refine wpQuiet_nil ?_
  rintro Z ⟨⟨_, hZ⟩, rfl⟩
  clear q0 q1 q2 s0 s1 s2 hinh
  rw [HN.out]
  have A0 := A0.later hZ A0.lt
  have A1 := A1.later hZ A1.lt
  have A2 := A2.later hZ A2.lt
  have bZ := bX.trans (hZ.mono bX.size)
  clear hZ bX sX a0 a1 a2 HN
  cases b with
  | true =>
    have hk3 : 1 + k * 3 + 3 ≤ (repV f l).length := by have := hl.vlen f; have := hl.len; omega
    have HC : Hid ((Instr.loadAt 23 (.pointer (some ⟨w.heap.size + 1, 0, Option.none⟩))).run Try.prog Z = .ok (.agg #[.int .i64 c.e, .int .i64 c.n, .string c.d]) Z) := load_cel A1.whole
    have hs1 := store_cel (o := 1 + k * 3) c A0 hk3
    have A0' := At.set c.vs (1 + k * 3) _ _ A0
    have A2' := At.set_ne (show w.heap.size + 1 + 1 ≠ w.heap.size by omega) c.vs (1 + k * 3) _ A2
    have bZ' := below_setCells (Nat.le_refl w.heap.size) c.vs (1 + k * 3) _ bZ
    rw [repV_set] at A0'
    have hl' := hl.set k (c := c)
    obtain ⟨l', HE⟩ : ∃ l', Hid (l.set k c = l') := ⟨_, rfl⟩
    rw [HE.out] at A0' hl'
    generalize Z.setCells w.heap.size (1 + k * 3) c.vs = Z1 at *
    have HT : Hid ((Instr.storeAt 23 (.pointer (some ⟨w.heap.size, 1 + k * 3, Option.none⟩)) (.agg #[.int .i64 c.e, .int .i64 c.n, .string c.d])).run Try.prog Z = .ok () Z1) := hs1
    clear hs1 A0 A1 A2 bZ hl hk3 hx
    have HL : Hid ((Instr.loadAt 26 (.pointer (some ⟨w.heap.size, 0, Option.none⟩))).run Try.prog Z1 = .ok (.agg (repV f l').toArray) Z1) := load_rep A0' (hl'.vlen f)
    have hst := store_rep A2' rfl (hl'.vlen f) (vone l' f)
    have A2'' : At (Z1.setCells (w.heap.size + 1 + 1) 0 (repV f l')) (w.heap.size + 1 + 1) (repV f l') 26 := by
      have := At.set (repV f l') 0 _ _ A2'
      rwa [setL_whole _ _ (by rw [hl'.vlen f]; rfl)] at this
    have hld2 := load_rep A2'' (hl'.vlen f)
    have bY := below_setCells (show w.heap.size ≤ w.heap.size + 1 + 1 by omega) (repV f l') 0 _ bZ'
    generalize Z1.setCells (w.heap.size + 1 + 1) 0 (repV f l') = Y at *
    have HS : Hid ((Instr.storeAt 26 (.pointer (some ⟨w.heap.size + 1 + 1, 0, Option.none⟩)) (.agg (repV f l').toArray)).run Try.prog Z1 = .ok () Y) := hst
    have HL2 : Hid ((Instr.loadAt 26 (.pointer (some ⟨w.heap.size + 1 + 1, 0, Option.none⟩))).run Try.prog Y = .ok (.agg (repV f l').toArray) Y) := hld2
    clear hst hld2 A0' A2' A2'' hl'
    go_wp2_with (first | (with_reducible refine wl_load HL.out rfl rfl ?_) | (with_reducible refine wl_load HC.out rfl rfl ?_) | (with_reducible refine wl_store HS.out rfl rfl ?_) | (with_reducible refine wl_store HT.out rfl rfl ?_))
    refine bodyPost_ret (ret_ra Try.results9 rfl HL2.out) rfl ⟨by rw [← HE.out]; rfl, bY⟩
  | false =>
    have HL : Hid ((Instr.loadAt 26 (.pointer (some ⟨w.heap.size, 0, Option.none⟩))).run Try.prog Z = .ok (.agg (repV f l).toArray) Z) := load_rep A0 (hl.vlen f)
    have hst := store_rep A2 rfl (hl.vlen f) (vone l f)
    have A2' : At (Z.setCells (w.heap.size + 1 + 1) 0 (repV f l)) (w.heap.size + 1 + 1) (repV f l) 26 := by
      have := At.set (repV f l) 0 _ _ A2
      rwa [setL_whole _ _ (by rw [hl.vlen f]; rfl)] at this
    have hld2 := load_rep A2' (hl.vlen f)
    have bY := below_setCells (show w.heap.size ≤ w.heap.size + 1 + 1 by omega) (repV f l) 0 _ bZ
    generalize Z.setCells (w.heap.size + 1 + 1) 0 (repV f l) = Y at *
    have HS : Hid ((Instr.storeAt 26 (.pointer (some ⟨w.heap.size + 1 + 1, 0, Option.none⟩)) (.agg (repV f l).toArray)).run Try.prog Z = .ok () Y) := hst
    have HL2 : Hid ((Instr.loadAt 26 (.pointer (some ⟨w.heap.size + 1 + 1, 0, Option.none⟩))).run Try.prog Y = .ok (.agg (repV f l).toArray) Y) := hld2
    clear hst hld2 A0 A1 A2 A2' hl
    go_wp2_with (first | (with_reducible refine wl_load HL.out rfl rfl ?_) | (with_reducible refine wl_store HS.out rfl rfl ?_))
    refine bodyPost_ret (ret_ra Try.results9 rfl HL2.out) rfl ⟨rfl, bY⟩

theorem admit_any (f : Int) (l : List Cel) (k : Nat) (c : Cel) (w : World) (hl : RepOK l) (hk : k < 8) :
    Calls Try.prog 9 #[.agg (repV f l).toArray, .int .i64 k, .agg #[.int .i64 c.e, .int .i64 c.n, .string c.d]] w fun r w' => r = .returned (.tuple #[.agg (repV f (admL f l k c)).toArray, .bool (c.e == f)]) ∧ Below w.heap.size w w' := by
  have hx : hasB k = true := by simp [hasB]; omega
  have hk' : k < l.length := by rw [hl.len]; exact hk
  by_cases he : c.e = f
  · have he' : (c.e == f) = true := by simpa using he
    refine (admit_yes f l k c w hl hk' hx he' _ rfl).mono fun r w' h => ?_
    rw [h.1]
    refine ⟨?_, h.2⟩
    simp [admL, he, hk']
  · have he' : (c.e == f) = false := by simpa using he
    refine (admit_no f l k c.e c.n c.d w hl (.inr ⟨hx, he'⟩)).mono fun r w' h => ?_
    rw [h.1, he']
    exact ⟨by simp [admL, he], h.2⟩
theorem admL_ok {f : Int} {l : List Cel} {k : Nat} {c : Cel} (hl : RepOK l) : RepOK (admL f l k c) := by
  unfold admL
  split
  · split
    · split
      · exact hl.set k
      · exact hl
    · exact hl
  · exact hl
end Go.Proofs.Yteebhmhjbgehjaa
