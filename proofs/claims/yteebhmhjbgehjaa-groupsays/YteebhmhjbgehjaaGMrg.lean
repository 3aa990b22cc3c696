/- What replica.Merge answers, for every row of replicas. No statement of the seat is proved here. -/
import Derived.Test.YteebhmhjbgehjaaGMid
namespace Go.Proofs.Yteebhmhjbgehjaa
open Go.ChangeShapes Go.WideShapes Go.ChangeAt Go.RowKit Go.Deep

def zc : Cel := ⟨0, 0, ⟨#[]⟩⟩
def pickM (src m : List Cel) (k : Nat) : List Cel := if newerB (m.getD k zc) (src.getD k zc) = true then m else m.set k (src.getD k zc)
def stepM (src m : List Cel) : Nat → List Cel
  | 0 => m
  | k + 1 => pickM src (stepM src m k) k
/-- Of each block the newest cell, and of several the first. -/
def mrg : List Rep → List Cel
  | [] => zero8
  | r :: rs => stepM r.l (mrg rs) 8
theorem pickM_ok {src m : List Cel} {k : Nat} (h : RepOK m) : RepOK (pickM src m k) := by
  unfold pickM; split
  · exact h
  · exact h.set k
theorem stepM_ok {src m : List Cel} (h : RepOK m) : ∀ k, RepOK (stepM src m k)
  | 0 => h
  | k + 1 => pickM_ok (stepM_ok h k)
theorem mrg_ok : ∀ rs, RepOK (mrg rs)
  | [] => zero8_ok
  | _ :: rs => stepM_ok (mrg_ok rs) 8

theorem wl_index {P : Program} {ops : Array Oper} {rest : List Oper} {dst : Option Tmp} {T ty : TypeId} {x y : Operand} {pos : String} {after : Array Edge} {gd : Option (Nat × Bool)} {a : Act} {w : World} {Q : Exit → Act → World → Prop} {p i v : Value}
    (law : (Instr.index T p i).run P w = .ok v w) (hw : Region.wanted ⟨dst, .index T x y, ty, pos, after, gd⟩ (yielded ops a.tmps) = true) (hx : a.eval x = p) (hy : a.eval y = i) (h : wpList P ops Q rest (a.put dst v) w) : wpList P ops Q (⟨dst, .index T x y, ty, pos, after, gd⟩ :: rest) a w :=
  BigFrame.wpList_want hw fun K hK => by unfold Oper.wp execOp; simp only [hx, hy, Sem.run_bind, law, Result.andThen_ok, Sem.run_pure]; exact hK _ _ h
theorem run_index8 (w : World) (l : List Cel) (k : Nat) (hl : RepOK l) (hk : k < l.length) : (Instr.index 24 (.agg (cells8 l).toArray) (.int .i64 k)).run Try.prog w = .ok (.agg #[.int .i64 l[k].e, .int .i64 l[k].n, .string l[k].d]) w := by
  have e0 : l = l.take k ++ l[k] :: l.drop (k + 1) := by rw [← List.drop_eq_getElem_cons hk, List.take_append_drop]
  have hp := part_cel w (l.take k) l[k] (l.drop (k + 1))
  rw [← e0, List.length_take, Nat.min_eq_left (by omega)] at hp
  obtain ⟨i, hi, hs⟩ : ∃ i, Try.prog.info? 23 = some i ∧ i.size = 3 := by
    have := sz23
    cases h : Try.prog.info? 23 with
    | none => rw [h] at this; cases this
    | some i => rw [h] at this; exact ⟨i, rfl, by simpa using this⟩
  have hsz : (sizeOf 23).run Try.prog w = .ok 3 w := by simp [sizeOf, typeInfo, hi, hs]
  have h8 := hl.len
  have hc : (0 : Int) ≤ (k : Int) ∧ (k : Int) < ((8 : Nat) : Int) := by omega
  unfold Instr.index
  simp only [asIntOf, Sem.run_bind, Sem.run_pure, Result.andThen_ok, run_underlying Try.underlying24 w]
  first
  | (rw [if_pos hc]; simp only [Sem.run_bind, hsz, Result.andThen_ok]; simpa using hp)
  | (simp only [hc, and_self, if_true, Sem.run_bind, hsz, Result.andThen_ok]; simpa using hp)
theorem sz24 : (Try.prog.info? 24).map (·.size) = some 24 := by kernel_rfl
theorem und24 : ∃ d, Try.prog.underlying 24 = some d ∧ d.isRow = true := ⟨_, Try.underlying24, rfl⟩
theorem RepOK.clen {l : List Cel} (h : RepOK l) : (cells8 l).length = 24 := by rw [cells8_len, h.len]
theorem load_arr {X : World} {b o : Nat} {l : List Cel} (h : X.rangeAt b o (cells8 l)) (hl : RepOK l) :
    (Instr.loadAt 24 (.pointer (some ⟨b, o, Option.none⟩))).run Try.prog X = .ok (.agg (cells8 l).toArray) X := by
  obtain ⟨d, hd, hr⟩ := und24
  exact run_loadAt_mid X b o _ _ d h hd hr (by rw [hl.clen]; exact sz24)
theorem store_arr {X : World} {b : Nat} {T : TypeId} {cs : List Value} {l : List Cel} (h : At X b cs T) (hc : cs.length = 24) (hl : RepOK l) :
    (Instr.storeAt 24 (.pointer (some ⟨b, 0, Option.none⟩)) (.agg (cells8 l).toArray)).run Try.prog X = .ok () (X.setCells b 0 (cells8 l)) :=
  run_storeAt_mid X b 0 _ (cells8 l).toArray (by simpa using h.there 0 (cells8 l).length (by rw [hl.clen]; omega)) (by simpa [hl.clen] using sz24) (all_oneCell_toArray vs_one)
theorem cells8_set' (l : List Cel) (k : Nat) (c : Cel) : setL (cells8 l) (k * 3) c.vs = cells8 (l.set k c) := by rw [Nat.mul_comm]; exact cells8_set l k c
theorem At.arr_cel {X : World} {b : Nat} {T : TypeId} {l : List Cel} (h : At X b (cells8 l) T) (k : Nat) (hk : k < l.length) : X.cell? ⟨b, k * 3, Option.none⟩ = some (.int .i64 l[k].e) ∧ X.cell? ⟨b, k * 3 + 1, Option.none⟩ = some (.int .i64 l[k].n) ∧ X.cell? ⟨b, k * 3 + 2, Option.none⟩ = some (.string l[k].d) := by
  obtain ⟨h0, h1, h2⟩ := cells8_get l k hk
  rw [Nat.mul_comm] at h0 h1 h2
  exact ⟨(h.cell _).trans h0, (h.cell _).trans h1, (h.cell _).trans h2⟩

/-- A row of replicas, somewhere. -/
def RepsAt (W : World) (b off : Nat) (rs : List Rep) : Prop := ∀ (k : Nat) (hk : k < rs.length) (j : Nat), j < 25 → W.cell? ⟨b, off + k * 25 + j, Option.none⟩ = (rs[k].vs)[j]?

set_option maxHeartbeats 4000000 in
theorem merge_any (b off c : Nat) (rs : List Rep) (w : World) (hrow : RepsAt w b off rs) (hok : ∀ r ∈ rs, RepOK r.l) (hn : rs.length ≤ 1000) :
    Calls Try.prog 38 #[.slice (some ⟨b, off, Option.none⟩) rs.length c] w fun r w' => r = .returned (.agg (cells8 (mrg rs)).toArray) ∧ Below w.heap.size w w' := by
  obtain ⟨X, hX, a0, a1, bX, sX⟩ := two w (.cells (cells8 zero8).toArray 24) (.cells (cells8 zero8).toArray 24)
  have A0 : At X w.heap.size (cells8 zero8) 24 := a0
  have A1 : At X (w.heap.size + 1) (cells8 zero8) 24 := a1
  have HW : Hid (RepsAt w b off rs) := hrow
  have HK : Hid (∀ r ∈ rs, RepOK r.l) := hok
  clear a0 a1 hrow hok
  simp only [cells8, zero8, List.replicate, List.flatMap_cons, List.flatMap_nil, Cel.vs, List.cons_append, List.nil_append, List.append_nil] at hX
  have hnw : (-9223372036854775808 : Int) ≤ (rs.length : Int) - 1 ∧ (rs.length : Int) - 1 ≤ 9223372036854775807 := by omega
  go_enter Try.func38, Try.ntmps38
  go_wp2_with fail
  rw [← hX]
  clear hX
  go_loopw [4] (fun i wr => ∃ k : Nat, k ≤ rs.length ∧ i = .int .i64 ((k : Int) - 1) ∧ At wr w.heap.size (cells8 zero8) 24 ∧ At wr (w.heap.size + 1) (cells8 (mrg (rs.drop k))) 24 ∧ Below w.heap.size w wr) (fun i _ => (intOf i + 1).toNat)
  case atStart => exact ⟨rs.length, Nat.le_refl _, by go_num, A0, by rw [List.drop_length]; exact A1, bX⟩
  case round =>
    clear A0 A1 bX sX
    obtain ⟨k, hk, rfl, A0, A1, bw⟩ := hrel
    cases k with
    | zero =>
      rw [List.drop_zero] at A1
      have HL : Hid ((Instr.loadAt 24 (.pointer (some ⟨w.heap.size + 1, 0, Option.none⟩))).run Try.prog wr = .ok (.agg (cells8 (mrg rs)).toArray) wr) := load_arr A1.whole (mrg_ok rs)
      have hst := store_arr A0 zero8_ok.clen (mrg_ok rs)
      have A2 := At.set (cells8 (mrg rs)) 0 _ _ A0
      rw [setL_whole _ _ (by rw [zero8_ok.clen, (mrg_ok rs).clen])] at A2
      have bY := below_setCells (Nat.le_refl w.heap.size) (cells8 (mrg rs)) 0 _ bw
      generalize wr.setCells w.heap.size 0 (cells8 (mrg rs)) = Y at *
      have HS : Hid ((Instr.storeAt 24 (.pointer (some ⟨w.heap.size, 0, Option.none⟩)) (.agg (cells8 (mrg rs)).toArray)).run Try.prog wr = .ok () Y) := hst
      have HR : Hid ((Instr.loadAt 24 (.pointer (some ⟨w.heap.size, 0, Option.none⟩))).run Try.prog Y = .ok (.agg (cells8 (mrg rs)).toArray) Y) := load_arr A2.whole (mrg_ok rs)
      clear hst A0 A1 A2 bw
      go_wp2_with (first | (with_reducible refine wl_load HL.out rfl rfl ?_) | (with_reducible refine wl_store HS.out rfl rfl ?_))
      refine bodyPost_ret (ret_one Try.results38 rfl HR.out) rfl ⟨rfl, bY⟩
    | succ k =>
      have hki : ((k + 1 : Nat) : Int) - 1 = (k : Int) := by omega
      rw [hki]
      have hk0 : (0 : Int) ≤ (k : Int) := by omega
      have hkn : (k : Int) < (rs.length : Int) := by omega
      have hkl : k < rs.length := by omega
      obtain ⟨src, hsrc⟩ : ∃ src, rs[k].l = src := ⟨_, rfl⟩
      have hso : RepOK src := by rw [← hsrc]; exact HK.out _ (List.getElem_mem hkl)
      have HD : Hid (mrg (rs.drop k) = stepM src (mrg (rs.drop (k + 1))) 8) := by show _ = _; rw [List.drop_eq_getElem_cons hkl, mrg, hsrc]
      have hrng : wr.rangeAt b (off + k * 25 + 1) (cells8 src) := fun j v hv => by
        have hj : j < 24 := by have := (List.getElem?_eq_some_iff.1 hv).1; rwa [hso.clen] at this
        have := cell_later bw ((HW.out k hkl (j + 1) (by omega)).trans (show _ = some v by show (repV rs[k].f rs[k].l)[j + 1]? = _; rw [hsrc]; exact hv))
        rwa [show off + k * 25 + (j + 1) = off + k * 25 + 1 + j by omega] at this
      have HL : Hid ((Instr.loadAt 24 (.pointer (some ⟨b, off + k * 25 + 1, Option.none⟩))).run Try.prog wr = .ok (.agg (cells8 src).toArray) wr) := load_arr hrng hso
      have hmo := mrg_ok (rs.drop (k + 1))
      obtain ⟨old, HO⟩ : ∃ old, Hid (mrg (rs.drop (k + 1)) = old) := ⟨_, rfl⟩
      rw [HO.out] at A1 hmo
      have HD2 : Hid (mrg (rs.drop k) = stepM src old 8) := by show _ = _; rw [HD.out, HO.out]
      clear hrng HD HO hsrc
      go_wp2_with (with_reducible refine wl_load HL.out rfl rfl ?_)
      clear HL
      go_loopw [19] (fun i w2 => ∃ m : Nat, m ≤ 8 ∧ i = .int .i64 (m : Int) ∧ At w2 w.heap.size (cells8 zero8) 24 ∧ At w2 (w.heap.size + 1) (cells8 (stepM src old m)) 24 ∧ Below w.heap.size w w2) (fun i _ => 8 - (intOf i).toNat)
      case atStart => exact ⟨0, by omega, rfl, A0, A1, bw⟩
      case round =>
        clear A0 A1 bw
        obtain ⟨m, hm, rfl, A0, A1, bw⟩ := hrel
        by_cases hlt : m < 8
        · have hmi : (m : Int) < 8 := by omega
          have hko := stepM_ok (src := src) hmo m
          obtain ⟨cur, HC⟩ : ∃ cur, Hid (stepM src old m = cur) := ⟨_, rfl⟩
          rw [HC.out] at A1 hko
          have hms : m < src.length := by rw [hso.len]; exact hlt
          have hmc : m < cur.length := by rw [hko.len]; exact hlt
          have HNX : Hid (stepM src old (m + 1) = pickM src cur m) := by show _ = _; rw [stepM, HC.out]
          have HPK : Hid (pickM src cur m = if newerB cur[m] src[m] = true then cur else cur.set m src[m]) := by
            show _ = _; unfold pickM; simp [hms, hmc]
          obtain ⟨cs, hcs⟩ : ∃ cs, src[m] = cs := ⟨_, rfl⟩
          obtain ⟨cc, hcc⟩ : ∃ cc, cur[m] = cc := ⟨_, rfl⟩
          have HI : Hid ((Instr.index 24 (.agg (cells8 src).toArray) (.int .i64 m)).run Try.prog wr = .ok (.agg #[.int .i64 cs.e, .int .i64 cs.n, .string cs.d]) wr) := by rw [← hcs]; exact run_index8 wr src m hso hms
          obtain ⟨x0, x1, x2⟩ := A1.arr_cel m hmc
          rw [hcc] at x0 x1 x2
          rw [hcs, hcc] at HPK
          go_wp2_with (with_reducible refine wl_index HI.out rfl rfl rfl ?_)
          clear HI x0 x1 x2
          have hal : ∀ o, Below wr.heap.size wr (wr.alloc o) := fun o => (Below.refl _ _).alloc (Nat.le_refl _) _
          have A2 : At (wr.alloc (.cells #[.int .i64 cs.e, .int .i64 cs.n, .string cs.d] 23)) wr.heap.size cs.vs 23 := heap_alloc_new wr _
          replace A0 := A0.later (hal (.cells #[.int .i64 cs.e, .int .i64 cs.n, .string cs.d] 23)) A0.lt
          have hN1 := A1.lt
          replace A1 := A1.later (hal (.cells #[.int .i64 cs.e, .int .i64 cs.n, .string cs.d] 23)) A1.lt
          replace bw := bw.trans ((hal (.cells #[.int .i64 cs.e, .int .i64 cs.n, .string cs.d] 23)).mono bw.size)
          clear hal
          have hrs : wr.heap.size ≠ w.heap.size + 1 := by omega
          obtain ⟨nb, hnb⟩ : ∃ nb, wr.heap.size = nb := ⟨_, rfl⟩
          generalize wr.alloc (.cells #[.int .i64 cs.e, .int .i64 cs.n, .string cs.d] 23) = Z at *
          rw [hnb] at *
          clear hnb hN1
          obtain ⟨x0, x1, x2⟩ := A1.arr_cel m hmc
          rw [hcc] at x0 x1 x2
          have hinh : Nonempty (LW Z) := ⟨⟨Z, Below.refl _ _⟩⟩
          have q0 : ∀ p : LW Z, p.val.cell? ⟨nb, 0, Option.none⟩ = some (.int .i64 cs.e) := fun p => cell_later p.ok (A2.cell 0)
          have q1 : ∀ p : LW Z, p.val.cell? ⟨nb, 1, Option.none⟩ = some (.int .i64 cs.n) := fun p => cell_later p.ok (A2.cell 1)
          have q2 : ∀ p : LW Z, p.val.cell? ⟨nb, 2, Option.none⟩ = some (.string cs.d) := fun p => cell_later p.ok (A2.cell 2)
          have s0 : ∀ p : LW Z, p.val.cell? ⟨w.heap.size + 1, m * 3, Option.none⟩ = some (.int .i64 cc.e) := fun p => cell_later p.ok x0
          have s1 : ∀ p : LW Z, p.val.cell? ⟨w.heap.size + 1, m * 3 + 1, Option.none⟩ = some (.int .i64 cc.n) := fun p => cell_later p.ok x1
          have s2 : ∀ p : LW Z, p.val.cell? ⟨w.heap.size + 1, m * 3 + 2, Option.none⟩ = some (.string cc.d) := fun p => cell_later p.ok x2
          clear x0 x1 x2
          refine wp_region_lw (by kernel_rfl) (by kernel_rfl) ?_
          repeat (go_big_quiet_step ((go_at_call 10; exact Calls.quiet_lw (newer_any cc.e cc.n cs.e cs.n cc.d cs.d _))))
          refine wpQuiet_nil ?_
          rintro Y ⟨⟨_, hY⟩, rfl⟩
          clear q0 q1 q2 s0 s1 s2 hinh
          replace A0 := A0.later hY A0.lt
          replace A1 := A1.later hY A1.lt
          replace A2 := A2.later hY A2.lt
          replace bw := bw.trans (hY.mono bw.size)
          clear hY
          rw [show newerB ⟨cc.e, cc.n, cc.d⟩ ⟨cs.e, cs.n, cs.d⟩ = newerB cc cs from rfl]
          cases hnw2 : newerB cc cs with
          | true =>
            rw [hnw2, if_pos rfl] at HPK
            clear hnw2
            go_wp2_with fail
            refine ⟨⟨m + 1, by omega, by go_num, A0, ?_, bw⟩, by simp [intOf]; omega⟩
            rw [HNX.out, HPK.out]; exact A1
          | false =>
            rw [hnw2, if_neg (by decide)] at HPK
            clear hnw2
            have HL : Hid ((Instr.loadAt 23 (.pointer (some ⟨nb, 0, Option.none⟩))).run Try.prog Y = .ok (.agg #[.int .i64 cs.e, .int .i64 cs.n, .string cs.d]) Y) := load_cel A2.whole
            have hst := store_cel (o := m * 3) cs A1 (by rw [hko.clen]; omega)
            have A3 := At.set cs.vs (m * 3) _ _ A1
            rw [cells8_set'] at A3
            have A4 := At.set_ne (show w.heap.size ≠ w.heap.size + 1 by omega) cs.vs (m * 3) _ A0
            have b3 := below_setCells (show w.heap.size ≤ w.heap.size + 1 by omega) cs.vs (m * 3) _ bw
            generalize Y.setCells (w.heap.size + 1) (m * 3) cs.vs = Y1 at *
            have HS : Hid ((Instr.storeAt 23 (.pointer (some ⟨w.heap.size + 1, m * 3, Option.none⟩)) (.agg #[.int .i64 cs.e, .int .i64 cs.n, .string cs.d])).run Try.prog Y = .ok () Y1) := hst
            clear hst A0 A1 A2 bw
            go_wp2_with (first | (with_reducible refine wl_load HL.out rfl rfl ?_) | (with_reducible refine wl_store HS.out rfl rfl ?_))
            refine ⟨⟨m + 1, by omega, by go_num, A4, ?_, b3⟩, by simp [intOf]; omega⟩
            rw [HNX.out, HPK.out]; exact A3
        · obtain rfl : m = 8 := by omega
          go_wp2
          refine ⟨⟨k, by omega, by go_num, A0, by rw [HD2.out]; exact A1, bw⟩, by simp [intOf]⟩
end Go.Proofs.Yteebhmhjbgehjaa
