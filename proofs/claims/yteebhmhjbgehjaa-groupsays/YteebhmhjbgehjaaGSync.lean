/- What group.Sync answers. No statement of the seat is proved here. -/
import Derived.Test.YteebhmhjbgehjaaGMerge
import Derived.Test.YteebhmhjbgehjaaGFence
namespace Go.Proofs.Yteebhmhjbgehjaa
open Go.ChangeShapes Go.WideShapes Go.ChangeAt Go.RowKit Go.Deep

def syncB (rs : List Rep) (up : List Bool) (e i : Int) : Bool := upB up i && (decide (2 ≤ (memL rs up e 3).length) && decide ((rs.getD i.toNat ⟨0, []⟩).f < e))
def syncG (rs : List Rep) (up : List Bool) (e i : Int) : List Rep := if syncB rs up e i = true then rs.set i.toNat ⟨e, mrg ((memL rs up e 3).map (pickR rs))⟩ else rs
theorem wl_build {P : Program} {ops : Array Oper} {rest : List Oper} {dst : Option Tmp} {T ty : TypeId} {ps : Array (Nat × Operand)} {pos : String} {after : Array Edge} {a : Act} {w : World} {Q : Exit → Act → World → Prop} {qs : Array (Nat × Value)} {v : Value}
    (law : (Instr.build T qs).run P w = .ok v w) (hx : (ps.map fun p => (p.1, a.eval p.2)) = qs) (h : wpList P ops Q rest (a.put dst v) w) : wpList P ops Q (⟨dst, .build T ps, ty, pos, after, Option.none⟩ :: rest) a w :=
  wpList_plain rfl fun K hK => by unfold Oper.wp execOp; simp only [hx, Sem.run_bind, law, Result.andThen_ok, Sem.run_pure]; exact hK _ _ h
theorem build_rep (e : Int) (C : List Cel) (hC : RepOK C) (w : World) : (Instr.build 26 #[(0, .int .i64 e), (1, .agg (cells8 C).toArray)]).run Try.prog w = .ok (.agg (repV e C).toArray) w := by
  refine run_build w _ _ _ ?_
  have hl := hC.len
  clear hC
  match C, hl with
  | [c0, c1, c2, c3, c4, c5, c6, c7], _ => show _ = _; kernel_rfl
theorem upB_in {up : List Bool} {i : Int} (h : upB up i = true) : ∃ m : Nat, i = m ∧ m < 3 := by
  simp [upB] at h
  exact ⟨i.toNat, by omega, by omega⟩

set_option maxRecDepth 100000 in
set_option maxHeartbeats 4000000 in
theorem sync_any (rs : List Rep) (up : List Bool) (e i : Int) (w : World) (h : GOK rs up) :
    Calls Try.prog 19 #[.agg (grV rs up).toArray, .int .i64 e, .int .i64 i] w fun r w' => r = .returned (.tuple #[.agg (grV (syncG rs up e i) up).toArray, .bool (syncB rs up e i)]) ∧ Below w.heap.size w w' := by
  obtain ⟨X, hX, a0, a1, bX, sX⟩ := two w (.cells (grV rs up).toArray 38) (.cells z78.toArray 38)
  have A0 : At X w.heap.size (grV rs up) 38 := a0
  have A1 : At X (w.heap.size + 1) z78 38 := a1
  have hz := zero78
  clear a0 a1
  go_enter Try.func19, Try.ntmps19
  go_upto_region 1 with fail
  rw [← hX]
  clear hX
  have HL : Hid ((Instr.loadAt 38 (.pointer (some ⟨w.heap.size, 0, Option.none⟩))).run Try.prog X = .ok (.agg (grV rs up).toArray) X) := load_gr A0 h.vlen
  go_wp2_with (with_reducible refine wl_load HL.out rfl rfl ?_)
  clear HL
  refine (members_any rs up e X h).mono ?_
  rintro r Z ⟨a, n, c, rfl, ho, hb1⟩
  obtain ⟨_, _, _, he', hn⟩ := ho.form
  simp only [Value.slice.injEq] at he'
  obtain ⟨rfl, rfl, rfl⟩ := he'
  replace A0 := A0.later hb1 A0.lt
  replace A1 := A1.later hb1 A1.lt
  have bZ := bX.trans (hb1.mono bX.size)
  clear hb1 bX
  have HL : Hid ((Instr.loadAt 38 (.pointer (some ⟨w.heap.size, 0, Option.none⟩))).run Try.prog Z = .ok (.agg (grV rs up).toArray) Z) := load_gr A0 h.vlen
  have hmem : ∀ x ∈ memL rs up e 3, ∃ m : Nat, m < 3 ∧ x = m := memL_mem rs up e 3
  obtain ⟨L, hL⟩ : ∃ L, memL rs up e 3 = L := ⟨_, rfl⟩
  have HLe : Hid (memL rs up e 3 = L) := hL
  have HM : Hid (∀ x ∈ L, ∃ m : Nat, m < 3 ∧ x = m) := by rw [← hL]; exact hmem
  have hl3 : L.length ≤ 3 := by rw [← hL]; exact memL_len rs up e 3
  rw [hL] at hn ho
  clear hL hmem
  have hnl : n = L.length := hn.1.symm
  subst hnl
  have HRW0 : Hid (0 < L.length → ∃ b off, a = some ⟨b, off, Option.none⟩ ∧ ∀ (j : Nat) (hj : j < L.length), Z.cell? ⟨b, off + j, Option.none⟩ = some (.int .i64 L[j])) := fun h0 => hn.2.2 (by omega)
  clear hn ho
  go_wp2_with (with_reducible refine wl_load HL.out rfl rfl ?_)
  clear HL
  refine (isUp_any rs up i Z h).mono ?_
  rintro r Z1 ⟨rfl, hb1⟩
  replace A0 := A0.later hb1 A0.lt
  replace A1 := A1.later hb1 A1.lt
  replace bZ := bZ.trans (hb1.mono bZ.size)
  have HRW : Hid (0 < L.length → ∃ b off, a = some ⟨b, off, Option.none⟩ ∧ ∀ (j : Nat) (hj : j < L.length), Z1.cell? ⟨b, off + j, Option.none⟩ = some (.int .i64 L[j])) := fun h0 => by
    obtain ⟨b, off, e1, e2⟩ := HRW0.out h0
    exact ⟨b, off, e1, fun j hj => cell_later hb1 (e2 j hj)⟩
  clear hb1 HRW0
  cases hu : upB up i with
  | false =>
    have HB : Hid (syncB rs up e i = false) := by show _ = _; simp [syncB, hu]
    have HG : Hid (syncG rs up e i = rs) := by show _ = _; simp [syncG, HB.out]
    clear HLe HRW HM hu
    have HL : Hid ((Instr.loadAt 38 (.pointer (some ⟨w.heap.size, 0, Option.none⟩))).run Try.prog Z1 = .ok (.agg (grV rs up).toArray) Z1) := load_gr A0 h.vlen
    have hst := store_gr A1 rfl h.vlen (grV_one rs up)
    have A2 := At.set (grV rs up) 0 _ _ A1
    rw [setL_whole _ _ (by rw [h.vlen]; rfl)] at A2
    have b3 := below_setCells (show w.heap.size ≤ w.heap.size + 1 by omega) (grV rs up) 0 _ bZ
    generalize World.setCells Z1 (w.heap.size + 1) 0 (grV rs up) = Y at *
    have HS : Hid ((Instr.storeAt 38 (.pointer (some ⟨w.heap.size + 1, 0, Option.none⟩)) (.agg (grV rs up).toArray)).run Try.prog Z1 = .ok () Y) := hst
    have HR : Hid ((Instr.loadAt 38 (.pointer (some ⟨w.heap.size + 1, 0, Option.none⟩))).run Try.prog Y = .ok (.agg (grV rs up).toArray) Y) := load_gr A2 h.vlen
    clear hst A0 A1 A2
    go_wp2_with (first | (with_reducible refine wl_load HL.out rfl rfl ?_) | (with_reducible refine wl_store HS.out rfl rfl ?_))
    refine bodyPost_ret (ret_ra Try.results19 rfl HR.out) rfl ⟨by rw [HB.out, HG.out]; first | rfl | simp, b3⟩
  | true =>
    obtain ⟨m, rfl, hm3⟩ := upB_in hu
    have hm3' : (m : Int) < 3 := by omega
    have hml : m < rs.length := by rw [h.len]; exact hm3
    have hgd : rs.getD ((m : Int)).toNat ⟨0, []⟩ = rs[m] := by rw [show ((m : Int)).toNat = m from rfl]; simp [hml]
    go_wp2_with fail
    refine (most_any _ _ c Z1).mono ?_
    rintro r _ ⟨rfl, rfl⟩
    by_cases h2 : 2 ≤ L.length
    case neg =>
      have hd : decide (2 ≤ L.length) = false := by simpa using h2
      have HB : Hid (syncB rs up e m = false) := by show _ = _; unfold syncB; rw [HLe.out, hd]; simp
      have HG : Hid (syncG rs up e m = rs) := by show _ = _; simp [syncG, HB.out]
      clear HLe HRW HM hu h2
      have HL : Hid ((Instr.loadAt 38 (.pointer (some ⟨w.heap.size, 0, Option.none⟩))).run Try.prog Z1 = .ok (.agg (grV rs up).toArray) Z1) := load_gr A0 h.vlen
      have hst := store_gr A1 rfl h.vlen (grV_one rs up)
      have A2 := At.set (grV rs up) 0 _ _ A1
      rw [setL_whole _ _ (by rw [h.vlen]; rfl)] at A2
      have b3 := below_setCells (show w.heap.size ≤ w.heap.size + 1 by omega) (grV rs up) 0 _ bZ
      generalize World.setCells Z1 (w.heap.size + 1) 0 (grV rs up) = Y at *
      have HS : Hid ((Instr.storeAt 38 (.pointer (some ⟨w.heap.size + 1, 0, Option.none⟩)) (.agg (grV rs up).toArray)).run Try.prog Z1 = .ok () Y) := hst
      have HR : Hid ((Instr.loadAt 38 (.pointer (some ⟨w.heap.size + 1, 0, Option.none⟩))).run Try.prog Y = .ok (.agg (grV rs up).toArray) Y) := load_gr A2 h.vlen
      clear hst A0 A1 A2
      go_wp2_with (first | (with_reducible refine wl_load HL.out rfl rfl ?_) | (with_reducible refine wl_store HS.out rfl rfl ?_))
      refine bodyPost_ret (ret_ra Try.results19 rfl HR.out) rfl ⟨by rw [HB.out, HG.out]; first | rfl | simp, b3⟩
    have hd : decide (2 ≤ L.length) = true := by simpa using h2
    have f1 : Z1.cell? ⟨w.heap.size, m * 25, Option.none⟩ = some (.int .i64 rs[m].f) := (A0.cell _).trans (h.floor m hml)
    by_cases hf : rs[m].f < e
    case neg =>
      have hf' : decide (rs[m].f ≥ e) = true := by simp; omega
      have hf2 : e ≤ rs[m].f := by omega
      have HB : Hid (syncB rs up e m = false) := by show _ = _; unfold syncB; rw [hgd]; simp [hf]
      have HG : Hid (syncG rs up e m = rs) := by show _ = _; simp [syncG, HB.out]
      clear HLe HRW HM hu h2 hf
      have HL : Hid ((Instr.loadAt 38 (.pointer (some ⟨w.heap.size, 0, Option.none⟩))).run Try.prog Z1 = .ok (.agg (grV rs up).toArray) Z1) := load_gr A0 h.vlen
      have hst := store_gr A1 rfl h.vlen (grV_one rs up)
      have A2 := At.set (grV rs up) 0 _ _ A1
      rw [setL_whole _ _ (by rw [h.vlen]; rfl)] at A2
      have b3 := below_setCells (show w.heap.size ≤ w.heap.size + 1 by omega) (grV rs up) 0 _ bZ
      generalize World.setCells Z1 (w.heap.size + 1) 0 (grV rs up) = Y at *
      have HS : Hid ((Instr.storeAt 38 (.pointer (some ⟨w.heap.size + 1, 0, Option.none⟩)) (.agg (grV rs up).toArray)).run Try.prog Z1 = .ok () Y) := hst
      have HR : Hid ((Instr.loadAt 38 (.pointer (some ⟨w.heap.size + 1, 0, Option.none⟩))).run Try.prog Y = .ok (.agg (grV rs up).toArray) Y) := load_gr A2 h.vlen
      clear hst A0 A1 A2
      go_wp2_with (first | (with_reducible refine wl_load HL.out rfl rfl ?_) | (with_reducible refine wl_store HS.out rfl rfl ?_))
      refine bodyPost_ret (ret_ra Try.results19 rfl HR.out) rfl ⟨by rw [HB.out, HG.out]; first | rfl | simp, b3⟩
    have hf' : decide (e ≤ rs[m].f) = false := by simp; omega
    have HB : Hid (syncB rs up e m = true) := by show _ = _; unfold syncB; rw [hgd, HLe.out, hu, hd]; simp [hf]
    have HG : Hid (syncG rs up e m = rs.set m ⟨e, mrg (L.map (pickR rs))⟩) := by show _ = _; unfold syncG; rw [if_pos HB.out, HLe.out]; rfl
    obtain ⟨b, off, rfl, hrow⟩ := HRW.out (by omega)
    have HRR : Hid (∀ (j : Nat) (hj : j < L.length), Z1.cell? ⟨b, off + j, Option.none⟩ = some (.int .i64 L[j])) := hrow
    clear hrow HRW hgd HLe hu
    have HL : Hid ((Instr.loadAt 38 (.pointer (some ⟨w.heap.size, 0, Option.none⟩))).run Try.prog Z1 = .ok (.agg (grV rs up).toArray) Z1) := load_gr A0 h.vlen
    go_wp2_with (with_reducible refine wl_load HL.out rfl rfl ?_)
    clear HL
    refine (gmerge_any rs up b off c L Z1 h hl3 (by omega) HM.out HRR.out).mono ?_
    rintro r Z2 ⟨rfl, hb1⟩
    replace A0 := A0.later hb1 A0.lt
    replace A1 := A1.later hb1 A1.lt
    replace bZ := bZ.trans (hb1.mono bZ.size)
    clear hb1 HRR HM f1
    obtain ⟨C, HC⟩ : ∃ C, Hid (mrg (L.map (pickR rs)) = C) := ⟨_, rfl⟩
    have hok : RepOK C := by rw [← HC.out]; exact mrg_ok _
    rw [HC.out] at HG ⊢
    obtain ⟨hst, A2⟩ := store_one A0 h m hml e C hok
    have A3 := At.set_ne (show w.heap.size + 1 ≠ w.heap.size by omega) (repV e C) (m * 25) _ A1
    have b3 := below_setCells (Nat.le_refl w.heap.size) (repV e C) (m * 25) _ bZ
    have h' := h.set m (r := ⟨e, C⟩) hok
    obtain ⟨rs', hrs⟩ : ∃ rs', rs.set m ⟨e, C⟩ = rs' := ⟨_, rfl⟩
    rw [hrs] at HG A2 h'
    generalize Z2.setCells w.heap.size (m * 25) (repV e C) = Z3 at *
    have HS : Hid ((Instr.storeAt 26 (.pointer (some ⟨w.heap.size, m * 25, Option.none⟩)) (.agg (repV e C).toArray)).run Try.prog Z2 = .ok () Z3) := hst
    clear hst A0 A1 bZ hrs HC
    have A0 := A2
    have A1 := A3
    have bZ := b3
    clear A2 A3 b3
    have HBD : Hid ((Instr.build 26 #[(0, .int .i64 e), (1, .agg (cells8 C).toArray)]).run Try.prog Z2 = .ok (.agg (repV e C).toArray) Z2) := build_rep e C hok Z2
    have HL : Hid ((Instr.loadAt 38 (.pointer (some ⟨w.heap.size, 0, Option.none⟩))).run Try.prog Z3 = .ok (.agg (grV rs' up).toArray) Z3) := load_gr A0 h'.vlen
    have hst := store_gr A1 rfl h'.vlen (grV_one rs' up)
    have A2 := At.set (grV rs' up) 0 _ _ A1
    rw [setL_whole _ _ (by rw [h'.vlen]; rfl)] at A2
    have b3 := below_setCells (show w.heap.size ≤ w.heap.size + 1 by omega) (grV rs' up) 0 _ bZ
    generalize World.setCells Z3 (w.heap.size + 1) 0 (grV rs' up) = Y at *
    have HS2 : Hid ((Instr.storeAt 38 (.pointer (some ⟨w.heap.size + 1, 0, Option.none⟩)) (.agg (grV rs' up).toArray)).run Try.prog Z3 = .ok () Y) := hst
    have HR : Hid ((Instr.loadAt 38 (.pointer (some ⟨w.heap.size + 1, 0, Option.none⟩))).run Try.prog Y = .ok (.agg (grV rs' up).toArray) Y) := load_gr A2 h'.vlen
    clear hst A0 A1 A2
    go_wp2_with (first | (with_reducible refine wl_store HS.out rfl rfl ?_) | (with_reducible refine wl_build HBD.out (by simp [Act.eval]) ?_) | (with_reducible refine wl_load HL.out rfl rfl ?_) | (with_reducible refine wl_store HS2.out rfl rfl ?_))
    refine bodyPost_ret (ret_ra Try.results19 rfl HR.out) rfl ⟨by rw [HB.out, HG.out]; first | rfl | simp, b3⟩
end Go.Proofs.Yteebhmhjbgehjaa
