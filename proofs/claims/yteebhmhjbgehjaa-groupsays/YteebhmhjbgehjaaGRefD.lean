/- What the document's Read answers. No statement of the seat is proved here. -/
import Derived.Test.YteebhmhjbgehjaaGRefC
namespace Go.Proofs.Yteebhmhjbgehjaa
open Go.ChangeShapes Go.WideShapes Go.ChangeAt Go.RowKit Go.Deep

theorem setCells_os (b : Nat) : ∀ (vs : List Value) (o : Nat) (W : World), (W.setCells b o vs).os = W.os
  | [], _, _ => rfl
  | v :: r, o, W => by rw [World.setCells, setCells_os b r]; rfl
theorem setCells_tape (b : Nat) : ∀ (vs : List Value) (o : Nat) (W : World), (W.setCells b o vs).tape = W.tape
  | [], _, _ => rfl
  | v :: r, o, W => by rw [World.setCells, setCells_tape b r]; rfl
theorem setCells_output (b : Nat) : ∀ (vs : List Value) (o : Nat) (W : World), (W.setCells b o vs).output = W.output
  | [], _, _ => rfl
  | v :: r, o, W => by rw [World.setCells, setCells_output b r]; rfl
theorem Only.drew {b : Nat} {w w' : World} (h : Only b w w') : Only b w w'.drew := ⟨h.os, h.tape, h.output, h.size, h.block⟩

set_option maxRecDepth 100000 in
set_option maxHeartbeats 4000000 in
theorem rgread_any (rs : List Rep) (up : List Bool) (e : Int) (k : Nat) (b : Nat) (T : TypeId) (w : World) (h : GOK rs up) (hk : k < 8) (hcz : CZ rs k) (A0 : At w b (grV rs up) T) :
    Calls Try.prog 18 #[.pointer (some ⟨b, 0, Option.none⟩), .int .i64 e, .int .i64 k] w fun r w' => r = .returned (.tuple #[.agg #[.int .i64 (readC rs up e k).e, .int .i64 (readC rs up e k).n, .string (readC rs up e k).d], .bool (readB rs up e)]) ∧ At w' b (grV (readG rs up e k) up) T ∧ Only b w w' := by
  have hb := A0.lt
  have hk8' : (k : Int) < 8 := by omega
  obtain ⟨X, hX, a0, bX, sX⟩ := one w (.cells #[.int .i64 0, .int .i64 0, .string ⟨#[]⟩] 23)
  have AR : At X w.heap.size zc.vs 23 := a0
  replace A0 := A0.later bX hb
  clear a0
  go_enter Try.func18, Try.ntmps18
  go_wp2_with fail
  rw [← hX]
  clear hX
  refine (rmembers_any rs up e b T X h A0).mono ?_
  rintro r Z ⟨a, n, c, rfl, ho, hb1⟩
  obtain ⟨_, _, _, he', hn⟩ := ho.form
  simp only [Value.slice.injEq] at he'
  obtain ⟨rfl, rfl, rfl⟩ := he'
  have hbl : ∀ b' off, a = some ⟨b', off, Option.none⟩ → X.heap.size ≤ b' := fun b' off hb => by subst hb; have := ho.block b' (by simp [Value.ownBlock]); omega
  have hmem : ∀ x ∈ memL rs up e 3, ∃ m : Nat, m < 3 ∧ x = m := memL_mem rs up e 3
  obtain ⟨L, hL⟩ : ∃ L, memL rs up e 3 = L := ⟨_, rfl⟩
  have HLe : Hid (memL rs up e 3 = L) := hL
  have HM : Hid (∀ x ∈ L, ∃ m : Nat, m < 3 ∧ x = m) := by rw [← hL]; exact hmem
  have hl3 : L.length ≤ 3 := by rw [← hL]; exact memL_len rs up e 3
  rw [hL] at hn ho
  clear hL hmem
  have hnl : n = L.length := hn.1.symm
  subst hnl
  have HRW : Hid (0 < L.length → ∃ b' off, a = some ⟨b', off, Option.none⟩ ∧ X.heap.size ≤ b' ∧ ∀ (j : Nat) (hj : j < L.length), Z.cell? ⟨b', off + j, Option.none⟩ = some (.int .i64 L[j])) := fun h0 => by
    obtain ⟨b', off, e1, e2⟩ := hn.2.2 (by omega)
    exact ⟨b', off, e1, hbl b' off e1, e2⟩
  clear hn ho hbl
  replace A0 := A0.later hb1 A0.lt
  replace AR := AR.later hb1 AR.lt
  have bZ := bX.trans (hb1.mono bX.size)
  have hOn : Only b w Z := Only.of bZ (Nat.le_refl _)
  have hsz := hb1.size
  clear hb1 bX
  by_cases h2 : 2 ≤ L.length
  case neg =>
    have h2' : (L.length : Int) < 2 := by omega
    have hd : decide (2 ≤ L.length) = false := by simpa using h2
    have HB : Hid (readB rs up e = false) := by show _ = _; unfold readB; rw [HLe.out, hd]
    have HG : Hid (readG rs up e k = rs) := by show _ = _; simp [readG, HB.out]
    have HC : Hid (readC rs up e k = zc) := by show _ = _; simp [readC, HB.out]
    obtain ⟨Z4, hst, AR4, hne, hbl4⟩ := putCel (d := zc) AR
    have HS4 : Hid ((Instr.storeAt 23 (.pointer (some ⟨w.heap.size, 0, Option.none⟩)) (.agg #[.int .i64 0, .int .i64 0, .string ⟨#[]⟩])).run Try.prog Z = .ok () Z4) := hst
    have HR : Hid ((Instr.loadAt 23 (.pointer (some ⟨w.heap.size, 0, Option.none⟩))).run Try.prog Z4 = .ok (.agg #[.int .i64 0, .int .i64 0, .string ⟨#[]⟩]) Z4) := load_cel (c := zc) AR4.whole
    have hO4 : Only b w Z4 := Only.of (hbl4 _ _ (Nat.le_refl _) bZ) (Nat.le_refl _)
    replace A0 := hne _ _ _ (by omega) A0
    clear hst hne h2 hbl4
    go_wp2_with (with_reducible refine wl_store HS4.out rfl rfl ?_)
    refine bodyPost_ret (ret_ra Try.results18 rfl HR.out) rfl ⟨by rw [HB.out, HC.out]; rfl, by rw [HG.out]; exact A0, hO4⟩
  have h2' : ¬ ((L.length : Int) < 2) := by omega
  have hd : decide (2 ≤ L.length) = true := by simpa using h2
  have HB : Hid (readB rs up e = true) := by show _ = _; unfold readB; rw [HLe.out, hd]
  obtain ⟨bl, off, rfl, hblw, hrow⟩ := HRW.out (by omega)
  have HRR : Hid (∀ (j : Nat) (hj : j < L.length), Z.cell? ⟨bl, off + j, Option.none⟩ = some (.int .i64 L[j])) := hrow
  clear hrow HRW
  go_wp2_with fail
  refine (rnewest_any rs up b bl off c T L k Z h A0 hl3 hk HM.out HRR.out).mono ?_
  rintro r Z2 ⟨rfl, hb2⟩
  have HFB : Hid (foldB k (L.map (pickR rs)) = readC rs up e k) := by show _ = _; rw [← HLe.out, foldB_is hcz, readC_is rs up e k hk HB.out]
  obtain ⟨ce, hce⟩ : ∃ ce, foldB k (L.map (pickR rs)) = ce := ⟨_, rfl⟩
  have HC : Hid (readC rs up e k = ce) := by show _ = _; rw [← HFB.out, hce]
  have HG : Hid (readG rs up e k = spread k ce rs L) := by show _ = _; unfold readG; rw [if_pos HB.out, HLe.out, HC.out]
  rw [hce]
  replace A0 := A0.later hb2 A0.lt
  replace AR := AR.later hb2 AR.lt
  replace bZ := bZ.trans (hb2.mono bZ.size)
  have HRS : Hid (∀ (j : Nat) (hj : j < L.length), Z2.cell? ⟨bl, off + j, Option.none⟩ = some (.int .i64 L[j])) := fun j hj => cell_later hb2 (HRR.out j hj)
  have hsz2 := hb2.size
  have hbl2 := cell_lt (HRR.out 0 (by omega))
  clear hb2 HRR hce HFB hOn
  go_wp2_with fail
  obtain ⟨X3, hX3, a3, b3, s3⟩ := one Z2 (.cells #[.int .i64 ce.e, .int .i64 ce.n, .string ce.d] 23)
  have AC : At X3 Z2.heap.size ce.vs 23 := a3
  rw [← hX3]
  replace A0 := A0.later b3 A0.lt
  replace AR := AR.later b3 AR.lt
  replace bZ := bZ.trans (b3.mono bZ.size)
  have HRT : Hid (∀ (j : Nat) (hj : j < L.length), X3.cell? ⟨bl, off + j, Option.none⟩ = some (.int .i64 L[j])) := fun j hj => cell_later b3 (HRS.out j hj)
  have hOn : Only b w X3 := Only.of bZ (Nat.le_refl _)
  clear hX3 a3 b3 HRS bZ
  obtain ⟨cb, hcb⟩ : ∃ cb, Z2.heap.size = cb := ⟨_, rfl⟩
  have hcbX : X.heap.size ≤ cb := by omega
  have hblc : bl < cb := by omega
  rw [hcb] at AC ⊢
  clear hcb
  go_loopw [10] (fun i wr => ∃ j : Nat, j ≤ L.length ∧ i = .int .i64 j ∧ At wr b (grV (spread k ce rs (L.take j)) up) T ∧ At wr w.heap.size zc.vs 23 ∧ At wr cb ce.vs 23 ∧ Only b w wr ∧ ∀ (j : Nat) (hj : j < L.length), wr.cell? ⟨bl, off + j, Option.none⟩ = some (.int .i64 L[j])) (fun i _ => L.length - (intOf i).toNat)
  case atStart => exact ⟨0, Nat.zero_le _, rfl, A0, AR, AC, hOn, HRT.out⟩
  case round =>
    clear A0 hOn HRT AC AR
    obtain ⟨j, hj, rfl, A0, AR, AC, hOn, hrow⟩ := hrel
    have hGk := spread_ok k ce (L.take j) rs h
    by_cases hlt : j < L.length
    · have hki : (j : Int) < (L.length : Int) := by omega
      obtain ⟨m, hm3, hm⟩ := HM.out L[j] (List.getElem_mem hlt)
      have c1 := hrow j hlt
      rw [hm] at c1
      have HRW : Hid (∀ (j : Nat) (hj : j < L.length), wr.cell? ⟨bl, off + j, Option.none⟩ = some (.int .i64 L[j])) := hrow
      have HNX : Hid (spread k ce rs (L.take (j + 1)) = laidR k ce (spread k ce rs (L.take j)) (m : Int)) := by show _ = _; rw [spread_next k ce rs L j hlt, hm]
      clear hrow hm
      have hm3' : (m : Int) < 3 := by omega
      obtain ⟨rk, hrk⟩ : ∃ rk, spread k ce rs (L.take j) = rk := ⟨_, rfl⟩
      rw [hrk] at A0 hGk HNX
      clear hrk
      have hml : m < rk.length := by rw [hGk.len]; exact hm3
      go_upto_region 8 with fail
      refine wp_region_held (S := fun w' => w'.cell? ⟨bl, off + j, Option.none⟩ = some (.int .i64 m) ∧ At w' cb ce.vs 23) (by kernel_rfl) ?_
      have HS : Hid (wr.drew.cell? ⟨bl, off + j, Option.none⟩ = some (.int .i64 m) ∧ At wr.drew cb ce.vs 23) := ⟨c1, AC⟩
      obtain ⟨hst, B0⟩ := store_onecel (X := wr.drew) A0 hGk m hml k hk ce
      have BR := At.set_ne (show w.heap.size ≠ b by omega) ce.vs (m * 25 + 1 + k * 3) wr.drew AR
      have BC := At.set_ne (show cb ≠ b by omega) ce.vs (m * 25 + 1 + k * 3) wr.drew AC
      have hOn2 := Only.sets ce.vs (m * 25 + 1 + k * 3) wr.drew hOn.drew
      have hrow2 : ∀ (i : Nat) (hi : i < L.length), (wr.drew.setCells b (m * 25 + 1 + k * 3) ce.vs).cell? ⟨bl, off + i, Option.none⟩ = some (.int .i64 L[i]) := fun i hi => by
        rw [World.cell?_of_block (w := wr.drew) (heap_setCells_ne (show bl ≠ b by omega) _ _ _)]
        exact HRW.out i hi
      have c2 : (wr.drew.setCells b (m * 25 + 1 + k * 3) ce.vs).cell? ⟨bl, off + j, Option.none⟩ = some (.int .i64 m) := by
        rw [World.cell?_of_block (w := wr.drew) (heap_setCells_ne (show bl ≠ b by omega) _ _ _)]
        exact c1
      refine wpAnyH_take (i := 0) (v := .pointer (some ⟨b, 0, Option.none⟩)) rfl (by kernel_rfl) (by kernel_rfl) (by kernel_rfl) (fun _ _ _ h => h) (.inl ⟨rfl, fun w' hw' => ?_⟩) HS.out ?_
      · go_simp
      refine wpAnyH_take (i := 1) (v := .slice (some ⟨bl, off, Option.none⟩) L.length c) rfl (by kernel_rfl) (by kernel_rfl) (by kernel_rfl) (fun _ _ _ h => h) (.inl ⟨rfl, fun w' hw' => ?_⟩) HS.out ?_
      · go_simp
      refine wpAnyH_take (i := 2) (v := .int .i64 j) rfl (by kernel_rfl) (by kernel_rfl) (by kernel_rfl) (fun _ _ _ h => h) (.inl ⟨rfl, fun w' hw' => ?_⟩) HS.out ?_
      · go_simp
      refine wpAnyH_take (i := 3) (v := .pointer (some ⟨bl, off + j, Option.none⟩)) rfl (by kernel_rfl) (by kernel_rfl) (by kernel_rfl) (fun _ _ _ h => h) (.inl ⟨rfl, fun w' hw' => ?_⟩) HS.out ?_
      · go_simp
      simp [Act.put]
      refine wpAnyH_take (i := 4) (v := .int .i64 m) rfl (by kernel_rfl) (by kernel_rfl) (by kernel_rfl) (fun _ _ _ h => h) (.inl ⟨rfl, fun w' hw' => ?_⟩) HS.out ?_
      · have hc := hw'.1
        go_simp
      refine wpAnyH_take (i := 5) (v := .int .i64 k) rfl (by kernel_rfl) (by kernel_rfl) (by kernel_rfl) (fun _ _ _ h => h) (.inl ⟨rfl, fun w' hw' => ?_⟩) HS.out ?_
      · go_simp
      refine wpAnyH_take (i := 6) (v := .agg #[.int .i64 ce.e, .int .i64 ce.n, .string ce.d]) rfl (by kernel_rfl) (by kernel_rfl) (by kernel_rfl) (fun _ _ _ h => h) (.inl ⟨rfl, fun w' hw' => ?_⟩) HS.out ?_
      · exact exec_load (load_cel hw'.2.whole) rfl
      refine wpAnyH_take (i := 7) (v := .pointer (some ⟨b, 0, Option.none⟩)) rfl (by kernel_rfl) (by kernel_rfl) (by kernel_rfl) (fun _ _ _ h => h) (.inl ⟨rfl, fun w' hw' => ?_⟩) HS.out ?_
      · go_simp
      simp [Act.put]
      refine wpAnyH_take (i := 8) (v := .pointer (some ⟨b, 0, Option.none⟩)) rfl (by kernel_rfl) (by kernel_rfl) (by kernel_rfl) (fun _ _ _ h => h) (.inl ⟨rfl, fun w' hw' => ?_⟩) HS.out ?_
      · go_simp
      refine wpAnyH_take (i := 9) (v := .pointer (some ⟨b, m * 25, Option.none⟩)) rfl (by kernel_rfl) (by kernel_rfl) (by kernel_rfl) (fun _ _ _ h => h) (.inl ⟨rfl, fun w' hw' => ?_⟩) HS.out ?_
      · go_simp
      refine wpAnyH_take (i := 10) (v := .pointer (some ⟨b, m * 25 + 1, Option.none⟩)) rfl (by kernel_rfl) (by kernel_rfl) (by kernel_rfl) (fun _ _ _ h => h) (.inl ⟨rfl, fun w' hw' => ?_⟩) HS.out ?_
      · go_simp
      refine wpAnyH_take (i := 11) (v := .pointer (some ⟨b, m * 25 + 1 + k * 3, Option.none⟩)) rfl (by kernel_rfl) (by kernel_rfl) (by kernel_rfl) (fun _ _ _ h => h) (.inl ⟨rfl, fun w' hw' => ?_⟩) HS.out ?_
      · go_simp
      simp [Act.put]
      have HR2 : Hid (∀ (i : Nat) (hi : i < L.length), (wr.drew.setCells b (m * 25 + 1 + k * 3) ce.vs).cell? ⟨bl, off + i, Option.none⟩ = some (.int .i64 L[i])) := hrow2
      have HC2 : Hid ((wr.drew.setCells b (m * 25 + 1 + k * 3) ce.vs).cell? ⟨bl, off + j, Option.none⟩ = some (.int .i64 m)) := c2
      clear hrow2 c2
      generalize wr.drew.setCells b (m * 25 + 1 + k * 3) ce.vs = Z1 at *
      refine wpAnyH_all (rs := [12]) (by kernel_rfl) (by simp) ?_
      intro i hi
      obtain rfl : i = 12 := by simpa using hi
      refine wpOp_store hst rfl rfl rfl rfl ⟨⟨HC2.out, BC⟩, ?_⟩
      refine wpAnyH_done (by kernel_rfl) ?_ _
      (try simp [Act.put])
      clear HRW A0 hOn HS c1 hst HC2 AR AC
      go_wp2_with fail
      refine ⟨⟨j + 1, by omega, by go_num, ?_, BR, BC, hOn2, HR2.out⟩, by simp [intOf]; omega⟩
      rw [HNX.out]
      unfold laidR
      rw [show ((m : Int)).toNat = m from rfl, pickR_in hml]
      exact B0
    · obtain rfl : j = L.length := by omega
      rw [List.take_length] at A0
      clear hrow HM hGk
      have HL2 : Hid ((Instr.loadAt 23 (.pointer (some ⟨cb, 0, Option.none⟩))).run Try.prog wr = .ok (.agg #[.int .i64 ce.e, .int .i64 ce.n, .string ce.d]) wr) := load_cel AC.whole
      have hst := store_cel (o := 0) ce AR (by decide)
      have B0 := At.set_ne (show b ≠ w.heap.size by omega) ce.vs 0 wr A0
      have BR := At.set ce.vs 0 wr _ AR
      rw [setL_whole _ _ (by rfl)] at BR
      have hOn2 : Only b w (wr.setCells w.heap.size 0 ce.vs) := ⟨?os, ?tape, ?out, ?size, fun q hq hn => by rw [heap_setCells_ne (show q ≠ w.heap.size by omega)]; exact hOn.block q hq hn⟩
      case os => exact (setCells_os w.heap.size ce.vs 0 wr).trans hOn.os
      case tape => exact (setCells_tape w.heap.size ce.vs 0 wr).trans hOn.tape
      case out => exact (setCells_output w.heap.size ce.vs 0 wr).trans hOn.output
      case size => rw [size_setCells]; exact hOn.size
      generalize wr.setCells w.heap.size 0 ce.vs = Z4 at *
      have HS4 : Hid ((Instr.storeAt 23 (.pointer (some ⟨w.heap.size, 0, Option.none⟩)) (.agg #[.int .i64 ce.e, .int .i64 ce.n, .string ce.d])).run Try.prog wr = .ok () Z4) := hst
      have HR : Hid ((Instr.loadAt 23 (.pointer (some ⟨w.heap.size, 0, Option.none⟩))).run Try.prog Z4 = .ok (.agg #[.int .i64 ce.e, .int .i64 ce.n, .string ce.d]) Z4) := load_cel BR.whole
      clear hst hOn AR AC A0
      go_wp2_with (first | (with_reducible refine wl_load HL2.out rfl rfl ?_) | (with_reducible refine wl_store HS4.out rfl rfl ?_))
      refine bodyPost_ret (ret_ra Try.results18 rfl HR.out) rfl ⟨by rw [HB.out, HC.out]; rfl, by rw [HG.out]; exact B0, hOn2⟩
end Go.Proofs.Yteebhmhjbgehjaa
