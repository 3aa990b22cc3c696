/- What the document's newest answers. No statement of the seat is proved here. -/
import Derived.Test.YteebhmhjbgehjaaGRefA
namespace Go.Proofs.Yteebhmhjbgehjaa
open Go.ChangeShapes Go.WideShapes Go.ChangeAt Go.RowKit Go.Deep

theorem cel_range {W : World} {b : Nat} {T : TypeId} {rs : List Rep} {up : List Bool} (hA : At W b (grV rs up) T) (h : GOK rs up) (m : Nat) (hm : m < 3) (k : Nat) (hk : k < 8) : W.rangeAt b (m * 25 + 1 + k * 3) (ck k (pickR rs m)).vs := by
  have hml : m < rs.length := by rw [h.len]; exact hm
  have hok := h.ok _ (List.getElem_mem hml)
  have hkl : k < rs[m].l.length := by rw [hok.len]; exact hk
  have e : ck k (pickR rs m) = rs[m].l[k] := by unfold ck; rw [pickR_in hml]; simp [hkl]
  rw [e]
  obtain ⟨g0, g1, g2⟩ := repV_get rs[m].f rs[m].l k hkl
  have hr : ∀ j, j < 25 → W.cell? ⟨b, m * 25 + j, Option.none⟩ = (repV rs[m].f rs[m].l)[j]? := fun j hj => (hA.cell _).trans (h.rep m hml j hj)
  intro j v hv
  have hj : j = 0 ∨ j = 1 ∨ j = 2 := by have := (List.getElem?_eq_some_iff.1 hv).1; simp [Cel.vs] at this; omega
  rcases hj with rfl | rfl | rfl
  · rw [show m * 25 + 1 + k * 3 + 0 = m * 25 + (1 + k * 3) by omega, hr _ (by omega), g0]; simpa [Cel.vs] using hv
  · rw [show m * 25 + 1 + k * 3 + 1 = m * 25 + (1 + k * 3 + 1) by omega, hr _ (by omega), g1]; simpa [Cel.vs] using hv
  · rw [show m * 25 + 1 + k * 3 + 2 = m * 25 + (1 + k * 3 + 2) by omega, hr _ (by omega), g2]; simpa [Cel.vs] using hv

theorem putCel {c d : Cel} {Z : World} {b : Nat} {T : TypeId} (A : At Z b c.vs T) : ∃ Z2, (Instr.storeAt 23 (.pointer (some ⟨b, 0, Option.none⟩)) (.agg #[.int .i64 d.e, .int .i64 d.n, .string d.d])).run Try.prog Z = .ok () Z2 ∧ At Z2 b d.vs T ∧ (∀ (b' : Nat) (l : List Value) (T' : TypeId), b' ≠ b → At Z b' l T' → At Z2 b' l T') ∧ (∀ (B : Nat) (w0 : World), B ≤ b → Below B w0 Z → Below B w0 Z2) := by
  have A2 := At.set d.vs 0 _ _ A
  rw [setL_whole _ _ (by rfl)] at A2
  exact ⟨_, store_cel (o := 0) d A (by simp [Cel.vs]), A2, fun b' l T' hne hA => At.set_ne hne _ 0 _ hA, fun B w0 hB hb => below_setCells hB _ 0 _ hb⟩

set_option maxRecDepth 100000 in
set_option maxHeartbeats 4000000 in
theorem rnewest_any (rs : List Rep) (up : List Bool) (b bl off c : Nat) (T : TypeId) (L : List Int) (k : Nat) (w : World) (hG : GOK rs up) (A0 : At w b (grV rs up) T) (hlen : L.length ≤ 3) (hk : k < 8) (hL : ∀ x ∈ L, ∃ m : Nat, m < 3 ∧ x = m)
    (hrow : ∀ (j : Nat) (hj : j < L.length), w.cell? ⟨bl, off + j, Option.none⟩ = some (.int .i64 L[j])) :
    Calls Try.prog 35 #[.pointer (some ⟨b, 0, Option.none⟩), .slice (some ⟨bl, off, Option.none⟩) L.length c, .int .i64 k] w fun r w' => r = .returned (.agg #[.int .i64 (foldB k (L.map (pickR rs))).e, .int .i64 (foldB k (L.map (pickR rs))).n, .string (foldB k (L.map (pickR rs))).d]) ∧ Below w.heap.size w w' := by
  have HM : Hid (∀ x ∈ L, ∃ m : Nat, m < 3 ∧ x = m) := hL
  have HRW : Hid (∀ (j : Nat) (hj : j < L.length), w.cell? ⟨bl, off + j, Option.none⟩ = some (.int .i64 L[j])) := hrow
  clear hL hrow
  have hb := A0.lt
  obtain ⟨X, hX, a0, a1, bX, sX⟩ := two w (.cells #[.int .i64 0, .int .i64 0, .string ⟨#[]⟩] 23) (.cells #[.int .i64 0, .int .i64 0, .string ⟨#[]⟩] 23)
  have AR : At X w.heap.size zc.vs 23 := a0
  have AB : At X (w.heap.size + 1) zc.vs 23 := a1
  clear a0 a1
  have hk8' : (k : Int) < 8 := by omega
  go_enter Try.func35, Try.ntmps35
  go_wp2_with fail
  rw [← hX]
  clear hX
  go_loopw [8] (fun i wr => ∃ j : Nat, j ≤ L.length ∧ i = .int .i64 j ∧ At wr w.heap.size zc.vs 23 ∧ At wr (w.heap.size + 1) (foldB k ((L.take j).map (pickR rs))).vs 23 ∧ Below w.heap.size w wr ∧ w.heap.size + 2 ≤ wr.heap.size) (fun i _ => L.length - (intOf i).toNat)
  case atStart => exact ⟨0, Nat.zero_le _, rfl, AR, AB, bX, by omega⟩
  case round =>
    clear AR AB bX sX
    obtain ⟨j, hj, rfl, AR, AB, bw, hsz⟩ := hrel
    by_cases hlt : j < L.length
    · have hki : (j : Int) < (L.length : Int) := by omega
      obtain ⟨m, hm3, hm⟩ := HM.out L[j] (List.getElem_mem hlt)
      have HRj : Hid (∀ W : World, Below w.heap.size w W → W.cell? ⟨bl, off + j, Option.none⟩ = some (.int .i64 (m : Int))) := fun W hW => by rw [← hm]; exact cell_later hW (HRW.out j hlt)
      have HNX : Hid (foldB k ((L.take (j + 1)).map (pickR rs)) = stepB k (foldB k ((L.take j).map (pickR rs))) (pickR rs (m : Int))) := by
        show _ = _; unfold foldB; rw [List.take_succ_eq_append_getElem hlt, List.map_append, List.foldl_append, hm]; rfl
      clear hm
      have hm3' : (m : Int) < 3 := by omega
      obtain ⟨bs, hbs⟩ : ∃ bs, foldB k ((L.take j).map (pickR rs)) = bs := ⟨_, rfl⟩
      rw [hbs] at AB HNX
      clear hbs
      obtain ⟨cc, hcc⟩ : ∃ cc, ck k (pickR rs (m : Int)) = cc := ⟨_, rfl⟩
      have HCL : Hid (∀ W : World, Below w.heap.size w W → (Instr.loadAt 23 (.pointer (some ⟨b, m * 25 + 1 + k * 3, Option.none⟩))).run Try.prog W = .ok (.agg #[.int .i64 cc.e, .int .i64 cc.n, .string cc.d]) W) := fun W hW => by
        rw [← hcc]; exact load_cel (cel_range (A0.later hW hb) hG m hm3 k hk)
      go_upto_region 5 with fail
      refine wp_region_held (S := fun w' => Below w.heap.size w w') (by kernel_rfl) ?_
      have HS : Hid (Below w.heap.size w wr.drew) := bw.drew
      replace AR : At wr.drew w.heap.size zc.vs 23 := AR
      replace AB : At wr.drew (w.heap.size + 1) bs.vs 23 := AB
      replace hsz : w.heap.size + 2 ≤ wr.drew.heap.size := hsz
      clear bw
      refine wpAnyH_take (i := 0) (v := .pointer (some ⟨b, 0, Option.none⟩)) rfl (by kernel_rfl) (by kernel_rfl) (by kernel_rfl) (fun _ _ _ h => h) (.inl ⟨rfl, fun w' hw' => ?_⟩) HS.out ?_
      · go_simp
      refine wpAnyH_take (i := 1) (v := .slice (some ⟨bl, off, Option.none⟩) L.length c) rfl (by kernel_rfl) (by kernel_rfl) (by kernel_rfl) (fun _ _ _ h => h) (.inl ⟨rfl, fun w' hw' => ?_⟩) HS.out ?_
      · go_simp
      refine wpAnyH_take (i := 2) (v := .int .i64 j) rfl (by kernel_rfl) (by kernel_rfl) (by kernel_rfl) (fun _ _ _ h => h) (.inl ⟨rfl, fun w' hw' => ?_⟩) HS.out ?_
      · go_simp
      refine wpAnyH_take (i := 3) (v := .pointer (some ⟨bl, off + j, Option.none⟩)) rfl (by kernel_rfl) (by kernel_rfl) (by kernel_rfl) (fun _ _ _ h => h) (.inl ⟨rfl, fun w' hw' => ?_⟩) HS.out ?_
      · go_simp
      simp [Act.put]
      refine wpAnyH_take (i := 4) (v := .int .i64 m) rfl (by kernel_rfl) (by kernel_rfl) (by kernel_rfl) (fun _ _ _ h => h) (.inl ⟨rfl, fun w' hw' => ?_⟩) HS.out ?_
      · have hc := HRj.out w' hw'
        go_simp
      refine wpAnyH_take (i := 5) (v := .int .i64 k) rfl (by kernel_rfl) (by kernel_rfl) (by kernel_rfl) (fun _ _ _ h => h) (.inl ⟨rfl, fun w' hw' => ?_⟩) HS.out ?_
      · go_simp
      refine wpAnyH_take (i := 6) (v := .pointer (some ⟨b, 0, Option.none⟩)) rfl (by kernel_rfl) (by kernel_rfl) (by kernel_rfl) (fun _ _ _ h => h) (.inl ⟨rfl, fun w' hw' => ?_⟩) HS.out ?_
      · go_simp
      refine wpAnyH_take (i := 7) (v := .pointer (some ⟨b, 0, Option.none⟩)) rfl (by kernel_rfl) (by kernel_rfl) (by kernel_rfl) (fun _ _ _ h => h) (.inl ⟨rfl, fun w' hw' => ?_⟩) HS.out ?_
      · go_simp
      simp [Act.put]
      refine wpAnyH_take (i := 8) (v := .pointer (some ⟨b, m * 25, Option.none⟩)) rfl (by kernel_rfl) (by kernel_rfl) (by kernel_rfl) (fun _ _ _ h => h) (.inl ⟨rfl, fun w' hw' => ?_⟩) HS.out ?_
      · go_simp
      refine wpAnyH_take (i := 9) (v := .pointer (some ⟨b, m * 25 + 1, Option.none⟩)) rfl (by kernel_rfl) (by kernel_rfl) (by kernel_rfl) (fun _ _ _ h => h) (.inl ⟨rfl, fun w' hw' => ?_⟩) HS.out ?_
      · go_simp
      refine wpAnyH_take (i := 10) (v := .pointer (some ⟨b, m * 25 + 1 + k * 3, Option.none⟩)) rfl (by kernel_rfl) (by kernel_rfl) (by kernel_rfl) (fun _ _ _ h => h) (.inl ⟨rfl, fun w' hw' => ?_⟩) HS.out ?_
      · go_simp
      simp [Act.put]
      refine wpAnyH_take (i := 11) (v := .agg #[.int .i64 cc.e, .int .i64 cc.n, .string cc.d]) rfl (by kernel_rfl) (by kernel_rfl) (by kernel_rfl) (fun _ _ _ h => h) (.inl ⟨rfl, fun w' hw' => ?_⟩) HS.out ?_
      · exact exec_load (HCL.out w' hw') rfl
      simp [Act.put]
      generalize wr.drew = Z0 at *
      refine wpAnyH_all (rs := [12]) (by kernel_rfl) (by simp) ?_
      intro i hi
      obtain rfl : i = 12 := by simpa using hi
      obtain ⟨Z1, hZ1, z0, bZ1, sZ1⟩ := one Z0 (.cells #[.int .i64 0, .int .i64 0, .string ⟨#[]⟩] 23)
      have AC : At Z1 Z0.heap.size zc.vs 23 := z0
      replace AR := AR.later bZ1 AR.lt
      replace AB := AB.later bZ1 AB.lt
      have bw1 : Below w.heap.size w Z1 := HS.out.trans (bZ1.mono HS.out.size)
      clear z0 bZ1
      refine wpOp_step rfl rfl ?_
      go_wp2_with fail
      rw [← hZ1]
      clear hZ1
      refine ⟨bw1, ?_⟩
      (try simp [Act.put])
      refine wpAnyH_all (rs := [13]) (by kernel_rfl) (by simp) ?_
      intro i hi
      obtain rfl : i = 13 := by simpa using hi
      obtain ⟨Z2, hst, AC2, hne, hbl⟩ := putCel (d := cc) AC
      replace AR := hne _ _ _ (by omega) AR
      replace AB := hne _ _ _ (by omega) AB
      replace bw1 := hbl _ _ (by omega) bw1
      have hs2 : w.heap.size + 2 ≤ Z2.heap.size := by have := AB.lt; omega
      refine wpOp_store hst rfl rfl rfl rfl ⟨bw1, ?_⟩
      refine wpAnyH_done (by kernel_rfl) ?_ _
      (try simp [Act.put])
      clear hst hne hbl AC HS HCL HRj
      have HL1 : Hid ((Instr.loadAt 23 (.pointer (some ⟨Z0.heap.size, 0, Option.none⟩))).run Try.prog Z2 = .ok (.agg #[.int .i64 cc.e, .int .i64 cc.n, .string cc.d]) Z2) := load_cel AC2.whole
      have HL2 : Hid ((Instr.loadAt 23 (.pointer (some ⟨w.heap.size + 1, 0, Option.none⟩))).run Try.prog Z2 = .ok (.agg #[.int .i64 bs.e, .int .i64 bs.n, .string bs.d]) Z2) := load_cel AB.whole
      go_wp2_with (first | (with_reducible refine wl_load HL1.out rfl rfl ?_) | (with_reducible refine wl_load HL2.out rfl rfl ?_))
      refine (rnewer_any cc.e cc.n bs.e bs.n cc.d bs.d Z2).mono ?_
      rintro r Z3 ⟨rfl, b3⟩
      rw [show newerB ⟨cc.e, cc.n, cc.d⟩ ⟨bs.e, bs.n, bs.d⟩ = newerB cc bs from rfl]
      replace AR := AR.later b3 AR.lt
      replace AB := AB.later b3 AB.lt
      replace AC2 := AC2.later b3 AC2.lt
      replace bw1 := bw1.trans (b3.mono bw1.size)
      have hs3 := b3.size
      have HST : Hid (stepB k bs (pickR rs (m : Int)) = if newerB cc bs = true then cc else bs) := by show _ = _; unfold stepB; rw [hcc]
      clear b3 HL1 HL2 hcc
      cases hn : newerB cc bs with
      | false =>
        rw [hn, if_neg (by simp)] at HST
        clear hn
        go_wp2_with fail
        exact ⟨⟨j + 1, by omega, by go_num, AR, by rw [HNX.out, HST.out]; exact AB, bw1, by omega⟩, by simp [intOf]; omega⟩
      | true =>
        rw [hn, if_pos rfl] at HST
        clear hn
        have HL1 : Hid ((Instr.loadAt 23 (.pointer (some ⟨Z0.heap.size, 0, Option.none⟩))).run Try.prog Z3 = .ok (.agg #[.int .i64 cc.e, .int .i64 cc.n, .string cc.d]) Z3) := load_cel AC2.whole
        obtain ⟨Z4, hst, AB4, hne, hbl⟩ := putCel (d := cc) AB
        have HS4 : Hid ((Instr.storeAt 23 (.pointer (some ⟨w.heap.size + 1, 0, Option.none⟩)) (.agg #[.int .i64 cc.e, .int .i64 cc.n, .string cc.d])).run Try.prog Z3 = .ok () Z4) := hst
        replace AR := hne _ _ _ (by omega) AR
        replace bw1 := hbl _ _ (by omega) bw1
        have hs4 : w.heap.size + 2 ≤ Z4.heap.size := by have := AB4.lt; omega
        clear hst hne hbl
        go_wp2_with (first | (with_reducible refine wl_load HL1.out rfl rfl ?_) | (with_reducible refine wl_store HS4.out rfl rfl ?_))
        exact ⟨⟨j + 1, by omega, by go_num, AR, by rw [HNX.out, HST.out]; exact AB4, bw1, hs4⟩, by simp [intOf]; omega⟩
    · obtain rfl : j = L.length := by omega
      rw [List.take_length] at AB
      obtain ⟨bs, hbs⟩ : ∃ bs, foldB k (L.map (pickR rs)) = bs := ⟨_, rfl⟩
      have HF : Hid (foldB k (L.map (pickR rs)) = bs) := hbs
      rw [hbs] at AB
      clear hbs
      have HL2 : Hid ((Instr.loadAt 23 (.pointer (some ⟨w.heap.size + 1, 0, Option.none⟩))).run Try.prog wr = .ok (.agg #[.int .i64 bs.e, .int .i64 bs.n, .string bs.d]) wr) := load_cel AB.whole
      obtain ⟨Z4, hst, AR4, hne, hbl⟩ := putCel (d := bs) AR
      have HS4 : Hid ((Instr.storeAt 23 (.pointer (some ⟨w.heap.size, 0, Option.none⟩)) (.agg #[.int .i64 bs.e, .int .i64 bs.n, .string bs.d])).run Try.prog wr = .ok () Z4) := hst
      replace bw := hbl _ _ (by omega) bw
      have HR : Hid ((Instr.loadAt 23 (.pointer (some ⟨w.heap.size, 0, Option.none⟩))).run Try.prog Z4 = .ok (.agg #[.int .i64 bs.e, .int .i64 bs.n, .string bs.d]) Z4) := load_cel AR4.whole
      clear hst hne hbl
      go_wp2_with (first | (with_reducible refine wl_load HL2.out rfl rfl ?_) | (with_reducible refine wl_store HS4.out rfl rfl ?_))
      refine bodyPost_ret (ret_one Try.results35 rfl HR.out) rfl ⟨by rw [HF.out], bw⟩
end Go.Proofs.Yteebhmhjbgehjaa
