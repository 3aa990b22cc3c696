/- What the document's Sync answers. No statement of the seat is proved here. -/
import Derived.Test.YteebhmhjbgehjaaGRefD
namespace Go.Proofs.Yteebhmhjbgehjaa
open Go.ChangeShapes Go.WideShapes Go.ChangeAt Go.RowKit Go.Deep

/-- Cells that are laid one behind the other. -/
def fillS (ms : List Rep) : Nat → List Cel
  | 0 => zero8
  | n + 1 => (fillS ms n).set n (foldB n ms)
theorem fillS_ok (ms : List Rep) : ∀ n, RepOK (fillS ms n)
  | 0 => zero8_ok
  | n + 1 => (fillS_ok ms n).set n
theorem fillS_get (ms : List Rep) (k : Nat) (hk : k < 8) : ∀ n, (fillS ms n).getD k zc = if k < n then foldB k ms else zc
  | 0 => by
    rw [if_neg (by omega)]
    show (List.replicate 8 zc).getD k zc = zc
    simp only [List.getD_eq_getElem?_getD, List.getElem?_replicate, hk, if_true, Option.getD_some]
  | n + 1 => by
    have ih := fillS_get ms k hk n
    have hl := (fillS_ok ms n).len
    unfold fillS
    by_cases h1 : k = n
    · subst h1
      rw [getD_set_same (by rw [hl]; exact hk), if_pos (by omega)]
    · rw [getD_set_ne h1, ih]
      by_cases h2 : k < n
      · rw [if_pos h2, if_pos (by omega)]
      · rw [if_neg h2, if_neg (by omega)]
theorem cels_ext {a b : List Cel} (h : a.length = 8) (h' : b.length = 8) (he : ∀ k, k < 8 → a.getD k zc = b.getD k zc) : a = b := by
  refine List.ext_getElem (by rw [h, h']) fun i h1 h2 => ?_
  have := he i (by omega)
  simpa [h1, h2] using this
theorem fillS_is {rs : List Rep} {up : List Bool} {e : Int} (hcz : ∀ k, k < 8 → CZ rs k) : fillS ((memL rs up e 3).map (pickR rs)) 8 = mrg ((memL rs up e 3).map (pickR rs)) := by
  refine cels_ext (fillS_ok _ 8).len (mrg_ok _).len fun k hk => ?_
  rw [fillS_get _ k hk, if_pos hk, mrg_get k hk, foldB_is (hcz k hk)]; rfl
theorem sz50 : (Try.prog.info? 50).map (·.size) = some 25 := by kernel_rfl
theorem und50 : ∃ d, Try.prog.underlying 50 = some d ∧ d.isRow = true := ⟨_, Try.underlying50, rfl⟩
theorem load_rep50 {X : World} {b : Nat} {T : TypeId} {cs : List Value} (h : At X b cs T) (hl : cs.length = 25) :
    (Instr.loadAt 50 (.pointer (some ⟨b, 0, Option.none⟩))).run Try.prog X = .ok (.agg cs.toArray) X := by
  obtain ⟨d, hd, hr⟩ := und50
  exact run_loadAt_mid X b 0 _ cs d h.whole hd hr (by rw [hl]; exact sz50)
theorem store_one50 {X : World} {b : Nat} {T : TypeId} {rs : List Rep} {up : List Bool} (hA : At X b (grV rs up) T) (h : GOK rs up) (i : Nat) (hi : i < rs.length) (f : Int) (l : List Cel) (hr : RepOK l) :
    (Instr.storeAt 50 (.pointer (some ⟨b, i * 25, Option.none⟩)) (.agg (repV f l).toArray)).run Try.prog X = .ok () (X.setCells b (i * 25) (repV f l)) ∧ At (X.setCells b (i * 25) (repV f l)) b (grV (rs.set i ⟨f, l⟩) up) T := by
  have hl := hr.vlen f
  refine ⟨run_storeAt_mid X b (i * 25) _ (repV f l).toArray (by simpa [hl] using hA.there (i * 25) 25 (by rw [h.vlen]; have := h.len; omega)) (by simpa [hl] using sz50) (all_oneCell_toArray (vone l f)), ?_⟩
  have := At.set (repV f l) (i * 25) _ _ hA
  rwa [show repV f l = (⟨f, l⟩ : Rep).vs from rfl, grV_set h i hi ⟨f, l⟩ hr] at this
theorem store_rcel {X : World} {b : Nat} {T : TypeId} {f : Int} {l : List Cel} (hA : At X b (repV f l) T) (h : RepOK l) (k : Nat) (hk : k < 8) (c : Cel) :
    (Instr.storeAt 23 (.pointer (some ⟨b, 1 + k * 3, Option.none⟩)) (.agg #[.int .i64 c.e, .int .i64 c.n, .string c.d])).run Try.prog X = .ok () (X.setCells b (1 + k * 3) c.vs) ∧ At (X.setCells b (1 + k * 3) c.vs) b (repV f (l.set k c)) T := by
  refine ⟨store_cel c hA (by rw [h.vlen]; omega), ?_⟩
  have := At.set c.vs (1 + k * 3) _ _ hA
  rwa [repV_in] at this

theorem zero50 (w : World) : (zeroValue 50).run Try.prog w = .ok (.agg z25.toArray) w := by kernel_rfl
theorem build50 (e : Int) (w : World) : (Instr.build 50 #[(0, .int .i64 e)]).run Try.prog w = .ok (.agg (repV e zero8).toArray) w := by
  refine run_build w _ _ _ ?_
  show _ = _
  kernel_rfl
theorem new50 (e : Int) (W : World) : ∃ Y, (Instr.storeAt 50 (.pointer (some ⟨W.heap.size, 0, Option.none⟩)) (.agg (repV e zero8).toArray)).run Try.prog (W.alloc (.cells z25.toArray 50)) = .ok () Y ∧ At Y W.heap.size (repV e zero8) 50 ∧ Below W.heap.size W Y := by
  have A : At (W.alloc (.cells z25.toArray 50)) W.heap.size z25 50 := heap_alloc_new W _
  have A2 := At.set (repV e zero8) 0 _ _ A
  have hl := zero8_ok.vlen e
  rw [setL_whole _ _ (by rw [hl]; rfl)] at A2
  exact ⟨_, run_storeAt_mid _ _ 0 _ (repV e zero8).toArray (by simpa [hl] using A.there 0 25 (by decide)) (by simpa [hl] using sz50) (all_oneCell_toArray (vone zero8 e)), A2, below_setCells (Nat.le_refl _) _ 0 _ ((Below.refl _ _).alloc (Nat.le_refl _) _)⟩

set_option maxRecDepth 100000 in
set_option maxHeartbeats 4000000 in
theorem rgsync_any (rs : List Rep) (up : List Bool) (e : Int) (m : Nat) (b : Nat) (T : TypeId) (w : World) (h : GOK rs up) (hm3 : m < 3) (hcz : ∀ k, k < 8 → CZ rs k) (A0 : At w b (grV rs up) T) :
    Calls Try.prog 20 #[.pointer (some ⟨b, 0, Option.none⟩), .int .i64 e, .int .i64 m] w fun r w' => r = .returned (.bool (syncB rs up e m)) ∧ At w' b (grV (syncG rs up e m) up) T ∧ Only b w w' := by
  have hb := A0.lt
  have hm3' : (m : Int) < 3 := by omega
  have hmu : m < up.length := by rw [h.upl]; exact hm3
  have hml : m < rs.length := by rw [h.len]; exact hm3
  have hub : upB up m = up[m] := by simp [upB, hmu]; omega
  have hgd : rs.getD ((m : Int)).toNat ⟨0, []⟩ = rs[m] := by rw [show ((m : Int)).toNat = m from rfl]; simp [hml]
  go_enter Try.func20, Try.ntmps20
  go_wp2_with fail
  refine (rmembers_any rs up e b T w h A0).mono ?_
  rintro r Z ⟨a, n, c, rfl, ho, hb1⟩
  obtain ⟨_, _, _, he', hn⟩ := ho.form
  simp only [Value.slice.injEq] at he'
  obtain ⟨rfl, rfl, rfl⟩ := he'
  have hbl : ∀ b' off, a = some ⟨b', off, Option.none⟩ → w.heap.size ≤ b' := fun b' off hb => by subst hb; have := ho.block b' (by simp [Value.ownBlock]); omega
  have hmem : ∀ x ∈ memL rs up e 3, ∃ m : Nat, m < 3 ∧ x = m := memL_mem rs up e 3
  obtain ⟨L, hL⟩ : ∃ L, memL rs up e 3 = L := ⟨_, rfl⟩
  have HLe : Hid (memL rs up e 3 = L) := hL
  have HM : Hid (∀ x ∈ L, ∃ m : Nat, m < 3 ∧ x = m) := by rw [← hL]; exact hmem
  have hl3 : L.length ≤ 3 := by rw [← hL]; exact memL_len rs up e 3
  rw [hL] at hn ho
  clear hL hmem
  have hnl : n = L.length := hn.1.symm
  subst hnl
  have HRW : Hid (0 < L.length → ∃ b' off, a = some ⟨b', off, Option.none⟩ ∧ w.heap.size ≤ b' ∧ ∀ (j : Nat) (hj : j < L.length), Z.cell? ⟨b', off + j, Option.none⟩ = some (.int .i64 L[j])) := fun h0 => by
    obtain ⟨b', off, e1, e2⟩ := hn.2.2 (by omega)
    exact ⟨b', off, e1, hbl b' off e1, e2⟩
  clear hn ho hbl
  replace A0 := A0.later hb1 A0.lt
  have hOn : Only b w Z := Only.of hb1 (Nat.le_refl _)
  have hsz := hb1.size
  have u1 : Z.cell? ⟨b, 75 + m, Option.none⟩ = some (.bool up[m]) := (A0.cell _).trans (h.upc m hmu)
  have f1 : Z.cell? ⟨b, m * 25, Option.none⟩ = some (.int .i64 rs[m].f) := (A0.cell _).trans (h.floor m hml)
  clear hb1
  cases hu : up[m] with
  | false =>
    rw [hu] at u1
    have HB : Hid (syncB rs up e m = false) := by show _ = _; unfold syncB; rw [hub, hu]; rfl
    have HG : Hid (syncG rs up e m = rs) := by show _ = _; simp [syncG, HB.out]
    clear hub hu hgd HRW HLe HM
    go_wp2_with fail
    go_ret
    exact ⟨retB HB.out.symm, by rw [HG.out]; exact A0, hOn⟩
  | true =>
    rw [hu] at u1
    by_cases h2 : 2 ≤ L.length
    case neg =>
      have h2' : (L.length : Int) < 2 := by omega
      have hd : decide (2 ≤ L.length) = false := by simpa using h2
      have HB : Hid (syncB rs up e m = false) := by show _ = _; unfold syncB; rw [HLe.out, hd]; simp
      have HG : Hid (syncG rs up e m = rs) := by show _ = _; simp [syncG, HB.out]
      clear hub hu hgd HRW HLe HM h2
      go_wp2_with fail
      go_ret
      exact ⟨retB HB.out.symm, by rw [HG.out]; exact A0, hOn⟩
    have h2' : ¬ ((L.length : Int) < 2) := by omega
    have hd : decide (2 ≤ L.length) = true := by simpa using h2
    by_cases hf : rs[m].f < e
    case neg =>
      have hf2 : e ≤ rs[m].f := by omega
      have HB : Hid (syncB rs up e m = false) := by show _ = _; unfold syncB; rw [hgd]; simp [hf]
      have HG : Hid (syncG rs up e m = rs) := by show _ = _; simp [syncG, HB.out]
      clear hub hu hgd HRW HLe HM h2 hf
      go_wp2_with fail
      go_ret
      exact ⟨retB HB.out.symm, by rw [HG.out]; exact A0, hOn⟩
    have hf' : ¬ (e ≤ rs[m].f) := by omega
    have HB : Hid (syncB rs up e m = true) := by show _ = _; unfold syncB; rw [hgd, HLe.out, hub, hu, hd]; simp [hf]
    have HG : Hid (syncG rs up e m = rs.set m ⟨e, fillS (L.map (pickR rs)) 8⟩) := by
      show _ = _; unfold syncG; rw [if_pos HB.out, ← HLe.out, fillS_is hcz]; rfl
    obtain ⟨bl, off, rfl, hblw, hrow⟩ := HRW.out (by omega)
    have HRR : Hid (∀ (j : Nat) (hj : j < L.length), Z.cell? ⟨bl, off + j, Option.none⟩ = some (.int .i64 L[j])) := hrow
    clear hrow HRW HLe hub hu hgd hcz
    have hz50 := zero50
    have HBD : Hid ((Instr.build 50 #[(0, .int .i64 e)]).run Try.prog Z = .ok (.agg (repV e zero8).toArray) Z) := build50 e Z
    obtain ⟨X3, hst3, AR, b3⟩ := new50 e Z
    have HS3 : Hid ((Instr.storeAt 50 (.pointer (some ⟨Z.heap.size, 0, Option.none⟩)) (.agg (repV e zero8).toArray)).run Try.prog (Z.alloc (.cells z25.toArray 50)) = .ok () X3) := hst3
    clear hst3
    go_wp2_with (first | (with_reducible refine wl_build HBD.out (by simp [Act.eval]) ?_) | (with_reducible refine wl_store HS3.out rfl rfl ?_))
    clear HBD HS3
    replace A0 := A0.later b3 A0.lt
    have HRT : Hid (∀ (j : Nat) (hj : j < L.length), X3.cell? ⟨bl, off + j, Option.none⟩ = some (.int .i64 L[j])) := fun j hj => cell_later b3 (HRR.out j hj)
    have hOn3 : Only b w X3 := hOn.trans (Only.of b3 (Nat.le_refl _))
    have hblz := cell_lt (HRR.out 0 (by omega))
    clear b3 HRR hOn u1 f1
    obtain ⟨rb, hrb⟩ : ∃ rb, Z.heap.size = rb := ⟨_, rfl⟩
    rw [hrb] at AR hsz hblz ⊢
    clear hrb
    go_loopw [9] (fun i wr => ∃ j : Nat, j ≤ 8 ∧ i = .int .i64 j ∧ At wr b (grV rs up) T ∧ At wr rb (repV e (fillS (L.map (pickR rs)) j)) 50 ∧ Only b w wr ∧ ∀ (j : Nat) (hj : j < L.length), wr.cell? ⟨bl, off + j, Option.none⟩ = some (.int .i64 L[j])) (fun i _ => 8 - (intOf i).toNat)
    case atStart => exact ⟨0, by omega, rfl, A0, AR, hOn3, HRT.out⟩
    case round =>
      clear A0 hOn3 HRT AR
      obtain ⟨j, hj, rfl, A0, AR, hOn, hrow⟩ := hrel
      have HRR : Hid (∀ (j : Nat) (hj : j < L.length), wr.cell? ⟨bl, off + j, Option.none⟩ = some (.int .i64 L[j])) := hrow
      clear hrow
      have hok := fillS_ok (L.map (pickR rs)) j
      by_cases hlt : j < 8
      · have hki : (j : Int) < 8 := by omega
        have HNX : Hid (fillS (L.map (pickR rs)) (j + 1) = (fillS (L.map (pickR rs)) j).set j (foldB j (L.map (pickR rs)))) := rfl
        generalize fillS (L.map (pickR rs)) j = cl at *
        go_wp2_with fail
        refine (rnewest_any rs up b bl off c T L j wr h A0 hl3 hlt HM.out HRR.out).mono ?_
        rintro r Z2 ⟨rfl, hb2⟩
        obtain ⟨ce, hce⟩ : ∃ ce, foldB j (L.map (pickR rs)) = ce := ⟨_, rfl⟩
        have HCE : Hid (foldB j (L.map (pickR rs)) = ce) := hce
        rw [hce]
        clear hce
        replace A0 := A0.later hb2 A0.lt
        replace AR := AR.later hb2 AR.lt
        have HRS : Hid (∀ (j : Nat) (hj : j < L.length), Z2.cell? ⟨bl, off + j, Option.none⟩ = some (.int .i64 L[j])) := fun j hj => cell_later hb2 (HRR.out j hj)
        have hOn2 : Only b w Z2 := hOn.trans (Only.of hb2 (Nat.le_refl _))
        clear hb2 HRR hOn
        obtain ⟨hst, B1⟩ := store_rcel AR hok j hlt ce
        have B0 := At.set_ne (show b ≠ rb by omega) ce.vs (1 + j * 3) _ A0
        have hOn4 : Only b w (Z2.setCells rb (1 + j * 3) ce.vs) := ⟨?os, ?tape, ?out, ?size, fun q hq hn => by rw [heap_setCells_ne (show q ≠ rb by omega)]; exact hOn2.block q hq hn⟩
        case os => exact (setCells_os rb ce.vs _ Z2).trans hOn2.os
        case tape => exact (setCells_tape rb ce.vs _ Z2).trans hOn2.tape
        case out => exact (setCells_output rb ce.vs _ Z2).trans hOn2.output
        case size => rw [size_setCells]; exact hOn2.size
        have HR4 : Hid (∀ (i : Nat) (hi : i < L.length), (Z2.setCells rb (1 + j * 3) ce.vs).cell? ⟨bl, off + i, Option.none⟩ = some (.int .i64 L[i])) := fun i hi => by
          rw [World.cell?_of_block (w := Z2) (heap_setCells_ne (show bl ≠ rb by omega) _ _ _)]
          exact HRS.out i hi
        generalize Z2.setCells rb (1 + j * 3) ce.vs = Z3 at *
        have HS : Hid ((Instr.storeAt 23 (.pointer (some ⟨rb, 1 + j * 3, Option.none⟩)) (.agg #[.int .i64 ce.e, .int .i64 ce.n, .string ce.d])).run Try.prog Z2 = .ok () Z3) := hst
        clear hst A0 AR hOn2 HRS
        go_wp2_with (with_reducible refine wl_store HS.out rfl rfl ?_)
        exact ⟨⟨j + 1, by omega, by go_num, B0, by rw [HNX.out, HCE.out]; exact B1, hOn4, HR4.out⟩, by simp [intOf]; omega⟩
      · obtain rfl : j = 8 := by omega
        obtain ⟨cl, hcl⟩ : ∃ cl, fillS (L.map (pickR rs)) 8 = cl := ⟨_, rfl⟩
        rw [hcl] at AR hok HG
        clear hcl HRR HM
        go_wp2_with fail
        refine wp_region_held (S := fun w' => At w' rb (repV e cl) 50) (by kernel_rfl) ?_
        have HS : Hid (At wr.drew rb (repV e cl) 50) := AR
        obtain ⟨hst, B0⟩ := store_one50 (X := wr.drew) A0 h m hml e cl hok
        have BR := At.set_ne (show rb ≠ b by omega) (repV e cl) (m * 25) wr.drew AR
        have hOn4 := Only.sets (repV e cl) (m * 25) wr.drew hOn.drew
        refine wpAnyH_take (i := 0) (v := .pointer (some ⟨b, 0, Option.none⟩)) rfl (by kernel_rfl) (by kernel_rfl) (by kernel_rfl) (fun _ _ _ h => h) (.inl ⟨rfl, fun w' hw' => ?_⟩) HS.out ?_
        · go_simp
        refine wpAnyH_take (i := 1) (v := .int .i64 m) rfl (by kernel_rfl) (by kernel_rfl) (by kernel_rfl) (fun _ _ _ h => h) (.inl ⟨rfl, fun w' hw' => ?_⟩) HS.out ?_
        · go_simp
        refine wpAnyH_take (i := 2) (v := .agg (repV e cl).toArray) rfl (by kernel_rfl) (by kernel_rfl) (by kernel_rfl) (fun _ _ _ h => h) (.inl ⟨rfl, fun w' hw' => ?_⟩) HS.out ?_
        · exact exec_load (load_rep50 hw' (hok.vlen e)) rfl
        simp [Act.put]
        refine wpAnyH_take (i := 3) (v := .pointer (some ⟨b, 0, Option.none⟩)) rfl (by kernel_rfl) (by kernel_rfl) (by kernel_rfl) (fun _ _ _ h => h) (.inl ⟨rfl, fun w' hw' => ?_⟩) HS.out ?_
        · go_simp
        refine wpAnyH_take (i := 4) (v := .pointer (some ⟨b, 0, Option.none⟩)) rfl (by kernel_rfl) (by kernel_rfl) (by kernel_rfl) (fun _ _ _ h => h) (.inl ⟨rfl, fun w' hw' => ?_⟩) HS.out ?_
        · go_simp
        refine wpAnyH_take (i := 5) (v := .pointer (some ⟨b, m * 25, Option.none⟩)) rfl (by kernel_rfl) (by kernel_rfl) (by kernel_rfl) (fun _ _ _ h => h) (.inl ⟨rfl, fun w' hw' => ?_⟩) HS.out ?_
        · go_simp
        simp [Act.put]
        generalize wr.drew.setCells b (m * 25) (repV e cl) = Z3 at *
        refine wpAnyH_all (rs := [6]) (by kernel_rfl) (by simp) ?_
        intro i hi
        obtain rfl : i = 6 := by simpa using hi
        refine wpOp_store hst rfl rfl rfl rfl ⟨BR, ?_⟩
        refine wpAnyH_done (by kernel_rfl) ?_ _
        (try simp [Act.put])
        clear hst A0 AR hOn HS BR
        go_wp2_with fail
        go_ret
        exact ⟨retB HB.out.symm, by rw [HG.out]; exact B0, hOn4⟩
end Go.Proofs.Yteebhmhjbgehjaa
