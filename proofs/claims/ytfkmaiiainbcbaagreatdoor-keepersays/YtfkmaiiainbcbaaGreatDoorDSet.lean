/- What the disk's settle and Flush answer. No statement of the seat is proved here. -/
import Derived.Test.YtfkmaiiainbcbaaGreatDoorDWrite
namespace Go.Proofs.YtfkmaiiainbcbaaGreatDoor.D
open Go.ChangeShapes Go.WideShapes Go.ChangeAt Go.RowKit Go.Deep
attribute [local go_sem] zc65

theorem wp_copy_run {o : Oper} {a : Act} {w : World} {K : Act → World → Prop} {Q : Exit → Act → World → Prop} (d s : Operand) (t t' : TypeId)
    (ho : o.op = .call { callee := .builtin .copy, args := #[d, s], argTypes := #[t, t'] }) (v u : Value) (hd : a.eval d = v) (hs : a.eval s = u) {v' : Value} {w' : World}
    (hr : (Builtin.copy_ #[t, t'] o.type #[v, u]).run Tryz.prog w = .ok v' w') (h : K (a.put o.dst v') w') : Oper.wp Tryz.prog o a w K Q := by
  unfold Oper.wp execOp
  simp only [ho, resolve, invoke, builtin, Sem.run_bind, Sem.run_pure, Result.andThen_ok, List.map_toArray, List.map_cons, List.map_nil, hd, hs, hr]
  exact h
theorem run_copy_sec (w : World) (g h n : Nat) (cur cs : List Value) (ty : TypeId) (hg : At w g cur 79) (hs : At w h cs 79) (hl : cs.length = n * 64) (hc : cur.length = n * 64) (h1 : ∀ v ∈ cs, v.oneCell' = true) :
    (Builtin.copy_ #[59, 59] ty #[.slice (some ⟨g, 0, Option.none⟩) n n, .slice (some ⟨h, 0, Option.none⟩) n n]).run Tryz.prog w = .ok (goInt n) (w.setRow g cs.toArray) := by
  have hld := run_loadCells_list (P := Tryz.prog) w ⟨h, 0, Option.none⟩ cs (fun j v hj => by rw [addr0, hs.cell]; exact hj)
  have hst := run_storeCells_at Tryz.prog g 0 79 cs 0 cur.toArray w hg (by simp; omega) h1
  have e : (cur.take 0 ++ cs ++ cur.drop (0 + cs.length)) = cs := by rw [List.drop_of_length_le (by omega)]; simp
  have hsz := sz64
  have hmin : Nat.min n n = n := Nat.min_self n
  simp only [Nat.add_zero] at hst
  rw [e] at hst
  cases hq : Tryz.prog.info? 79 with
  | none => simp [hq] at hsz
  | some i =>
    have hi : i.size = 64 := by simpa [hq] using hsz
    simp [Builtin.copy_, run_underlying Tryz.underlying59, Builtin.lenOf, Builtin.firstCells, sizeOf, typeInfo, hq, hi, hmin, ← hl, hld, hst]
theorem at_row {w : World} {g : Nat} {cur cs : List Value} {T : TypeId} (h : At w g cur T) : At (w.setRow g cs.toArray) g cs T := by
  have := setRow_heap w g cur.toArray cs.toArray T _ h
  exact this

def nils (n : Nat) : List Value := List.replicate n (.slice Option.none 0 0)
theorem zerosS_is (m : Nat) : (Builtin.zeroCells (Value.slice Option.none 0 0).cells m).toList = nils m := by
  refine List.ext_getElem? fun i => ?_
  simp only [Builtin.zeroCells, nils, Array.toList_map]
  rw [List.getElem?_map, List.getElem?_replicate]
  by_cases h : i < m
  · simp [h, Value.cells, Nat.mod_one]
  · simp [h, Value.cells]
theorem run_clearS (w : World) (g n : Nat) (cur : List Value) (hg : At w g cur 77) (hc : cur.length = n) (hn : 0 < n) (ty : TypeId) :
    (Builtin.clear_ #[60] ty #[.slice (some ⟨g, 0, Option.none⟩) n n]).run Tryz.prog w = .ok (.tuple #[]) (w.setRow g (nils n).toArray) := by
  have hv : ∀ w, (zeroValue 77).run Tryz.prog w = .ok (.slice Option.none 0 0) w := Tryz.zeroValue77
  have hst := run_storeCells_at Tryz.prog g 0 77 (nils n) 0 cur.toArray w hg (by simp [nils]; omega) (fun v hv => by rw [(List.mem_replicate.1 hv).2]; rfl)
  have e : (cur.take 0 ++ nils n ++ cur.drop (0 + (nils n).length)) = nils n := by rw [List.drop_of_length_le (by simp [nils]; omega)]; simp
  simp only [Nat.add_zero] at hst
  rw [e] at hst
  obtain ⟨k, rfl⟩ : ∃ k, n = k + 1 := ⟨n - 1, by omega⟩
  simp [Builtin.clear_, run_underlying Tryz.underlying60, hv, zerosS_is, hst]

/-- What settle leaves. -/
def setD (D : DM) (n : Nat) : DM := { D with since := List.replicate n [], next := 0 }
theorem ownW_nil (w : World) : OwnW w (.slice Option.none 0 0) [] := ⟨rfl, .inl ⟨rfl, rfl⟩⟩
/-- The writes that aren't kept are gone. -/
theorem DAt.clean {w w' : World} {b n : Nat} {D : DM} {P : DP} (h : DAt w b n D P) (hm : Moved (Is P.sb) (Is P.sb) w w') (A : At w' P.sb (nils n) 77) : DAt w' b n { D with since := List.replicate n [] } { P with svs := nils n } ∧ (∀ q, DF { P with svs := nils n } b q → DF P b q) := by
  obtain ⟨n1, n2, n3, n4, n5, n6⟩ := h.ne1
  have ok := h.ok
  have hnil : ∀ v ∈ nils n, ∀ k, v.ownBlock = some k → False := fun v hv k hk => by
    rw [(List.mem_replicate.1 hv).2] at hk; cases hk
  refine ⟨⟨⟨ok.k, ok.m, by simp, ok.n1, ok.n40, ok.kl, ok.ml, fun l hl => ?_, ok.nx, ok.lo, ok.hi⟩, hm.at h.hd (fun e => n3 e.symm), hm.at h.k n5, hm.at h.m n6, A, by simp [nils], fun i l v h1 h2 => ?_, h.ne1, fun v hv k hk => (hnil v hv k hk).elim, fun i j v u k h1 _ h3 _ => (hnil v (List.mem_of_getElem? h1) k h3).elim⟩, ?_⟩
  · rw [(List.mem_replicate.1 hl).2]; simp
  · have e1 := (List.mem_replicate.1 (List.mem_of_getElem? h1)).2
    have e2 := (List.mem_replicate.1 (List.mem_of_getElem? h2)).2
    rw [e1, e2]; exact ownW_nil w'
  · rintro q (rfl | rfl | rfl | rfl | ⟨v, hv, hk⟩)
    · exact .inl rfl
    · exact .inr (.inl rfl)
    · exact .inr (.inr (.inl rfl))
    · exact .inr (.inr (.inr (.inl rfl)))
    · exact (hnil v hv q hk).elim

set_option maxHeartbeats 2000000 in
theorem settle_any {w : World} {b n : Nat} {D : DM} {P : DP} (h : DAt w b n D P) :
    Calls Tryz.prog 33 #[.pointer (some ⟨b, 0, Option.none⟩)] w fun e w' => e = .returned (.tuple #[]) ∧ ∃ P', DAt w' b n (setD D n) P' ∧ Moved (DF P b) (DF P' b) w w' := by
  obtain ⟨c0, c1, c2, c3, c4, c5, c6⟩ := h.cells
  obtain ⟨f3, f4, f5, f6⟩ := h.froz
  have hn1 := h.ok.n1
  have hcl := run_clearS w P.sb n P.svs h.s h.len hn1
  have hm1 : Moved (Is P.sb) (Is P.sb) w (w.setRow P.sb (nils n).toArray) := (Moved.refl _ _).row (show Is P.sb P.sb from rfl) _
  obtain ⟨hd1, hf1⟩ := h.clean hm1 (at_row h.s)
  have c3b := hd1.cells.2.2.2.1
  have f3b := hd1.froz.1
  have A2 := hd1.hd.setCell_same 3 (.int .i64 0)
  have hm2 : Moved (Is b) (Is b) (w.setRow P.sb (nils n).toArray) ((w.setRow P.sb (nils n).toArray).setCell ⟨b, 3, Option.none⟩ (.int .i64 0)) := (Moved.refl _ _).one_set 3 _
  have ok := hd1.ok
  have HD2 : Hid (DAt ((w.setRow P.sb (nils n).toArray).setCell ⟨b, 3, Option.none⟩ (.int .i64 0)) b n (setD D n) { P with svs := nils n }) :=
    hd1.head hm2 A2 ⟨ok.k, ok.m, ok.s, ok.n1, ok.n40, ok.kl, ok.ml, ok.sl, by show 0 < 64; decide, ok.lo, ok.hi⟩ rfl rfl rfl
  have HM2 : Hid (Moved (DF P b) (DF { P with svs := nils n } b) w ((w.setRow P.sb (nils n).toArray).setCell ⟨b, 3, Option.none⟩ (.int .i64 0))) :=
    (hm1.mono (fun q hq => .inr (.inr (.inr (.inl hq)))) (fun q hq => .inl (hf1 q hq))).trans (hm2.mono (fun q hq => .inl hq) (fun q hq => .inl hq))
  generalize w.setRow P.sb (nils n).toArray = X at *
  clear hm1 hd1 hf1 A2 hm2 ok h c0 c1 c3 c4 c5 c6 f3 f4 f5 f6
  go_enter Tryz.func33, Tryz.ntmps33
  go_wp2
  refine bodyPost_end (v := .tuple #[]) ?_ rfl ?_
  · simp [results, Tryz.results33, go_sem]
  · exact ⟨rfl, _, HD2.out, HM2.out⟩

def flushD (D : DM) (n : Nat) : DM := if stepB D = true then stepD D else setD { stepD D with kept := (stepD D).now } n
theorem stepD_now (D : DM) : (stepD D).now = D.now := by
  unfold stepD; split; rfl; split; rfl; split; rfl; rfl
theorem stepD_kept (D : DM) : (stepD D).kept = D.kept := by
  unfold stepD; split; rfl; split; rfl; split; rfl; rfl
theorem stepD_since (D : DM) : (stepD D).since = D.since := by
  unfold stepD; split; rfl; split; rfl; split; rfl; rfl
theorem stepD_next (D : DM) : (stepD D).next = D.next := by
  unfold stepD; split; rfl; split; rfl; split; rfl; rfl

set_option maxRecDepth 100000 in
set_option maxHeartbeats 4000000 in
theorem flush_any {w : World} {b n : Nat} {D : DM} {P : DP} (h : DAt w b n D P) :
    Calls Tryz.prog 45 #[.pointer (some ⟨b, 0, Option.none⟩)] w fun e w' => e = .returned (errV (stepF D)) ∧ ∃ P', DAt w' b n (flushD D n) P' ∧ Moved (DF P b) (DF P' b) w w' := by
  have HS : Hid (Calls Tryz.prog 59 #[.pointer (some ⟨b, 0, Option.none⟩)] w fun e w' => e = .returned (errV (stepF D)) ∧ DAt w' b n (stepD D) P ∧ Moved (Is b) (Is b) w w') := step_any h
  clear h
  cases hsb : stepB D
  case true =>
    have HW : Hid (flushD D n = stepD D) := by show _ = _; simp [flushD, hsb]
    have HSF : Hid (stepF D = 10) := by show _ = _; simp [stepF, hsb]
    clear hsb
    go_enter Tryz.func45, Tryz.ntmps45
    go_wp2_with fail
    refine HS.out.mono ?_
    rintro e w1 ⟨rfl, hd1, hm1⟩
    rw [HSF.out, show errV 10 = .iface 58 (.int .i64 10) from rfl]
    have HD1 : Hid (DAt w1 b n (stepD D) P) := hd1
    have HM1 : Hid (Moved (DF P b) (DF P b) w w1) := hm1.mono (fun k hk => .inl hk) (fun k hk => .inl hk)
    clear hd1 hm1
    go_wp2
    go_ret
    exact ⟨by rw [HSF.out]; rfl, P, by rw [HW.out]; exact HD1.out, HM1.out⟩
  have HW : Hid (flushD D n = setD { stepD D with kept := (stepD D).now } n) := by show _ = _; simp [flushD, hsb]
  have HSF : Hid (stepF D = 0) := by show _ = _; simp [stepF, hsb]
  clear hsb
  go_enter Tryz.func45, Tryz.ntmps45
  go_wp2_with fail
  refine HS.out.mono ?_
  rintro e w1 ⟨rfl, hd1, hm1⟩
  rw [HSF.out, show errV 0 = .nilIface from rfl]
  have HD1 : Hid (DAt w1 b n (stepD D) P) := hd1
  have HM1 : Hid (Moved (DF P b) (DF P b) w w1) := hm1.mono (fun k hk => .inl hk) (fun k hk => .inl hk)
  clear hd1 hm1 HS
  go_wp2_with fail
  go_cut [3] (fun _ wx => DAt wx b n { stepD D with kept := (stepD D).now } P ∧ Moved (DF P b) (DF P b) w wx)
  case first =>
    have c0 : w1.drew.cell? ⟨b, 0, Option.none⟩ = some (.slice (some ⟨P.kb, 0, Option.none⟩) n n) := HD1.out.cells.1
    have c1 : w1.drew.cell? ⟨b, 1, Option.none⟩ = some (.slice (some ⟨P.nb, 0, Option.none⟩) n n) := HD1.out.cells.2.1
    refine wp_region_held (S := (fun w' => w'.cell? ⟨b, 0, Option.none⟩ = some (.slice (some ⟨P.kb, 0, Option.none⟩) n n) ∧ w'.cell? ⟨b, 1, Option.none⟩ = some (.slice (some ⟨P.nb, 0, Option.none⟩) n n))) (by kernel_rfl) ?_
    have HSX : Hid (w1.drew.cell? ⟨b, 0, Option.none⟩ = some (.slice (some ⟨P.kb, 0, Option.none⟩) n n) ∧ w1.drew.cell? ⟨b, 1, Option.none⟩ = some (.slice (some ⟨P.nb, 0, Option.none⟩) n n)) := ⟨c0, c1⟩
    clear c0 c1
    refine wpAnyH_take (i := 0) (v := .pointer (some ⟨b, 0, Option.none⟩)) rfl (by kernel_rfl) (by kernel_rfl) (by kernel_rfl) (fun _ _ _ h => h) (.inl ⟨rfl, fun w' hw' => ?_⟩) HSX.out ?_
    · go_simp
    refine wpAnyH_take (i := 1) (v := .pointer (some ⟨b, 0, Option.none⟩)) rfl (by kernel_rfl) (by kernel_rfl) (by kernel_rfl) (fun _ _ _ h => h) (.inl ⟨rfl, fun w' hw' => ?_⟩) HSX.out ?_
    · go_simp
    refine wpAnyH_take (i := 2) (v := .pointer (some ⟨b, 0, Option.none⟩)) rfl (by kernel_rfl) (by kernel_rfl) (by kernel_rfl) (fun _ _ _ h => h) (.inl ⟨rfl, fun w' hw' => ?_⟩) HSX.out ?_
    · go_simp
    refine wpAnyH_take (i := 3) (v := .slice (some ⟨P.kb, 0, Option.none⟩) n n) rfl (by kernel_rfl) (by kernel_rfl) (by kernel_rfl) (fun _ _ _ h => h) (.inl ⟨rfl, fun w' hw' => ?_⟩) HSX.out ?_
    · (have hc := hw'.1; go_simp)
    refine wpAnyH_take (i := 4) (v := .pointer (some ⟨b, 0, Option.none⟩)) rfl (by kernel_rfl) (by kernel_rfl) (by kernel_rfl) (fun _ _ _ h => h) (.inl ⟨rfl, fun w' hw' => ?_⟩) HSX.out ?_
    · go_simp
    refine wpAnyH_take (i := 5) (v := .pointer (some ⟨b, 0, Option.none⟩)) rfl (by kernel_rfl) (by kernel_rfl) (by kernel_rfl) (fun _ _ _ h => h) (.inl ⟨rfl, fun w' hw' => ?_⟩) HSX.out ?_
    · go_simp
    refine wpAnyH_take (i := 6) (v := .pointer (some ⟨b, 1, Option.none⟩)) rfl (by kernel_rfl) (by kernel_rfl) (by kernel_rfl) (fun _ _ _ h => h) (.inl ⟨rfl, fun w' hw' => ?_⟩) HSX.out ?_
    · go_simp
    refine wpAnyH_take (i := 7) (v := .slice (some ⟨P.nb, 0, Option.none⟩) n n) rfl (by kernel_rfl) (by kernel_rfl) (by kernel_rfl) (fun _ _ _ h => h) (.inl ⟨rfl, fun w' hw' => ?_⟩) HSX.out ?_
    · (have hc := hw'.2; go_simp)
    simp [Act.put]
    refine wpAnyH_all (rs := [8]) (by kernel_rfl) (by simp) ?_
    intro i hi
    obtain rfl : i = 8 := by simpa using hi
    have hd := HD1.out
    have hlk := secs_len _ hd.ok.kl
    have hlm := secs_len _ hd.ok.ml
    have hcp := run_copy_sec w1.drew P.kb P.nb n (secs (stepD D).kept) (secs (stepD D).now) 3 hd.k hd.m (by rw [hlm, hd.ok.m]; omega) (by rw [hlk, hd.ok.k]; omega) (secs_one _)
    have A4 : At (w1.drew.setRow P.kb (secs (stepD D).now).toArray) P.kb (secs (stepD D).now) 79 := at_row hd.k
    have hmv : Moved (Is P.kb) (Is P.kb) w1 (w1.drew.setRow P.kb (secs (stepD D).now).toArray) := (Moved.of ((Below.refl _ _).drew) (Nat.le_refl _) : Moved (Is P.kb) (Is P.kb) w1 w1.drew).row (show Is P.kb P.kb from rfl) _
    have hdn := hd.keptS hmv (stepD D).now hd.ok.m hd.ok.ml A4
    have hmw : Moved (DF P b) (DF P b) w (w1.drew.setRow P.kb (secs (stepD D).now).toArray) := HM1.out.trans (hmv.mono (fun q hq => .inr (.inl hq)) (fun q hq => .inl hq))
    have c0b := hdn.cells.1
    have c1b := hdn.cells.2.1
    generalize w1.drew.setRow P.kb (secs (stepD D).now).toArray = Y8 at *
    refine wpOp_step rfl rfl ?_
    refine wp_copy_run (.tmp 12) (.tmp 16) _ _ rfl _ _ rfl rfl hcp ?_
    refine ⟨⟨c0b, c1b⟩, ?_⟩
    (try simp [Act.put])
    refine wpAnyH_done (by kernel_rfl) ?_ _
    (try simp [Act.put])
    go_wp2_with fail
    go_meet
    exact ⟨hdn, hmw⟩
  case rest =>
  obtain ⟨hd8, hm8⟩ := hcut
  obtain ⟨W8, rfl⟩ : ∃ W, W = wc := ⟨_, rfl⟩
  have HST : Hid (Calls Tryz.prog 33 #[.pointer (some ⟨b, 0, Option.none⟩)] W8 fun e w' => e = .returned (.tuple #[]) ∧ ∃ P', DAt w' b n (setD { stepD D with kept := (stepD D).now } n) P' ∧ Moved (DF P b) (DF P' b) W8 w') := settle_any hd8
  have HM8 : Hid (Moved (DF P b) (DF P b) w W8) := hm8
  clear hd8 hm8 HD1 HM1
  go_wp2_with fail
  refine HST.out.mono ?_
  rintro e W9 ⟨rfl, P', hd9, hm9⟩
  have HD9 : Hid (DAt W9 b n (setD { stepD D with kept := (stepD D).now } n) P') := hd9
  have HM9 : Hid (Moved (DF P b) (DF P' b) w W9) := HM8.out.trans hm9
  clear hd9 hm9
  go_wp2
  go_ret
  exact ⟨by rw [HSF.out]; rfl, P', by rw [HW.out]; exact HD9.out, HM9.out⟩
end Go.Proofs.YtfkmaiiainbcbaaGreatDoor.D
