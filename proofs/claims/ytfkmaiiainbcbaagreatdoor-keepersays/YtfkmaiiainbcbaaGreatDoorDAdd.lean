/- What disk.behind answers: a sector's writes with another one behind them. No statement of the seat is proved here. -/
import Derived.Test.YtfkmaiiainbcbaaGreatDoorDBeh
import Derived.Great.BuildSlice
namespace Go.Proofs.YtfkmaiiainbcbaaGreatDoor.D
open Go.ChangeShapes Go.WideShapes Go.ChangeAt Go.RowKit Go.Deep
attribute [local go_sem] zc65

/-- The block that a slice owns. -/
def Ob (v : Value) : Nat → Prop := fun k => v.ownBlock = some k
theorem Ob.slice (g n c : Nat) : Ob (.slice (some ⟨g, 0, Option.none⟩) n c) = Is g := by
  funext k
  unfold Ob Is
  simp only [Value.ownBlock, Option.some.injEq]
  exact propext ⟨fun h => h.symm, fun h => h.symm⟩
theorem deleteW_any (v : Value) (l : List Wr) (bw bit : Nat) (w : World) (ho : OwnW w v l) (hl : ∀ x ∈ l, x.data.length = 64) (hcov : w.cell? ⟨bw, 0, Option.none⟩ = some (.int .i64 bit)) (hne : ¬ Ob v bw) :
    Calls Tryz.prog 73 #[v, covV bw] w fun e w' => ∃ v', e = .returned v' ∧ OwnW w' v' (keptW bit l) ∧ Ob v' = Ob v ∧ Moved (Ob v) (Ob v) w w' := by
  rcases ho.split with ⟨rfl, rfl⟩ | ⟨g, cap, rfl, hoN⟩
  · clear hne hl ho
    go_enter Tryz.func73, Tryz.ntmps73
    go_wp2_with fail
    refine (indexW_any Option.none 0 0 [] bw bit w ⟨rfl, by decide, by simp, fun h => absurd rfl h⟩ hcov).mono ?_
    rintro e w1 ⟨⟨i, rfl, hi⟩, hb1⟩
    rcases hi with ⟨rfl, hall⟩ | ⟨k, rfl, hk, he, ha⟩
    · clear hall
      go_wp2
      go_ret
      exact ⟨_, rfl, ⟨rfl, .inl ⟨rfl, rfl⟩⟩, rfl, Moved.of hb1 (Nat.le_refl _)⟩
    · simp at hk
  · rw [Ob.slice] at hne
    refine (deleteW_some g cap l bw bit w hoN hl hcov hne).mono ?_
    rintro e w' ⟨rfl, h1, h2⟩
    refine ⟨_, rfl, h1.own (fun x hx => hl x (List.mem_filter.1 hx).1), by rw [Ob.slice, Ob.slice], by rw [Ob.slice]; exact h2⟩
theorem zero_wr : ∃ i, Tryz.prog.info? 81 = some i ∧ i.zero = some (.agg z65.toArray) ∧ i.size = 65 ∧ i.bytes = 72 := by
  have h : (Tryz.prog.info? 81).map (fun i => (i.zero, i.size, i.bytes)) = some (some (.agg z65.toArray), 65, 72) := by kernel_rfl
  cases hi : Tryz.prog.info? 81 with
  | none => rw [hi] at h; cases h
  | some i => rw [hi] at h; simp at h; exact ⟨i, rfl, h.1, h.2.1, h.2.2⟩
theorem addr0 (b j : Nat) : (⟨b, 0, Option.none⟩ : Addr).add j = ⟨b, j, Option.none⟩ := by
  cases j with
  | zero => rfl
  | succ j => simp [Addr.add]
/-- 'append' of one write that lies in a block. -/
theorem wp_appW {o : Oper} {a : Act} {K : Act → World → Prop} {Q : Exit → Act → World → Prop} (s x : Operand) (hop : o.op = .call { callee := .builtin .append, args := #[s, x], argTypes := #[77, 77] })
    (u : Value) (acc : List Wr) (b : Nat) (p : Wr) (X : World) (T : TypeId) (hs : a.eval s = u) (hx : a.eval x = .slice (some ⟨b, 0, Option.none⟩) 1 1) (ho : OwnW X u acc) (hp : p.data.length = 64) (A : At X b p.vs T) (hl : acc.length ≤ 1000)
    (h : ∀ v' w', OwnW w' v' (acc ++ [p]) → Moved (Ob u) (Ob v') X w' → K (a.put o.dst v') w') : Oper.wp Tryz.prog o a X K Q := by
  obtain ⟨i0, hi, hz0, hz1, hz2⟩ := zero_wr
  obtain ⟨v', w', hr, h2, h3, h4, h5⟩ := run_append_own_at (P := Tryz.prog) (w := X) 0 77 o.type 81 i0 _ 65 72 Tryz.underlying77 hi hz0 hz1 hz2 rfl (by decide) u acc.length _ ho ⟨b, 0, Option.none⟩ 1 1 p.vs (by rw [Wr.vlen hp])
    (fun j v hj => by rw [addr0, A.cell]; exact hj) p.one (by simp only [maxLen]; omega) (by omega) (Nat.zero_le _)
  unfold Oper.wp execOp
  simp only [hop, resolve, invoke, builtin, Sem.run_bind, Sem.run_pure, Result.andThen_ok, List.map_toArray, List.map_cons, List.map_nil, hs, hx, hr]
  refine h v' w' ?_ ⟨h3.os, h3.tape, h3.output, h3.size, fun k hk hn => h3.block k hk (fun e => hn e.symm), fun k hk => ?_⟩
  · have e : (acc ++ [p]).length = acc.length + 1 := by simp
    unfold OwnW
    rw [e, wrs_append]
    have e2 : wrs [p] = p.vs := by simp [wrs]
    rw [e2]
    exact h2
  · rcases h5 with h5 | h5
    · exact .inl (by unfold Ob at *; rw [← h5]; exact hk)
    · refine .inr ?_
      unfold Ob at hk
      rw [h5] at hk
      simp only [Option.some.injEq] at hk
      omega
theorem fill_wr (x : Wr) (h : x.data.length = 64) : Instr.fill (fun i => some (i * 65, 65)) ((Array.range (1 * 65)).map ((Value.agg z65.toArray).cells[· % (Value.agg z65.toArray).cells.size]!)) [(0, .agg x.vs.toArray)] = some x.vs.toArray := by
  have := Great.fill_whole (s := 65) (by decide) [Value.agg x.vs.toArray] ((Array.range (1 * 65)).map ((Value.agg z65.toArray).cells[· % (Value.agg z65.toArray).cells.size]!)) (fun v hv => by simp at hv; subst hv; exact (show x.vs.toArray.size = 65 by rw [List.size_toArray]; exact Wr.vlen h)) (by simp)
  simpa [Value.cells] using this
theorem wp_build1W {o : Oper} {a : Act} {w : World} {K : Act → World → Prop} {Q : Exit → Act → World → Prop} (x : Operand) (ho : o.op = .buildSlice 77 1 #[(0, x)]) (r : Wr) (hr : r.data.length = 64) (hx : a.eval x = .agg r.vs.toArray)
    (h : K (a.put o.dst (.slice (some ⟨w.heap.size, 0, Option.none⟩) 1 1)) (w.alloc (.cells r.vs.toArray 81))) : o.wp Tryz.prog a w K Q := by
  obtain ⟨i, hi, hz, hs, hb⟩ := zero_wr
  refine wp_buildSlice _ _ 1 _ ho r.vs.toArray i _ Tryz.underlying77 hi hz (by rw [hs]; decide) (by rw [hs]; decide) ?_ h
  rw [hs]
  have e : (#[(0, x)].map fun (p : Nat × Operand) => (p.1, a.eval p.2)).toList = [(0, Value.agg r.vs.toArray)] := by simp [hx]
  rw [e]
  exact fill_wr r hr

set_option maxRecDepth 100000 in
set_option maxHeartbeats 8000000 in
theorem behind_any (v : Value) (l : List Wr) (x : Wr) (w : World) (ho : OwnW w v l) (hl : ∀ x ∈ l, x.data.length = 64) (hx : x.data.length = 64) (hn : l.length ≤ 1000) :
    Calls Tryz.prog 60 #[v, .agg x.vs.toArray] w fun e w' => ∃ v', e = .returned v' ∧ OwnW w' v' (keptW x.bit l ++ [x]) ∧ Moved (Ob v) (Ob v') w w' := by
  obtain ⟨X, hX, a0, bX, sX⟩ := one w (.cells x.vs.toArray 81)
  have A0 : At X w.heap.size x.vs 81 := a0
  have HO : Hid (OwnW X v l) := ho.later bX (Nat.le_refl _)
  have hnb : ¬ Ob v w.heap.size := fun h => by have := ho.lt h; omega
  have HB : Hid (Below w.heap.size w X) := bX
  have hkl : (keptW x.bit l).length ≤ 1000 := Nat.le_trans (keptW_le _ _) hn
  clear a0 ho bX
  go_enter Tryz.func60, Tryz.ntmps60
  go_upto_region 2 with fail
  rw [← hX]
  clear hX
  refine wp_region_held (S := fun w' => At w' w.heap.size x.vs 81) (by kernel_rfl) ?_
  have HS : Hid (At X.drew w.heap.size x.vs 81) := A0
  have HOd : Hid (OwnW X.drew v l) := HO.out
  have HMd : Hid (Moved (Ob v) (Ob v) w X.drew) := Moved.of HB.out.drew (Nat.le_refl _)
  obtain ⟨Z, hZ⟩ : ∃ Z, Z = X.drew := ⟨_, rfl⟩
  show wpAnyH _ _ _ _ _ _ _ _ X.drew
  rw [← hZ] at HS HOd HMd ⊢
  clear hZ HO HB A0 sX
  refine wpAnyH_take (i := 0) (v := v) rfl (by kernel_rfl) (by kernel_rfl) (by kernel_rfl) (fun _ _ _ h => h) (.inl ⟨rfl, fun w' hw' => ?_⟩) HS.out ?_
  · go_simp
  refine wpAnyH_take (i := 1) (v := covV w.heap.size) rfl (by kernel_rfl) (by kernel_rfl) (by kernel_rfl) (fun _ _ _ h => h) (.inl ⟨rfl, fun w' hw' => ?_⟩) HS.out ?_
  · go_simp
  refine wpAnyH_take (i := 3) (v := .agg x.vs.toArray) rfl (by kernel_rfl) (by kernel_rfl) (by kernel_rfl) (fun _ _ _ h => h) (.inl ⟨rfl, fun w' hw' => ?_⟩) HS.out ?_
  · exact exec_load (load_wr0 hw' hx) rfl
  simp [Act.put]
  refine wpAnyH_all (rs := [2, 4]) (by kernel_rfl) (by simp) ?_
  intro i hi
  have hi' : i = 2 ∨ i = 4 := by simpa using hi
  rcases hi' with rfl | rfl
  · as_aux_lemma =>
    refine wpOp_step rfl rfl ?_
    go_wp2_with fail
    refine (deleteW_any v l w.heap.size x.bit Z HOd.out hl (HS.out.cell 0) hnb).mono ?_
    rintro e Z1 ⟨v1, rfl, ho1, hob, hm1⟩
    have HS1 : Hid (At Z1 w.heap.size x.vs 81) := hm1.at HS.out hnb
    have HM1 : Hid (Moved (Ob v) (Ob v) w Z1) := HMd.out.trans hm1
    have HO1 : Hid (OwnW Z1 v1 (keptW x.bit l)) := ho1
    have hz1 := hm1.size
    clear ho1 hm1 HS HOd HMd
    (try simp only [])
    refine ⟨HS1.out, ?_⟩
    (try simp [Act.put])
    refine wpAnyH_all (rs := [4]) (by kernel_rfl) (by simp) ?_
    intro i hi
    obtain rfl : i = 4 := by simpa using hi
    refine wpOp_step rfl rfl ?_
    refine wp_build1W (.tmp 10) rfl x hx rfl ?_
    obtain ⟨Z2, hZ2, a2, b2, s2⟩ := one Z1 (.cells x.vs.toArray 81)
    rw [← hZ2]
    have A2 : At Z2 Z1.heap.size x.vs 81 := a2
    have HS2 : Hid (At Z2 w.heap.size x.vs 81) := HS1.out.later b2 HS1.out.lt
    have HM2 : Hid (Moved (Ob v) (Ob v) w Z2) := HM1.out.trans (Moved.of b2 (Nat.le_refl _))
    have HO2 : Hid (OwnW Z2 v1 (keptW x.bit l)) := HO1.out.later b2 (Nat.le_refl _)
    clear hZ2 a2 b2 HS1 HM1 HO1
    refine ⟨HS2.out, ?_⟩
    (try simp [Act.put])
    refine wpAnyH_all (rs := [5]) (by kernel_rfl) (by simp) ?_
    intro i hi
    obtain rfl : i = 5 := by simpa using hi
    refine wpOp_step rfl rfl ?_
    refine wp_appW (.tmp 9) (.tmp 11) rfl v1 (keptW x.bit l) Z1.heap.size x Z2 _ rfl rfl HO2.out hx A2 hkl ?_
    intro v' w' ho' hm'
    have hnb1 : ¬ Ob v1 w.heap.size := by rw [hob]; exact hnb
    have HS3 : Hid (At w' w.heap.size x.vs 81) := hm'.at HS2.out hnb1
    have HM3 : Hid (Moved (Ob v) (Ob v') w w') := by rw [hob] at hm'; exact HM2.out.trans hm'
    refine ⟨HS3.out, ?_⟩
    (try simp [Act.put])
    refine wpAnyH_take (i := 6) (v := v') rfl (by kernel_rfl) (by kernel_rfl) (by kernel_rfl) (fun _ _ _ h => h) (.inl ⟨rfl, fun w' hw' => ?_⟩) HS3.out ?_
    · go_simp
    refine wpAnyH_done (by kernel_rfl) ?_ _
    (try simp [Act.put])
    clear hm' HS2 HO2
    go_wp2_with fail
    go_ret
    exact ⟨v', rfl, ho', HM3.out⟩
  · as_aux_lemma =>
    refine wpOp_step rfl rfl ?_
    refine wp_build1W (.tmp 10) rfl x hx rfl ?_
    obtain ⟨Z2, hZ2, a2, b2, s2⟩ := one Z (.cells x.vs.toArray 81)
    rw [← hZ2]
    have A2 : At Z2 Z.heap.size x.vs 81 := a2
    have HS2 : Hid (At Z2 w.heap.size x.vs 81) := HS.out.later b2 HS.out.lt
    have HM2 : Hid (Moved (Ob v) (Ob v) w Z2) := HMd.out.trans (Moved.of b2 (Nat.le_refl _))
    have HO2 : Hid (OwnW Z2 v l) := HOd.out.later b2 (Nat.le_refl _)
    have hnz : ¬ Ob v Z.heap.size := fun h => by have := HOd.out.lt h; omega
    clear hZ2 a2 b2 HS HMd HOd
    refine ⟨HS2.out, ?_⟩
    (try simp [Act.put])
    refine wpAnyH_all (rs := [2]) (by kernel_rfl) (by simp) ?_
    intro i hi
    obtain rfl : i = 2 := by simpa using hi
    refine wpOp_step rfl rfl ?_
    go_wp2_with fail
    refine (deleteW_any v l w.heap.size x.bit Z2 HO2.out hl (HS2.out.cell 0) hnb).mono ?_
    rintro e Z1 ⟨v1, rfl, ho1, hob, hm1⟩
    have HS1 : Hid (At Z1 w.heap.size x.vs 81) := hm1.at HS2.out hnb
    have A3 : At Z1 Z.heap.size x.vs 81 := hm1.at A2 hnz
    have HM1 : Hid (Moved (Ob v) (Ob v) w Z1) := HM2.out.trans hm1
    have HO1 : Hid (OwnW Z1 v1 (keptW x.bit l)) := ho1
    clear ho1 hm1 HS2 HO2 HM2 A2
    (try simp only [])
    refine ⟨HS1.out, ?_⟩
    (try simp [Act.put])
    refine wpAnyH_all (rs := [5]) (by kernel_rfl) (by simp) ?_
    intro i hi
    obtain rfl : i = 5 := by simpa using hi
    refine wpOp_step rfl rfl ?_
    refine wp_appW (.tmp 9) (.tmp 11) rfl v1 (keptW x.bit l) Z.heap.size x Z1 _ rfl rfl HO1.out hx A3 hkl ?_
    intro v' w' ho' hm'
    have hnb1 : ¬ Ob v1 w.heap.size := by rw [hob]; exact hnb
    have HS3 : Hid (At w' w.heap.size x.vs 81) := hm'.at HS1.out hnb1
    have HM3 : Hid (Moved (Ob v) (Ob v') w w') := by rw [hob] at hm'; exact HM1.out.trans hm'
    refine ⟨HS3.out, ?_⟩
    (try simp [Act.put])
    refine wpAnyH_take (i := 6) (v := v') rfl (by kernel_rfl) (by kernel_rfl) (by kernel_rfl) (fun _ _ _ h => h) (.inl ⟨rfl, fun w' hw' => ?_⟩) HS3.out ?_
    · go_simp
    refine wpAnyH_done (by kernel_rfl) ?_ _
    (try simp [Act.put])
    clear hm' HS1 HO1
    go_wp2_with fail
    go_ret
    exact ⟨v', rfl, ho', HM3.out⟩
end Go.Proofs.YtfkmaiiainbcbaaGreatDoor.D
