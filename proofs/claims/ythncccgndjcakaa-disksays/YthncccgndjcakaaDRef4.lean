/- What the document's NewDisk answers, and disk.New where there can't be so many. No statement of the seat is proved here. -/
import Derived.Test.YthncccgndjcakaaDRef3
namespace Go.Proofs.Ythncccgndjcakaa
open Go.ChangeShapes Go.WideShapes Go.ChangeAt Go.RowKit Go.Deep

def rnewR (n : Nat) : RM := { kept := List.replicate n zsec, now := List.replicate n zsec, wait := [], fuse := -1, down := false }
/-- A disk under way: so many are kept, so many are there. -/
structure RG (w0 w : World) (b i j : Nat) (kv nv : Value) : Prop where
  hd : At w b [kv, nv, .slice Option.none 0 0, .int .i64 (-1), .bool false] 54
  k : OwnX 9 1 w kv i (svs (List.replicate i zsec))
  m : OwnX 9 1 w nv j (svs (List.replicate j zsec))
  nk : ¬ ObX kv b
  nm : ¬ ObX nv b
  d : ∀ q, ObX kv q → ¬ ObX nv q
  bw : Below w0.heap.size w0 w
  lb : w0.heap.size ≤ b
  lk : ∀ q, ObX kv q → w0.heap.size ≤ q
  lm : ∀ q, ObX nv q → w0.heap.size ≤ q
theorem svs_more (i : Nat) : svs (List.replicate (i + 1) zsec) = svs (List.replicate i zsec) ++ [sv zsec] := by
  rw [show List.replicate (i + 1) zsec = List.replicate i zsec ++ [zsec] from List.replicate_succ']
  simp [svs]
section
variable {w0 w w1 : World} {b i j : Nat} {kv nv v' : Value}
theorem RG.later {B : Nat} (h : RG w0 w b i j kv nv) (hb : Below B w w1) (hB : w.heap.size ≤ B) : RG w0 w1 b i j kv nv :=
  ⟨h.hd.later hb (by have := h.hd.lt; omega), h.k.later hb hB, h.m.later hb hB, h.nk, h.nm, h.d, h.bw.trans (hb.mono (by have := h.bw.size; omega)), h.lb, h.lk, h.lm⟩
theorem RG.addK (h : RG w0 w b i j kv nv) (hm : Moved (ObX kv) (ObX v') w w1) (ho : OwnX 9 1 w1 v' (i + 1) (svs (List.replicate i zsec) ++ [sv zsec])) : RG w0 (w1.setCell ⟨b, 0, Option.none⟩ v') b (i + 1) j v' nv := by
  have hb := h.hd.lt
  have gr := hm.grown
  have hm2 : Moved (Is b) (Is b) w1 (w1.setCell ⟨b, 0, Option.none⟩ v') := (Moved.refl _ _).one_set 0 _
  have nb : ¬ ObX v' b := fun e => (gr b e).elim h.nk (fun e => by omega)
  refine ⟨(hm.at h.hd h.nk).setCell_same 0 v', ?_, ?_, nb, h.nm, fun q e f => (gr q e).elim (fun e => h.d q e f) (fun e => by have := h.m.lt f; omega), ?_, h.lb, fun q e => (gr q e).elim (h.lk q) (fun e => by have := h.bw.size; omega), h.lm⟩
  · rw [svs_more]; exact ho.moved hm2 (fun q e f => nb (by rw [← show q = b from f]; exact e))
  · exact (h.m.moved hm (fun q e f => h.d q f e)).moved hm2 (fun q e f => h.nm (by rw [← show q = b from f]; exact e))
  · exact hm2.below (hm.below h.bw h.lk h.bw.size) (fun q e => by rw [show q = b from e]; exact h.lb) (by have := h.bw.size; have := hm.size; omega)
theorem RG.addM (h : RG w0 w b i j kv nv) (hm : Moved (ObX nv) (ObX v') w w1) (ho : OwnX 9 1 w1 v' (j + 1) (svs (List.replicate j zsec) ++ [sv zsec])) : RG w0 (w1.setCell ⟨b, 1, Option.none⟩ v') b i (j + 1) kv v' := by
  have hb := h.hd.lt
  have gr := hm.grown
  have hm2 : Moved (Is b) (Is b) w1 (w1.setCell ⟨b, 1, Option.none⟩ v') := (Moved.refl _ _).one_set 1 _
  have nb : ¬ ObX v' b := fun e => (gr b e).elim h.nm (fun e => by omega)
  refine ⟨(hm.at h.hd h.nm).setCell_same 1 v', ?_, ?_, h.nk, nb, fun q e f => (gr q f).elim (fun f => h.d q e f) (fun f => by have := h.k.lt e; omega), ?_, h.lb, h.lk, fun q e => (gr q e).elim (h.lm q) (fun e => by have := h.bw.size; omega)⟩
  · exact (h.k.moved hm (fun q e f => h.d q e f)).moved hm2 (fun q e f => h.nk (by rw [← show q = b from f]; exact e))
  · rw [svs_more]; exact ho.moved hm2 (fun q e f => nb (by rw [← show q = b from f]; exact e))
  · exact hm2.below (hm.below h.bw h.lm h.bw.size) (fun q e => by rw [show q = b from e]; exact h.lb) (by have := h.bw.size; have := hm.size; omega)
theorem RG.done {n : Nat} (h : RG w0 w b n n kv nv) (h1 : 1 ≤ n) (h40 : n ≤ 40) : RAt w b n (rnewR n) ⟨kv, nv, .slice Option.none 0 0⟩ ∧ ∀ q, RF ⟨kv, nv, .slice Option.none 0 0⟩ b q → w0.heap.size ≤ q := by
  refine ⟨⟨⟨by simp [rnewR], by simp [rnewR], h1, h40, by simp [rnewR], by simp [rnewR], by show (-1 : Int) ≤ -1; omega, by show (-1 : Int) ≤ _; omega⟩, h.hd, h.k, h.m, OwnX.nil _ _ _, ⟨h.nk, h.nm, ObX.nil b⟩, fun q e => ⟨h.d q e, ObX.nil q⟩, fun q _ => ObX.nil q⟩, ?_⟩
  rintro q (rfl | e | e | e)
  · exact h.lb
  · exact h.lk q e
  · exact h.lm q e
  · exact (ObX.nil q e).elim
end
set_option maxRecDepth 100000 in
set_option maxHeartbeats 8000000 in
theorem rnew_any (w : World) (n : Nat) (h1 : 1 ≤ n) (h40 : n ≤ 40) :
    Calls Try.prog 8 #[.int .i64 n] w fun e w' => ∃ b P, e = .returned (.tuple #[.pointer (some ⟨b, 0, Option.none⟩), .int .i64 0]) ∧ RAt w' b n (rnewR n) P ∧ Below w.heap.size w w' ∧ ∀ q, RF P b q → w.heap.size ≤ q := by
  have e1 : decide ((n : Int) < 1) = false := by simp; omega
  have e2 : decide ((40 : Int) < (n : Int)) = false := by simp; omega
  obtain ⟨X, hX, a0, bX, sX⟩ := one w (.cells #[.slice Option.none 0 0, .slice Option.none 0 0, .slice Option.none 0 0, .int .i64 (-1), .bool false] 54)
  have hg0 : RG w X w.heap.size 0 0 (.slice Option.none 0 0) (.slice Option.none 0 0) := ⟨a0, OwnX.nil _ _ _, OwnX.nil _ _ _, ObX.nil _, ObX.nil _, fun q e => (ObX.nil q e).elim, bX, Nat.le_refl _, fun q e => (ObX.nil q e).elim, fun q e => (ObX.nil q e).elim⟩
  have HG0 : Hid (RG w X w.heap.size 0 0 (.slice Option.none 0 0) (.slice Option.none 0 0)) := hg0
  clear hg0 a0 bX
  go_enter Try.func8, Try.ntmps8
  go_wp2_with fail
  rw [← hX]
  clear hX sX
  obtain ⟨b, hbe⟩ : ∃ b, b = w.heap.size := ⟨_, rfl⟩
  rw [← hbe] at HG0 ⊢
  clear hbe
  go_loopw [5] (fun iv wr => ∃ (i : Nat) (kv nv : Value), i ≤ n ∧ iv = .int .i64 i ∧ RG w wr b i i kv nv) (fun iv _ => n - (intOf iv).toNat)
  case atStart => exact ⟨0, _, _, Nat.zero_le _, rfl, HG0.out⟩
  case round =>
    clear HG0
    obtain ⟨i, kv, nv, hi, rfl, hg⟩ := hrel
    have HG : Hid (RG w wr b i i kv nv) := hg
    clear hg
    by_cases hlt : i < n
    · have hki : (i : Int) < (n : Int) := by omega
      go_upto_region 7 with fail
      have HG7 : Hid (RG w wr.drew b i i kv nv) := HG.out.later ((Below.refl _ _).drew) (Nat.le_refl _)
      refine wp_region_last 10 (S := fun w' => At w' b [kv, nv, .slice Option.none 0 0, .int .i64 (-1), .bool false] 54) (by kernel_rfl) ?_
      have HS7 : Hid (At wr.drew b [kv, nv, .slice Option.none 0 0, .int .i64 (-1), .bool false] 54) := HG7.out.hd
      clear HG
      refine wpL_take (i := 0) (v := .pointer (some ⟨b, 0, Option.none⟩)) [10, 9, 8] (by kernel_rfl) rfl (by kernel_rfl) (by kernel_rfl) (by kernel_rfl) (fun _ _ _ h => h) (.inl ⟨rfl, fun w' hw' => ?_⟩) HS7.out ?_
      · go_simp
      refine wpL_take (i := 1) (v := .pointer (some ⟨b, 0, Option.none⟩)) [10, 7, 4, 3, 2] (by kernel_rfl) rfl (by kernel_rfl) (by kernel_rfl) (by kernel_rfl) (fun _ _ _ h => h) (.inl ⟨rfl, fun w' hw' => ?_⟩) HS7.out ?_
      · go_simp
      refine wpL_take (i := 2) (v := .pointer (some ⟨b, 0, Option.none⟩)) [10, 7, 4, 3] (by kernel_rfl) rfl (by kernel_rfl) (by kernel_rfl) (by kernel_rfl) (fun _ _ _ h => h) (.inl ⟨rfl, fun w' hw' => ?_⟩) HS7.out ?_
      · go_simp
      (try simp [Act.put])
      refine wpL_take (i := 3) (v := .pointer (some ⟨b, 0, Option.none⟩)) [10, 7, 4] (by kernel_rfl) rfl (by kernel_rfl) (by kernel_rfl) (by kernel_rfl) (fun _ _ _ h => h) (.inl ⟨rfl, fun w' hw' => ?_⟩) HS7.out ?_
      · go_simp
      refine wpL_take (i := 4) (v := kv) [10, 7] (by kernel_rfl) rfl (by kernel_rfl) (by kernel_rfl) (by kernel_rfl) (fun _ _ _ h => h) (.inl ⟨rfl, fun w' hw' => ?_⟩) HS7.out ?_
      · have hc := hw'.cell 0; go_simp
      (try simp [Act.put])
      clear HS7
      generalize wr.drew = Z7 at *
      refine wpL_one (i := 5) (by kernel_rfl) ?_
      refine wpOp_step rfl rfl ?_
      go_wp2_with fail
      refine (noughts_any 64 (by decide) Z7).mono ?_
      rintro r Y7 ⟨rfl, b7⟩
      replace HG7 : Hid (RG w Y7 b i i kv nv) := HG7.out.later b7 (Nat.le_refl _)
      clear b7
      refine ⟨HG7.out.hd, ?_⟩
      rw [show sv (List.replicate 64 0) = sv zsec from rfl]
      (try simp [Act.put])
      refine wpL_one (i := 6) (by kernel_rfl) ?_
      refine wpOp_step rfl rfl ?_
      go_wp2_with fail
      obtain ⟨X7, hX7, ax7, bx7, _⟩ := one Y7 (.cells #[sv zsec] 9)
      rw [← hX7]
      have AX7 : At X7 Y7.heap.size [sv zsec] 9 := ax7
      replace HG7 : Hid (RG w X7 b i i kv nv) := HG7.out.later bx7 (Nat.le_refl _)
      clear hX7 ax7 bx7
      refine ⟨HG7.out.hd, ?_⟩
      (try simp [Act.put])
      refine wpL_one (i := 7) (by kernel_rfl) ?_
      refine wpOp_step rfl rfl ?_
      refine wp_appX elt_str (.tmp 23) (.tmp 25) rfl HG7.out.k Y7.heap.size 0 1 1 [sv zsec] rfl rfl rfl (fun j y hj => by rw [Nat.zero_add, AX7.cell]; exact hj) (by simp [sv, Value.oneCell']) (by omega) ?_
      intro v7 W7 ho7 hm7
      have HN7 := HG7.out.addK hm7 ho7
      obtain ⟨a7, p7, hv7⟩ := OwnX.form ho7
      have hd7 := hm7.at HG7.out.hd HG7.out.nk
      have cc7 := hd7.cell 0
      have ff7 := (hd7.there 0 1 (by simp) 0 (by decide)).2
      have HSA7 : Hid (At W7 b [kv, nv, .slice Option.none 0 0, .int .i64 (-1), .bool false] 54) := hd7
      have HGN7 : Hid (RG w (W7.setCell ⟨b, 0, Option.none⟩ v7) b (i + 1) i v7 nv) := HN7
      have HV7 : Hid (v7 = Value.slice a7 (i + 1) p7) := hv7
      clear HN7 hm7 ho7 hd7 HG7 AX7
      refine ⟨fun _ => HSA7.out, ?_⟩
      (try simp [Act.put])
      rw [HV7.out]
      refine wpL_take (i := 8) (v := .pointer (some ⟨b, 0, Option.none⟩)) [10, 9] (by kernel_rfl) rfl (by kernel_rfl) (by kernel_rfl) (by kernel_rfl) (fun _ _ _ h => h) (.inl ⟨rfl, fun w' hw' => ?_⟩) HSA7.out ?_
      · go_simp
      refine wpL_take (i := 9) (v := .pointer (some ⟨b, 0, Option.none⟩)) [10] (by kernel_rfl) rfl (by kernel_rfl) (by kernel_rfl) (by kernel_rfl) (fun _ _ _ h => h) (.inl ⟨rfl, fun w' hw' => ?_⟩) HSA7.out ?_
      · go_simp
      (try simp [Act.put])
      refine wpL_one (i := 10) (by kernel_rfl) ?_
      refine wpOp_step rfl rfl ?_
      go_wp2_with fail
      rw [← HV7.out]
      (try simp [Act.put])
      (try simp [Act.put])
      refine wpL_done (by kernel_rfl) ?_ _
      (try simp [Act.put])
      clear HSA7 cc7 ff7 hv7
      generalize W7.setCell ⟨b, 0, Option.none⟩ v7 = V7 at *
      go_upto_region 8 with fail
      have HG8 : Hid (RG w V7.drew b (i + 1) i v7 nv) := HGN7.out.later ((Below.refl _ _).drew) (Nat.le_refl _)
      refine wp_region_last 10 (S := fun w' => At w' b [v7, nv, .slice Option.none 0 0, .int .i64 (-1), .bool false] 54) (by kernel_rfl) ?_
      have HS8 : Hid (At V7.drew b [v7, nv, .slice Option.none 0 0, .int .i64 (-1), .bool false] 54) := HG8.out.hd
      clear HGN7
      refine wpL_take (i := 0) (v := .pointer (some ⟨b, 0, Option.none⟩)) [10, 9, 8] (by kernel_rfl) rfl (by kernel_rfl) (by kernel_rfl) (by kernel_rfl) (fun _ _ _ h => h) (.inl ⟨rfl, fun w' hw' => ?_⟩) HS8.out ?_
      · go_simp
      refine wpL_take (i := 1) (v := .pointer (some ⟨b, 0, Option.none⟩)) [10, 7, 4, 3, 2] (by kernel_rfl) rfl (by kernel_rfl) (by kernel_rfl) (by kernel_rfl) (fun _ _ _ h => h) (.inl ⟨rfl, fun w' hw' => ?_⟩) HS8.out ?_
      · go_simp
      refine wpL_take (i := 2) (v := .pointer (some ⟨b, 0, Option.none⟩)) [10, 7, 4, 3] (by kernel_rfl) rfl (by kernel_rfl) (by kernel_rfl) (by kernel_rfl) (fun _ _ _ h => h) (.inl ⟨rfl, fun w' hw' => ?_⟩) HS8.out ?_
      · go_simp
      (try simp [Act.put])
      refine wpL_take (i := 3) (v := .pointer (some ⟨b, 1, Option.none⟩)) [10, 7, 4] (by kernel_rfl) rfl (by kernel_rfl) (by kernel_rfl) (by kernel_rfl) (fun _ _ _ h => h) (.inl ⟨rfl, fun w' hw' => ?_⟩) HS8.out ?_
      · go_simp
      refine wpL_take (i := 4) (v := nv) [10, 7] (by kernel_rfl) rfl (by kernel_rfl) (by kernel_rfl) (by kernel_rfl) (fun _ _ _ h => h) (.inl ⟨rfl, fun w' hw' => ?_⟩) HS8.out ?_
      · have hc := hw'.cell 1; go_simp
      (try simp [Act.put])
      clear HS8
      generalize V7.drew = Z8 at *
      refine wpL_one (i := 5) (by kernel_rfl) ?_
      refine wpOp_step rfl rfl ?_
      go_wp2_with fail
      refine (noughts_any 64 (by decide) Z8).mono ?_
      rintro r Y8 ⟨rfl, b8⟩
      replace HG8 : Hid (RG w Y8 b (i + 1) i v7 nv) := HG8.out.later b8 (Nat.le_refl _)
      clear b8
      refine ⟨HG8.out.hd, ?_⟩
      rw [show sv (List.replicate 64 0) = sv zsec from rfl]
      (try simp [Act.put])
      refine wpL_one (i := 6) (by kernel_rfl) ?_
      refine wpOp_step rfl rfl ?_
      go_wp2_with fail
      obtain ⟨X8, hX8, ax8, bx8, _⟩ := one Y8 (.cells #[sv zsec] 9)
      rw [← hX8]
      have AX8 : At X8 Y8.heap.size [sv zsec] 9 := ax8
      replace HG8 : Hid (RG w X8 b (i + 1) i v7 nv) := HG8.out.later bx8 (Nat.le_refl _)
      clear hX8 ax8 bx8
      refine ⟨HG8.out.hd, ?_⟩
      (try simp [Act.put])
      refine wpL_one (i := 7) (by kernel_rfl) ?_
      refine wpOp_step rfl rfl ?_
      refine wp_appX elt_str (.tmp 33) (.tmp 35) rfl HG8.out.m Y8.heap.size 0 1 1 [sv zsec] rfl rfl rfl (fun j y hj => by rw [Nat.zero_add, AX8.cell]; exact hj) (by simp [sv, Value.oneCell']) (by omega) ?_
      intro v8 W8 ho8 hm8
      have HN8 := HG8.out.addM hm8 ho8
      obtain ⟨a8, p8, hv8⟩ := OwnX.form ho8
      have hd8 := hm8.at HG8.out.hd HG8.out.nm
      have cc8 := hd8.cell 1
      have ff8 := (hd8.there 1 1 (by simp) 0 (by decide)).2
      have HSA8 : Hid (At W8 b [v7, nv, .slice Option.none 0 0, .int .i64 (-1), .bool false] 54) := hd8
      have HGN8 : Hid (RG w (W8.setCell ⟨b, 1, Option.none⟩ v8) b (i + 1) (i + 1) v7 v8) := HN8
      have HV8 : Hid (v8 = Value.slice a8 (i + 1) p8) := hv8
      clear HN8 hm8 ho8 hd8 HG8 AX8
      refine ⟨fun _ => HSA8.out, ?_⟩
      (try simp [Act.put])
      rw [HV8.out]
      refine wpL_take (i := 8) (v := .pointer (some ⟨b, 0, Option.none⟩)) [10, 9] (by kernel_rfl) rfl (by kernel_rfl) (by kernel_rfl) (by kernel_rfl) (fun _ _ _ h => h) (.inl ⟨rfl, fun w' hw' => ?_⟩) HSA8.out ?_
      · go_simp
      refine wpL_take (i := 9) (v := .pointer (some ⟨b, 1, Option.none⟩)) [10] (by kernel_rfl) rfl (by kernel_rfl) (by kernel_rfl) (by kernel_rfl) (fun _ _ _ h => h) (.inl ⟨rfl, fun w' hw' => ?_⟩) HSA8.out ?_
      · go_simp
      (try simp [Act.put])
      refine wpL_one (i := 10) (by kernel_rfl) ?_
      refine wpOp_step rfl rfl ?_
      go_wp2_with fail
      rw [← HV8.out]
      (try simp [Act.put])
      (try simp [Act.put])
      refine wpL_done (by kernel_rfl) ?_ _
      (try simp [Act.put])
      clear HSA8 cc8 ff8 hv8
      generalize W8.setCell ⟨b, 1, Option.none⟩ v8 = V8 at *
      have HGN : Hid (RG w V8 b (i + 1) (i + 1) v7 v8) := HGN8.out
      clear HGN8
      go_wp2_with fail
      go_roundw
      case rel => exact ⟨i + 1, v7, v8, by omega, by go_num, HGN.out⟩
      case measure => simp [intOf]; omega
    · obtain rfl : i = n := by omega
      obtain ⟨hd, hf⟩ := HG.out.done h1 h40
      have HD : Hid (RAt wr b i (rnewR i) ⟨kv, nv, .slice Option.none 0 0⟩) := hd
      have HB : Hid (Below w.heap.size w wr) := HG.out.bw
      clear hd
      go_wp2
      go_ret2
      exact ⟨b, _, rfl, HD.out, HB.out, hf⟩
theorem rnew_bad (w : World) (n : Int) (hn : n < 1 ∨ 40 < n) :
    Calls Try.prog 8 #[.int .i64 n] w fun e w' => e = .returned (.tuple #[.pointer Option.none, .int .i64 1]) ∧ w' = w := by
  by_cases h1 : n < 1
  · clear hn
    go_enter Try.func8, Try.ntmps8
    go_wp2
    go_ret2
    exact ⟨rfl, rfl⟩
  · have h2 : 40 < n := by omega
    clear hn
    go_enter Try.func8, Try.ntmps8
    go_wp2
    go_ret2
    exact ⟨rfl, rfl⟩
theorem new_bad (w : World) (n : Int) (hn : n < 1 ∨ 40 < n) :
    Calls Try.prog 7 #[.int .i64 n] w fun e w' => e = .returned (.tuple #[.pointer Option.none, errV 1]) ∧ w' = w := by
  by_cases h1 : n < 1
  · clear hn
    go_enter Try.func7, Try.ntmps7
    go_wp2
    go_ret2
    exact ⟨rfl, rfl⟩
  · have h2 : 40 < n := by omega
    clear hn
    go_enter Try.func7, Try.ntmps7
    go_wp2
    go_ret2
    exact ⟨rfl, rfl⟩
end Go.Proofs.Ythncccgndjcakaa
