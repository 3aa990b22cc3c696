/- A keeper on a disk, both in one world; what Keep answers. No statement of the seat is proved here. -/
import Derived.Test.YtfkmaiiainbcbaaGreatDoorEKeep
namespace Go.Proofs.YtfkmaiiainbcbaaGreatDoor.D
open Go.ChangeShapes Go.WideShapes Go.ChangeAt Go.RowKit Go.Deep

/-- A disk of the call's own. -/
structure Dk (w0 w : World) (b n : Nat) (D : DM) (P : DP) : Prop where
  d : DAt w b n D P
  bw : Below w0.heap.size w0 w
  ld : ∀ q, DF P b q → w0.heap.size ≤ q
/-- A keeper upon it. -/
structure Kp (w0 w : World) (k b n : Nat) (e : Int) (s : KS) (a : Option Addr) (c : Nat) (D : DM) (P : DP) : Prop where
  d : DAt w b n D P
  kp : KpAt w k b e s a c
  bw : Below w0.heap.size w0 w
  ld : ∀ q, DF P b q → w0.heap.size ≤ q
  lk : w0.heap.size ≤ k
  lr : ∀ p, a = some p → s.l.length ≠ 0 → w0.heap.size ≤ p.block ∧ ¬ DF P b p.block ∧ p.block ≠ k
  ap : ¬ DF P b k
section
variable {w0 w w' : World} {k b n : Nat} {e : Int} {s : KS} {a : Option Addr} {c : Nat} {D D' : DM} {P P' : DP}
theorem Kp.dk (h : Kp w0 w k b n e s a c D P) : Dk w0 w b n D P := ⟨h.d, h.bw, h.ld⟩
theorem Dk.later (h : Dk w0 w b n D P) (hb : Below w.heap.size w w') : Dk w0 w' b n D P := ⟨h.d.later hb (Nat.le_refl _), h.bw.trans (hb.mono h.bw.size), h.ld⟩
theorem Dk.disk (h : Dk w0 w b n D P) (hd : DAt w' b n D' P') (hm : Moved (DF P b) (DF P' b) w w') : Dk w0 w' b n D' P' := ⟨hd, hm.below h.bw h.ld h.bw.size, hm.above h.ld h.bw.size⟩
theorem Kp.later (h : Kp w0 w k b n e s a c D P) (hb : Below w.heap.size w w') : Kp w0 w' k b n e s a c D P :=
  ⟨h.d.later hb (Nat.le_refl _), h.kp.later hb, h.bw.trans (hb.mono h.bw.size), h.ld, h.lk, h.lr, h.ap⟩
theorem Kp.disk (h : Kp w0 w k b n e s a c D P) (hd : DAt w' b n D' P') (hm : Moved (DF P b) (DF P' b) w w') : Kp w0 w' k b n e s a c D' P' :=
  ⟨hd, h.kp.moved hm h.ap (fun p hp h0 => (h.lr p hp h0).2.1), hm.below h.bw h.ld h.bw.size, hm.above h.ld h.bw.size, h.lk, fun p hp h0 => ⟨(h.lr p hp h0).1, hm.not (row_lt h.kp.row h0 p hp) (h.lr p hp h0).2.1, (h.lr p hp h0).2.2⟩, hm.not h.kp.hd.lt h.ap⟩
end
/-- All the blocks of it. -/
def KF (P : DP) (b k : Nat) (a : Option Addr) (s : KS) : Nat → Prop := fun q => DF P b q ∨ q = k ∨ ∃ p, a = some p ∧ s.l.length ≠ 0 ∧ p.block = q
theorem Kp.foot {w0 w : World} {k b n : Nat} {e : Int} {s : KS} {a : Option Addr} {c : Nat} {D : DM} {P : DP} (h : Kp w0 w k b n e s a c D P) : ∀ q, KF P b k a s q → q < w.heap.size := by
  rintro q (hq | rfl | ⟨p, hp, h0, rfl⟩)
  · exact h.d.foot q hq
  · exact h.kp.hd.lt
  · exact row_lt h.kp.row h0 p hp
theorem Kp.above {w0 w : World} {k b n : Nat} {e : Int} {s : KS} {a : Option Addr} {c : Nat} {D : DM} {P : DP} (h : Kp w0 w k b n e s a c D P) : ∀ q, KF P b k a s q → w0.heap.size ≤ q := by
  rintro q (hq | rfl | ⟨p, hp, h0, rfl⟩)
  · exact h.ld q hq
  · exact h.lk
  · exact (h.lr p hp h0).1
/-- What does not touch its blocks leaves it. -/
theorem Kp.moved {F F' : Nat → Prop} {w0 w w' : World} {k b n : Nat} {e : Int} {s : KS} {a : Option Addr} {c : Nat} {D : DM} {P : DP} (h : Kp w0 w k b n e s a c D P) (hm : Moved F F' w w') (hf : ∀ q, F q → ¬ KF P b k a s q) (hF : ∀ q, F q → w0.heap.size ≤ q) : Kp w0 w' k b n e s a c D P :=
  ⟨h.d.moved hm (fun q f e => hf q f (.inl e)), h.kp.moved hm (fun f => hf k f (.inr (.inl rfl))) (fun p hp h0 f => hf _ f (.inr (.inr ⟨p, hp, h0, rfl⟩))), hm.below h.bw hF h.bw.size, h.ld, h.lk, h.lr, h.ap⟩
def okE (e : Int) : Prop := 1 ≤ e ∧ e ≤ 1000000
instance (e : Int) : Decidable (okE e) := inferInstanceAs (Decidable (_ ∧ _))
def keepF (D : DM) (n : Nat) (e : Int) (s : KS) : Int := if okE e then if s.f = 0 then storeF D n (ktxt e s) else s.f else 1
def keepD (D : DM) (n : Nat) (e : Int) (s : KS) : DM := if okE e ∧ s.f = 0 then storeD D n (ktxt e s) else D
/-- What is kept behind it. -/
def keepS (D : DM) (n : Nat) (e0 : Int) (s0 : KS) (e : Int) (s : KS) : Int × KS := if keepF D n e s = 0 then (e, s) else (e0, s0)
theorem kp_store (b : Nat) (e e' : Int) (s s' : KS) (a a' : Option Addr) (c c' : Nat) : setL ((kpV b e s a c).set 1 (.int .i64 e')) 2 (s'.vs a' c') = kpV b e' s' a' c' := rfl
set_option maxRecDepth 100000 in
set_option maxHeartbeats 8000000 in
theorem keep_any {w0 w : World} {k b n : Nat} {e : Int} {s : KS} {a : Option Addr} {c : Nat} {D : DM} {P : DP} (h : Kp w0 w k b n e s a c D P) (hL : K.Laid w0) (e2 : Int) (s2 : KS) (a2 : Option Addr) (c2 : Nat) (hr2 : Go.Proofs.YtfkmaiiainbcbaaGreatDoor.Row w0 a2 s2.l.length s2.l) (hn2 : s2.l.length ≤ 1000000) :
    Calls Tryz.prog 12 #[.pointer (some ⟨k, 0, Option.none⟩), .int .i64 e2, .agg (s2.vs a2 c2).toArray] w fun r w' => r = .returned (errV (keepF D n e2 s2)) ∧ ∃ P' a3 c3, Kp w0 w' k b n (keepS D n e s e2 s2).1 (keepS D n e s e2 s2).2 a3 c3 (keepD D n e2 s2) P' ∧ Moved (KF P b k a s) (KF P' b k a3 (keepS D n e s e2 s2).2) w w' := by
  obtain ⟨X, hX, a0, bX, sX⟩ := one w (.cells (s2.vs a2 c2).toArray 37)
  have A5 : At X w.heap.size (s2.vs a2 c2) 37 := a0
  have HK : Hid (Kp w0 X k b n e s a c D P) := h.later bX
  have HL : Hid (K.Laid w0) := hL
  have HR2 : Hid (Go.Proofs.YtfkmaiiainbcbaaGreatDoor.Row w0 a2 s2.l.length s2.l) := hr2
  have h05 := h.bw.size
  have hne : w.heap.size ≠ k := fun e => by have := h.kp.hd.lt; omega
  have hnd : ¬ DF P b w.heap.size := fun e => by have := h.d.foot _ e; omega
  have HIE : Hid (∀ W, Calls Tryz.prog 30 #[.int .i64 e2] W fun r w' => r = .returned (.bool (decide (okE e2))) ∧ w' = W) := fun W => by
    have := isEpoch_any e2 W
    rw [show (decide (1 ≤ e2) && decide (e2 ≤ 1000000)) = decide (okE e2) from by rw [Bool.eq_iff_iff]; simp only [Bool.and_eq_true, decide_eq_true_eq]; exact Iff.rfl] at this
    exact this
  have HNE : Hid (w.heap.size ≠ k ∧ ¬ DF P b w.heap.size) := ⟨hne, hnd⟩
  have HMX : Hid (Moved (KF P b k a s) (KF P b k a s) w X) := Moved.of bX (Nat.le_refl _)
  clear a0 bX h hL hr2 hne hnd
  by_cases hoe : okE e2
  case neg =>
    have HF : Hid (keepF D n e2 s2 = 1) := by show _ = _; simp only [keepF, if_neg hoe]
    have HD : Hid (keepD D n e2 s2 = D) := by show _ = _; unfold keepD; rw [if_neg (fun h => hoe h.1)]
    have HS : Hid (keepS D n e s e2 s2 = (e, s)) := by show _ = _; unfold keepS; rw [HF.out, if_neg (by decide)]
    have hdec : decide (okE e2) = false := by simpa using hoe
    rw [hdec] at HIE
    clear hoe hdec
    go_enter Tryz.func12, Tryz.ntmps12
    go_upto_region 1 with fail
    rw [← hX]
    clear hX
    go_wp2_with fail
    refine (HIE.out _).mono ?_
    rintro r W1 ⟨rfl, rfl⟩
    go_wp2
    go_ret
    exact ⟨by rw [HF.out]; rfl, P, a, c, by rw [HS.out, HD.out]; exact HK.out, by rw [HS.out]; exact HMX.out⟩
  have hdec : decide (okE e2) = true := by simpa using hoe
  rw [hdec] at HIE
  have HOE : Hid (okE e2) := hoe
  clear hdec
  have hrX : Go.Proofs.YtfkmaiiainbcbaaGreatDoor.Row X a2 s2.l.length s2.l := HR2.out.later HK.out.bw
  have HLS : Hid ((Instr.loadAt 37 (.pointer (some ⟨w.heap.size, 0, Option.none⟩))).run Tryz.prog X = .ok (.agg (s2.vs a2 c2).toArray) X) := load_st0 A5
  have HCK : Hid (Calls Tryz.prog 18 #[.agg (s2.vs a2 c2).toArray] X fun r w' => r = .returned (errV s2.f) ∧ Below X.heap.size X w') := Go.Proofs.YtfkmaiiainbcbaaGreatDoor.check_any s2.g s2.t s2.hd a2 s2.l.length c2 s2.y s2.l X hrX
  by_cases hf : s2.f = 0
  case neg =>
    have HF : Hid (keepF D n e2 s2 = s2.f) := by show _ = _; simp only [keepF, if_pos hoe, if_neg hf]
    have HD : Hid (keepD D n e2 s2 = D) := by show _ = _; unfold keepD; rw [if_neg (fun h => hf h.2)]
    have HS : Hid (keepS D n e s e2 s2 = (e, s)) := by show _ = _; unfold keepS; rw [HF.out, if_neg hf]
    have HE : Hid (errV s2.f = .iface 58 (.int .i64 s2.f)) := by show _ = _; simp [errV, hf]
    rw [HE.out] at HCK
    obtain ⟨ff, hff⟩ : ∃ ff, s2.f = ff := ⟨_, rfl⟩
    rw [hff] at HCK HF HE
    clear hoe hf hff
    go_enter Tryz.func12, Tryz.ntmps12
    go_upto_region 1 with fail
    rw [← hX]
    clear hX
    go_wp2_with fail
    refine (HIE.out _).mono ?_
    rintro r W1 ⟨rfl, rfl⟩
    go_wp2_with (with_reducible refine wl_load HLS.out rfl rfl ?_)
    refine HCK.out.mono ?_
    rintro r W2 ⟨rfl, b1⟩
    have HK2 : Hid (Kp w0 W2 k b n e s a c D P) := HK.out.later b1
    have HM2 : Hid (Moved (KF P b k a s) (KF P b k a s) w W2) := HMX.out.trans (Moved.of b1 (Nat.le_refl _))
    clear b1
    go_wp2
    go_ret
    exact ⟨by rw [HF.out, HE.out]; rfl, P, a, c, by rw [HS.out, HD.out]; exact HK2.out, by rw [HS.out]; exact HM2.out⟩
  have HS2 : Hid (s2.f = 0) := hf
  rw [hf, show errV 0 = .nilIface from rfl] at HCK
  have HF : Hid (keepF D n e2 s2 = storeF D n (ktxt e2 s2)) := by show _ = _; simp only [keepF, if_pos hoe, if_pos hf]
  have HD : Hid (keepD D n e2 s2 = storeD D n (ktxt e2 s2)) := by show _ = _; unfold keepD; rw [if_pos ⟨hoe, hf⟩]
  clear hoe hf
  go_enter Tryz.func12, Tryz.ntmps12
  go_upto_region 1 with fail
  rw [← hX]
  clear hX
  go_wp2_with fail
  refine (HIE.out _).mono ?_
  rintro r W1 ⟨rfl, rfl⟩
  go_wp2_with (with_reducible refine wl_load HLS.out rfl rfl ?_)
  refine HCK.out.mono ?_
  rintro r W2 ⟨rfl, b1⟩
  have HK2 : Hid (Kp w0 W2 k b n e s a c D P) := HK.out.later b1
  have HM2 : Hid (Moved (KF P b k a s) (KF P b k a s) w W2.drew) := HMX.out.trans (Moved.of b1.drew (Nat.le_refl _))
  replace A5 := A5.later b1 A5.lt
  clear b1 HCK HLS HIE HK hrX HMX
  go_upto_region 6 with fail
  obtain ⟨b5, hb5⟩ : ∃ b5, w.heap.size = b5 := ⟨_, rfl⟩
  rw [hb5] at A5 HNE h05 ⊢
  clear hb5
  refine wp_region_held (S := fun w' => At w' k (kpV b e s a c) 70 ∧ At w' b5 (s2.vs a2 c2) 37) (by kernel_rfl) ?_
  have HSS : Hid (At W2.drew k (kpV b e s a c) 70 ∧ At W2.drew b5 (s2.vs a2 c2) 37) := ⟨HK2.out.kp.hd, A5⟩
  have HK3 : Hid (Kp w0 W2.drew k b n e s a c D P) := HK2.out.later ((Below.refl _ _).drew)
  clear HK2 A5
  refine wpAnyH_take (i := 0) (v := .pointer (some ⟨k, 0, Option.none⟩)) rfl (by kernel_rfl) (by kernel_rfl) (by kernel_rfl) (fun _ _ _ h => h) (.inl ⟨rfl, fun w' hw' => ?_⟩) HSS.out ?_
  · go_simp
  refine wpAnyH_take (i := 1) (v := .pointer (some ⟨k, 0, Option.none⟩)) rfl (by kernel_rfl) (by kernel_rfl) (by kernel_rfl) (fun _ _ _ h => h) (.inl ⟨rfl, fun w' hw' => ?_⟩) HSS.out ?_
  · go_simp
  refine wpAnyH_take (i := 2) (v := .pointer (some ⟨k, 0, Option.none⟩)) rfl (by kernel_rfl) (by kernel_rfl) (by kernel_rfl) (fun _ _ _ h => h) (.inl ⟨rfl, fun w' hw' => ?_⟩) HSS.out ?_
  · go_simp
  (try simp [Act.put])
  refine wpAnyH_take (i := 3) (v := .pointer (some ⟨b, 0, Option.none⟩)) rfl (by kernel_rfl) (by kernel_rfl) (by kernel_rfl) (fun _ _ _ h => h) (.inl ⟨rfl, fun w' hw' => ?_⟩) HSS.out ?_
  · have hc : w'.cell? ⟨k, 0, Option.none⟩ = some (.pointer (some ⟨b, 0, Option.none⟩)) := hw'.1.cell 0; go_simp
  refine wpAnyH_take (i := 4) (v := .int .i64 e2) rfl (by kernel_rfl) (by kernel_rfl) (by kernel_rfl) (fun _ _ _ h => h) (.inl ⟨rfl, fun w' hw' => ?_⟩) HSS.out ?_
  · go_simp
  refine wpAnyH_take (i := 5) (v := .agg (s2.vs a2 c2).toArray) rfl (by kernel_rfl) (by kernel_rfl) (by kernel_rfl) (fun _ _ _ h => h) (.inl ⟨rfl, fun w' hw' => ?_⟩) HSS.out ?_
  · exact exec_load (load_st0 hw'.2) rfl
  (try simp [Act.put])
  (try simp [Act.put])
  have hst := store_any HK3.out.d e2 (by have := HOE.out.1; omega) HOE.out.2 s2 HS2.out a2 c2 (HL.out.later HK3.out.bw) (HR2.out.later HK3.out.bw)
  have HSTO : Hid (Calls Tryz.prog 27 #[.pointer (some ⟨b, 0, Option.none⟩), .int .i64 e2, .agg (s2.vs a2 c2).toArray] W2.drew fun r w' => r = .returned (errV (storeF D n (ktxt e2 s2))) ∧ ∃ P', DAt w' b n (storeD D n (ktxt e2 s2)) P' ∧ Moved (DF P b) (DF P' b) W2.drew w') := hst
  clear hst
  refine wpAnyH_all (rs := [6]) (by kernel_rfl) (by simp) ?_
  intro i hi
  obtain rfl : i = 6 := by simpa using hi
  refine wpOp_step rfl rfl ?_
  go_wp2_with fail
  refine HSTO.out.mono ?_
  rintro r Y ⟨rfl, P2, hd, hm⟩
  have HK4 : Hid (Kp w0 Y k b n e s a c (storeD D n (ktxt e2 s2)) P2) := HK3.out.disk hd hm
  have HS4 : Hid (At Y k (kpV b e s a c) 70 ∧ At Y b5 (s2.vs a2 c2) 37) := ⟨HK4.out.kp.hd, hm.at HSS.out.2 HNE.out.2⟩
  have hnd : ¬ DF P2 b b5 := hm.not HSS.out.2.lt HNE.out.2
  have HM4 : Hid (Moved (KF P b k a s) (KF P2 b k a s) w Y) := HM2.out.trans (hm.mono (fun q e => .inl e) (fun q hq => by
    rcases hq with e | e | e
    · exact .inr (.inl e)
    · exact .inl (.inr (.inl e))
    · exact .inl (.inr (.inr e))))
  clear hd hm HSTO HSS HK3 HM2
  refine ⟨HS4.out, ?_⟩
  by_cases hsf : storeF D n (ktxt e2 s2) = 0
  case neg =>
    have HE : Hid (errV (storeF D n (ktxt e2 s2)) = .iface 58 (.int .i64 (storeF D n (ktxt e2 s2)))) := by show _ = _; simp [errV, hsf]
    have HS : Hid (keepS D n e s e2 s2 = (e, s)) := by show _ = _; unfold keepS; rw [HF.out, if_neg hsf]
    rw [HE.out]
    obtain ⟨ff, hff⟩ : ∃ ff, storeF D n (ktxt e2 s2) = ff := ⟨_, rfl⟩
    rw [hff] at HE HF ⊢
    clear hsf hff
    (try simp [Act.put])
    refine wpAnyH_take (i := 7) (v := .iface 58 (.int .i64 ff)) rfl (by kernel_rfl) (by kernel_rfl) (by kernel_rfl) (fun _ _ _ h => h) (.inl ⟨rfl, fun w' hw' => ?_⟩) HS4.out ?_
    · go_simp
    refine wpAnyH_done (by kernel_rfl) ?_ _
    (try simp [Act.put])
    clear HS4
    go_wp2
    go_ret
    exact ⟨by rw [HF.out, HE.out]; rfl, P2, a, c, by rw [HS.out, HD.out]; exact HK4.out, by rw [HS.out]; exact HM4.out⟩
  have HS : Hid (keepS D n e s e2 s2 = (e2, s2)) := by show _ = _; unfold keepS; rw [HF.out, if_pos hsf]
  rw [hsf, show errV 0 = .nilIface from rfl]
  rw [hsf] at HF
  clear hsf
  (try simp [Act.put])
  refine wpAnyH_take (i := 7) (v := .nilIface) rfl (by kernel_rfl) (by kernel_rfl) (by kernel_rfl) (fun _ _ _ h => h) (.inl ⟨rfl, fun w' hw' => ?_⟩) HS4.out ?_
  · go_simp
  refine wpAnyH_done (by kernel_rfl) ?_ _
  (try simp [Act.put])
  have HL5 : Hid ((Instr.loadAt 37 (.pointer (some ⟨b5, 0, Option.none⟩))).run Tryz.prog Y = .ok (.agg (s2.vs a2 c2).toArray) Y) := load_st0 HS4.out.2
  go_wp2_with (with_reducible refine wl_load HL5.out rfl rfl ?_)
  refine (kclone_any s2 a2 c2 Y (HR2.out.later HK4.out.bw) hn2).mono ?_
  rintro r V ⟨a3, c3, rfl, hr3, hq, b1⟩
  have hq' := hq
  have HK5 : Hid (Kp w0 V k b n e s a c (storeD D n (ktxt e2 s2)) P2) := HK4.out.later b1
  have h1V := b1.size
  have hAk := HK5.out.kp.hd
  have A1 := hAk.setCell_same 1 (.int .i64 e2)
  have c1 : V.cell? ⟨k, 1, Option.none⟩ = some (.int .i64 e) := hAk.cell 1
  have f1 : V.frozen? ⟨k, 1, Option.none⟩ = false := (hAk.there 1 1 (by simp [kpV, KS.vs]) 0 (by decide)).2
  have hst := store_stO (o := 2) s2 a3 c3 A1 (by simp [kpV, KS.vs])
  have A2 := At.set (s2.vs a3 c3) 2 _ _ A1
  rw [kp_store] at A2
  have hm : Moved (Is k) (Is k) V ((V.setCell ⟨k, 1, Option.none⟩ (.int .i64 e2)).setCells k 2 (s2.vs a3 c3)) := Moved.sets (show Is k k from rfl) _ _ _ ((Moved.refl _ _).one_set 1 _)
  have hkY := HK4.out.kp.hd.lt
  have hm6 : Moved (KF P2 b k a s) (KF P2 b k a s) Y ((V.setCell ⟨k, 1, Option.none⟩ (.int .i64 e2)).setCells k 2 (s2.vs a3 c3)) := (Moved.of b1 (Nat.le_refl _)).trans (hm.mono (fun q e => .inr (.inl e)) (fun q e => .inl e))
  have HM6 : Hid (Moved (KF P b k a s) (KF P2 b k a3 s2) w ((V.setCell ⟨k, 1, Option.none⟩ (.int .i64 e2)).setCells k 2 (s2.vs a3 c3))) := HM4.out.trans (hm6.mono (fun q e => e) (fun q hq => by
    rcases hq with e | e | ⟨p, hp, _, e⟩
    · exact .inl (.inl e)
    · exact .inl (.inr (.inl e))
    · exact .inr (.inr (by rw [← e]; exact (hq' p hp).1))))
  have HK6 : Hid (Kp w0 ((V.setCell ⟨k, 1, Option.none⟩ (.int .i64 e2)).setCells k 2 (s2.vs a3 c3)) k b n e2 s2 a3 c3 (storeD D n (ktxt e2 s2)) P2) :=
    ⟨HK5.out.d.moved hm (fun q hq => by rw [show q = k from hq]; exact HK5.out.ap), ⟨A2, row_moved hr3 hm (fun p hp _ e => by have := (hq p hp).1; have : p.block = k := e; omega), HS2.out, HOE.out.1, HOE.out.2⟩, hm.below HK5.out.bw (fun q hq => by rw [show q = k from hq]; exact HK5.out.lk) HK5.out.bw.size, HK5.out.ld, HK5.out.lk, fun p hp h0 => ⟨by have := (hq p hp).1; have := HK4.out.bw.size; omega, fun hd => by have := HK4.out.d.foot _ hd; have := (hq p hp).1; omega, fun e => by have := (hq p hp).1; omega⟩, HK5.out.ap⟩
  have HST : Hid ((Instr.storeAt 37 (.pointer (some ⟨k, 2, Option.none⟩)) (.agg (s2.vs a3 c3).toArray)).run Tryz.prog (V.setCell ⟨k, 1, Option.none⟩ (.int .i64 e2)) = .ok () ((V.setCell ⟨k, 1, Option.none⟩ (.int .i64 e2)).setCells k 2 (s2.vs a3 c3))) := hst
  clear hAk A1 hst A2 hm HK5 HK4 HL5 HS4 hr3 hq b1 hq' hm6 HM4
  go_wp2_with (with_reducible refine wl_store HST.out rfl rfl ?_)
  go_ret
  exact ⟨by rw [HF.out]; rfl, P2, a3, c3, by rw [HS.out, HD.out]; exact HK6.out, by rw [HS.out]; exact HM6.out⟩
end Go.Proofs.YtfkmaiiainbcbaaGreatDoor.D
