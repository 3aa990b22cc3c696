/- What keeper.parse answers of what was kept, and of nothing. No statement of the seat is proved here. -/
import Derived.Test.YtfkmaiiainbcbaaGreatDoorEText
namespace Go.Proofs.YtfkmaiiainbcbaaGreatDoor.D
open Go.ChangeShapes Go.WideShapes Go.ChangeAt Go.RowKit Go.Deep

theorem isEpoch_any (n : Int) (w : World) : Calls Tryz.prog 30 #[.int .i64 n] w fun r w' => r = .returned (.bool (decide (1 ≤ n) && decide (n ≤ 1000000))) ∧ w' = w := by
  by_cases h : 1 ≤ n
  · have h' : decide (1 ≤ n) = true := by simpa using h
    have HF : Hid ((decide (1 ≤ n) && decide (n ≤ 1000000)) = decide (n ≤ 1000000)) := by show _ = _; rw [h']; rfl
    go_enter Tryz.func30, Tryz.ntmps30
    go_wp2
    go_ret
    exact ⟨by rw [HF.out]; rfl, rfl⟩
  · have h' : decide (1 ≤ n) = false := by simpa using h
    go_enter Tryz.func30, Tryz.ntmps30
    go_wp2
    go_ret
    exact ⟨rfl, rfl⟩
theorem cut_ktxt (e : Int) (s : KS) : Lib.cut (K.decI e ++ 32 :: K.stTxt s.g s.t s.hd s.y s.l) [32] = (K.decI e, K.stTxt s.g s.t s.hd s.y s.l, true) := by
  rw [Go.Proofs.YtfkmaiiainbcbaaGreatDoor.cut_eq]
  exact Go.Proofs.YtfkmaiiainbcbaaGreatDoor.cut1_mark _ _ (K.dec_noblank e)
theorem ret_tct {P : Program} {fn : Func} {q r t : Tmp} {T : TypeId} {tmps : Array Value} {w : World} {b : Nat} {v : Value} (h : fn.results = #[.tmp q, .cell r T, .tmp t]) (hr : tmps.getD r undef = .pointer (some ⟨b, 0, Option.none⟩))
    (law : (Instr.loadAt T (.pointer (some ⟨b, 0, Option.none⟩))).run P w = .ok v w) : (results fn tmps).run P w = .ok (.tuple #[tmps.getD q undef, v, tmps.getD t undef]) w := by
  have law' : (loadVar T ⟨b, 0, Option.none⟩).run P w = .ok v w := by simpa [Instr.loadAt, Instr.sureAddr, Sem.run_bind] using law
  simp only [Array.getD_eq_getD_getElem?] at hr
  simp [results, h, hr, asAddr, law']
theorem newS (s : KS) (a : Option Addr) (c : Nat) (W : World) : ∃ V, (Instr.storeAt 37 (.pointer (some ⟨W.heap.size, 0, Option.none⟩)) (.agg (s.vs a c).toArray)).run Tryz.prog (W.alloc (.cells #[.int .i64 0, .slice Option.none 0 0, .int .i64 0, .int .i64 0, .bool false] 37)) = .ok () V ∧ At V W.heap.size (s.vs a c) 37 ∧ Below W.heap.size W V := by
  have A1 : At (W.alloc (.cells #[.int .i64 0, .slice Option.none 0 0, .int .i64 0, .int .i64 0, .bool false] 37)) W.heap.size [.int .i64 0, .slice Option.none 0 0, .int .i64 0, .int .i64 0, .bool false] 37 := heap_alloc_new W _
  have B2 := At.set (s.vs a c) 0 _ _ A1
  rw [setL_whole _ _ (by simp [KS.vs])] at B2
  exact ⟨_, store_stO (o := 0) s a c A1 (by simp), B2, below_setCells (Nat.le_refl _) _ 0 _ ((Below.refl _ _).alloc (Nat.le_refl _) _)⟩
/-- A state is stored over another one. -/
theorem putS {W : World} {b : Nat} {T : TypeId} {l : List Value} (s : KS) (a : Option Addr) (c : Nat) (A : At W b l T) (hl : l.length = 5) : ∃ V, (Instr.storeAt 37 (.pointer (some ⟨b, 0, Option.none⟩)) (.agg (s.vs a c).toArray)).run Tryz.prog W = .ok () V ∧ At V b (s.vs a c) T ∧ Moved (Is b) (Is b) W V := by
  have B2 := At.set (s.vs a c) 0 _ _ A
  rw [setL_whole _ _ (by simp [KS.vs, hl])] at B2
  exact ⟨_, store_stO (o := 0) s a c A (by omega), B2, Moved.sets (show Is b b from rfl) _ _ _ (Moved.refl _ _)⟩
def zst : List Value := [.int .i64 0, .slice Option.none 0 0, .int .i64 0, .int .i64 0, .bool false]
set_option maxRecDepth 100000 in
set_option maxHeartbeats 8000000 in
theorem kparse_ok (e : Int) (h0 : 1 ≤ e) (h1 : e ≤ 1000000) (s : KS) (hs : s.f = 0) (w : World) (hL : K.Laid w) :
    Calls Tryz.prog 24 #[.string ⟨(ktxt e s).toArray⟩] w fun r w' => ∃ a c, r = .returned (.tuple #[.int .i64 e, .agg (s.vs a c).toArray, .nilIface]) ∧ Go.Proofs.YtfkmaiiainbcbaaGreatDoor.Row w' a s.l.length s.l ∧ (∀ p, a = some p → w.heap.size ≤ p.block ∧ (s.l.length ≠ 0 → p.block < w'.heap.size)) ∧ Below w.heap.size w w' := by
  obtain ⟨X, hX, a0, bX, sX⟩ := one w (.cells #[.int .i64 0, .slice Option.none 0 0, .int .i64 0, .int .i64 0, .bool false] 37)
  have A0 : At X w.heap.size zst 37 := a0
  have HLd : Hid (K.Laid X) := hL.later bX
  have HB : Hid (Below w.heap.size w X) := bX
  have HS : Hid (s.f = 0) := hs
  have hln := ktxt_len h1 hs
  have HTP : Hid (∀ W, Calls Tryz.prog 36 #[.string ⟨(ktxt e s).toArray⟩, .string ⟨#[107, 101, 101, 112, 101, 114, 32]⟩] W fun r w' => r = .returned (.string ⟨(K.decI e ++ 32 :: K.stTxt s.g s.t s.hd s.y s.l).toArray⟩) ∧ w' = W) := fun W => trimPre_any _ (by unfold ktxt at hln; simp [kpre] at hln; simp; omega) W
  obtain ⟨t, ht⟩ : ∃ t : ByteArray, (⟨(ktxt e s).toArray⟩ : ByteArray) = t := ⟨_, rfl⟩
  have HT : Hid ((⟨(ktxt e s).toArray⟩ : ByteArray) = t) := ht
  rw [ht] at HTP ⊢
  have hlr : (K.decI e ++ 32 :: K.stTxt s.g s.t s.hd s.y s.l).length ≤ 1000000 := by unfold ktxt at hln; simp [kpre] at hln; simp; omega
  have hls : (K.stTxt s.g s.t s.hd s.y s.l).length ≤ 1000000 := by unfold ktxt at hln; simp [kpre] at hln; omega
  have HCT : Hid (∀ W, K.Laid W → Calls Tryz.prog 35 #[.string ⟨(K.decI e ++ 32 :: K.stTxt s.g s.t s.hd s.y s.l).toArray⟩, .string ⟨#[32]⟩] W fun r w' => r = .returned (.tuple #[.string (K.decB e), .string ⟨(K.stTxt s.g s.t s.hd s.y s.l).toArray⟩, .bool true]) ∧ Below W.heap.size W w') := fun W hW => by
    refine (K.cut_call (K.decI e ++ 32 :: K.stTxt s.g s.t s.hd s.y s.l) 32 W hW hlr).mono ?_
    rintro r w' ⟨rfl, n, rfl⟩
    rw [cut_ktxt]
    exact ⟨rfl, K.below_drN (Below.refl _ _) n⟩
  have HNU : Hid (∀ W, K.Laid W → Calls Tryz.prog 37 #[.string (K.decB e)] W fun r w' => r = .returned (.int .i64 e) ∧ Below W.heap.size W w') := fun W hW => by
    have := K.num_any (K.decB e) (by have := dsz e (by omega); omega) W hW
    rw [show K.numOf (K.decB e) = e from K.num_decI (by omega) (by omega)] at this
    exact this
  have HPA : Hid (∀ W, K.Laid W → Calls Tryz.prog 38 #[.string ⟨(K.stTxt s.g s.t s.hd s.y s.l).toArray⟩] W fun r w' => ∃ a c, r = .returned (.tuple #[.agg (s.vs a c).toArray, .nilIface]) ∧ Go.Proofs.YtfkmaiiainbcbaaGreatDoor.Row w' a s.l.length s.l ∧ (∀ p, a = some p → W.heap.size ≤ p.block) ∧ Below W.heap.size W w') := fun W hW => by
    obtain ⟨g0, g1, g2, g3, g4⟩ := K.st_back s.y (KS.sok HS.out)
    refine (K.rparse_new (K.stTxt s.g s.t s.hd s.y s.l) W hW hls s.g s.t s.hd s.y s.l g0 g1 g2 g3 g4).mono ?_
    rintro r w' ⟨h, hb⟩
    rcases h with ⟨a, c, _, rfl, hr, hn⟩ | ⟨hno, _⟩
    · exact ⟨a, c, rfl, hr, hn, hb⟩
    · exact absurd ⟨HS.out, rfl⟩ hno
  clear a0 bX hL hs hln ht hlr hls
  go_enter Tryz.func24, Tryz.ntmps24
  go_upto_region 1 with fail
  rw [← hX]
  clear hX
  go_wp2_with fail
  refine (HTP.out _).mono ?_
  rintro r W0 ⟨rfl, rfl⟩
  go_wp2_with fail
  refine (HCT.out _ HLd.out).mono ?_
  rintro r W1 ⟨rfl, b1⟩
  replace A0 := A0.later b1 A0.lt
  replace HLd : Hid (K.Laid W1) := HLd.out.later b1
  replace HB : Hid (Below w.heap.size w W1) := HB.out.trans (b1.mono HB.out.size)
  clear b1 HCT HTP
  go_wp2_with fail
  refine (HNU.out _ HLd.out).mono ?_
  rintro r W2 ⟨rfl, b1⟩
  replace A0 := A0.later b1 A0.lt
  replace HLd : Hid (K.Laid W2) := HLd.out.later b1
  replace HB : Hid (Below w.heap.size w W2) := HB.out.trans (b1.mono HB.out.size)
  clear b1 HNU
  go_wp2_with fail
  refine (HPA.out _ HLd.out).mono ?_
  rintro r W3 ⟨a, c, rfl, hr, hn, b1⟩
  have h02 := A0.lt
  have HN2 : Hid (∀ p, a = some p → w.heap.size < p.block) := fun p hp => by have := hn p hp; omega
  replace A0 := A0.later b1 A0.lt
  replace HLd : Hid (K.Laid W3) := HLd.out.later b1
  replace HB : Hid (Below w.heap.size w W3) := HB.out.trans (b1.mono HB.out.size)
  clear b1 HPA hn h02
  obtain ⟨V, hst, A9, bV⟩ := newS s a c W3
  have HST : Hid ((Instr.storeAt 37 (.pointer (some ⟨W3.heap.size, 0, Option.none⟩)) (.agg (s.vs a c).toArray)).run Tryz.prog (W3.alloc (.cells #[.int .i64 0, .slice Option.none 0 0, .int .i64 0, .int .i64 0, .bool false] 37)) = .ok () V) := hst
  have h39 := A0.lt
  replace A0 := A0.later bV A0.lt
  replace HLd : Hid (K.Laid V) := HLd.out.later bV
  replace HB : Hid (Below w.heap.size w V) := HB.out.trans (bV.mono HB.out.size)
  replace hr := hr.later bV
  clear hst bV
  have HIE : Hid (∀ W, Calls Tryz.prog 30 #[.int .i64 e] W fun r w' => r = .returned (.bool true) ∧ w' = W) := fun W => by
    have := isEpoch_any e W
    rw [show (decide (1 ≤ e) && decide (e ≤ 1000000)) = true from by simp; omega] at this
    exact this
  go_wp2_with (with_reducible refine wl_store HST.out rfl rfl ?_)
  obtain ⟨b9, hb9⟩ : ∃ b9, W3.heap.size = b9 := ⟨_, rfl⟩
  rw [hb9] at A9 h39 ⊢
  clear HST hb9
  refine (HIE.out _).mono ?_
  rintro r V0 ⟨rfl, rfl⟩
  have HL9 : Hid ((Instr.loadAt 37 (.pointer (some ⟨b9, 0, Option.none⟩))).run Tryz.prog V0 = .ok (.agg (s.vs a c).toArray) V0) := load_st0 A9
  go_wp2_with (with_reducible refine wl_load HL9.out rfl rfl ?_)
  refine (ktext_any e (by omega) h1 s HS.out a c V0 HLd.out hr).mono ?_
  rintro r V1 ⟨rfl, b1⟩
  rw [HT.out]
  replace A0 := A0.later b1 A0.lt
  replace A9 := A9.later b1 A9.lt
  replace HB : Hid (Below w.heap.size w V1) := HB.out.trans (b1.mono HB.out.size)
  replace hr := hr.later b1
  clear b1 HL9 HIE HLd
  go_upto_region 6 with fail
  refine wp_region_held (S := fun w' => At w' b9 (s.vs a c) 37) (by kernel_rfl) ?_
  have HSS : Hid (At V1.drew b9 (s.vs a c) 37) := A9
  replace A0 : At V1.drew w.heap.size zst 37 := A0
  have hr5 : Go.Proofs.YtfkmaiiainbcbaaGreatDoor.Row V1.drew a s.l.length s.l := hr
  replace HB : Hid (Below w.heap.size w V1.drew) := HB.out.drew
  clear A9 hr
  refine wpAnyH_take (i := 0) (v := .int .i64 e) rfl (by kernel_rfl) (by kernel_rfl) (by kernel_rfl) (fun _ _ _ h => h) (.inl ⟨rfl, fun w' hw' => ?_⟩) HSS.out ?_
  · go_simp
  refine wpAnyH_take (i := 1) (v := .agg (s.vs a c).toArray) rfl (by kernel_rfl) (by kernel_rfl) (by kernel_rfl) (fun _ _ _ h => h) (.inl ⟨rfl, fun w' hw' => ?_⟩) HSS.out ?_
  · exact exec_load (load_st0 hw') rfl
  (try simp [Act.put])
  refine wpAnyH_take (i := 2) (v := .int .i64 e) rfl (by kernel_rfl) (by kernel_rfl) (by kernel_rfl) (fun _ _ _ h => h) (.inl ⟨rfl, fun w' hw' => ?_⟩) HSS.out ?_
  · go_simp
  (try simp [Act.put])
  obtain ⟨V3, hst, A3, hm3⟩ := putS s a c A0 rfl
  have HS3 : Hid (At V3 b9 (s.vs a c) 37) := hm3.at HSS.out (fun e => by have : b9 = w.heap.size := e; omega)
  have HR3 : Hid (Go.Proofs.YtfkmaiiainbcbaaGreatDoor.Row V3 a s.l.length s.l) := row_moved hr5 hm3 (fun p hp _ e => by have := HN2.out p hp; have : p.block = w.heap.size := e; omega)
  have HB3 : Hid (Below w.heap.size w V3) := hm3.below HB.out (fun q hq => by rw [show q = w.heap.size from hq]; exact Nat.le_refl _) HB.out.size
  have HRS : Hid ((Instr.loadAt 37 (.pointer (some ⟨w.heap.size, 0, Option.none⟩))).run Tryz.prog V3 = .ok (.agg (s.vs a c).toArray) V3) := load_st0 A3
  clear hm3 A3 hr5 A0 HB
  refine wpAnyH_all (rs := [3]) (by kernel_rfl) (by simp) ?_
  intro i hi
  obtain rfl : i = 3 := by simpa using hi
  refine wpOp_store hst rfl rfl rfl rfl ⟨HS3.out, ?_⟩
  (try simp [Act.put])
  refine wpAnyH_take (i := 4) (v := .nilIface) rfl (by kernel_rfl) (by kernel_rfl) (by kernel_rfl) (fun _ _ _ h => h) (.inl ⟨rfl, fun w' hw' => ?_⟩) HS3.out ?_
  · go_simp
  (try simp [Act.put])
  refine wpAnyH_done (by kernel_rfl) ?_ _
  (try simp [Act.put])
  clear hst HS3 HSS
  go_wp2_with fail
  refine bodyPost_ret (ret_tct Tryz.results24 rfl HRS.out) rfl ⟨a, c, rfl, HR3.out, ?_, HB3.out⟩
  exact fun p hp => ⟨Nat.le_of_lt (HN2.out p hp), fun hn0 => row_lt HR3.out hn0 p hp⟩
end Go.Proofs.YtfkmaiiainbcbaaGreatDoor.D
