/- A keeper in memory; what Open, Keep, State, Epoch and Format answer. No statement of the seat is proved here. -/
import Derived.Test.YtfkmaiiainbcbaaGreatDoorEStore
namespace Go.Proofs.YtfkmaiiainbcbaaGreatDoor.D
open Go.ChangeShapes Go.WideShapes Go.ChangeAt Go.RowKit Go.Deep

def kpV (b : Nat) (e : Int) (s : KS) (a : Option Addr) (c : Nat) : List Value := .pointer (some ⟨b, 0, Option.none⟩) :: .int .i64 e :: s.vs a c
/-- A keeper in memory. -/
structure KpAt (w : World) (k b : Nat) (e : Int) (s : KS) (a : Option Addr) (c : Nat) : Prop where
  hd : At w k (kpV b e s a c) 70
  row : Go.Proofs.YtfkmaiiainbcbaaGreatDoor.Row w a s.l.length s.l
  ok : s.f = 0
  e1 : 1 ≤ e
  e9 : e ≤ 1000000
theorem KpAt.moved {F F' : Nat → Prop} {w w' : World} {k b : Nat} {e : Int} {s : KS} {a : Option Addr} {c : Nat} (h : KpAt w k b e s a c) (hm : Moved F F' w w') (hk : ¬ F k) (hr : ∀ p, a = some p → s.l.length ≠ 0 → ¬ F p.block) : KpAt w' k b e s a c :=
  ⟨hm.at h.hd hk, row_moved h.row hm hr, h.ok, h.e1, h.e9⟩
theorem KpAt.later {w w' : World} {k b : Nat} {e : Int} {s : KS} {a : Option Addr} {c : Nat} (h : KpAt w k b e s a c) (hb : Below w.heap.size w w') : KpAt w' k b e s a c :=
  ⟨h.hd.later hb h.hd.lt, h.row.later hb, h.ok, h.e1, h.e9⟩
theorem epoch_any {w : World} {k b : Nat} {e : Int} {s : KS} {a : Option Addr} {c : Nat} (h : KpAt w k b e s a c) :
    Calls Tryz.prog 15 #[.pointer (some ⟨k, 0, Option.none⟩)] w fun r w' => r = .returned (.int .i64 e) ∧ w' = w := by
  have c1 : w.cell? ⟨k, 1, Option.none⟩ = some (.int .i64 e) := h.hd.cell 1
  clear h
  go_enter Tryz.func15, Tryz.ntmps15
  go_wp2
  go_ret
  exact ⟨rfl, rfl⟩
set_option maxRecDepth 100000 in
set_option maxHeartbeats 4000000 in
theorem state_any {w : World} {k b : Nat} {e : Int} {s : KS} {a : Option Addr} {c : Nat} (h : KpAt w k b e s a c) :
    Calls Tryz.prog 14 #[.pointer (some ⟨k, 0, Option.none⟩)] w fun r w' => ∃ a' c', r = .returned (.agg (s.vs a' c').toArray) ∧ Go.Proofs.YtfkmaiiainbcbaaGreatDoor.Row w' a' s.l.length s.l ∧ (∀ p, a' = some p → w.heap.size ≤ p.block ∧ p.block < w'.heap.size) ∧ Below w.heap.size w w' := by
  obtain ⟨X, hX, a1, bX, sX⟩ := one w (.cells #[.int .i64 0, .slice Option.none 0 0, .int .i64 0, .int .i64 0, .bool false] 37)
  have A1 : At X w.heap.size zst 37 := a1
  have HK : Hid (KpAt X k b e s a c) := h.later bX
  have HB : Hid (Below w.heap.size w X) := bX
  have HLS : Hid ((Instr.loadAt 37 (.pointer (some ⟨k, 2, Option.none⟩))).run Tryz.prog X = .ok (.agg (s.vs a c).toArray) X) := load_stO HK.out.hd (fun j _ => by rw [Nat.add_comm]; rfl)
  have hln := KS.len HK.out.ok
  clear a1 bX h
  go_enter Tryz.func14, Tryz.ntmps14
  go_upto_region 1 with fail
  rw [← hX]
  clear hX
  go_wp2_with (with_reducible refine wl_load HLS.out rfl rfl ?_)
  refine (kclone_any s a c X HK.out.row (by omega)).mono ?_
  rintro r W1 ⟨a', c', rfl, hr, hq, b1⟩
  have h1 := A1.lt
  replace A1 := A1.later b1 A1.lt
  replace HB : Hid (Below w.heap.size w W1) := HB.out.trans (b1.mono HB.out.size)
  have hs1 := b1.size
  clear b1 HLS HK
  obtain ⟨V3, hst, A3, hm3⟩ := putS s a' c' A1 rfl
  have HST : Hid ((Instr.storeAt 37 (.pointer (some ⟨w.heap.size, 0, Option.none⟩)) (.agg (s.vs a' c').toArray)).run Tryz.prog W1 = .ok () V3) := hst
  have HB3 : Hid (Below w.heap.size w V3) := hm3.below HB.out (fun q hq => by rw [show q = w.heap.size from hq]; exact Nat.le_refl _) HB.out.size
  have HR3 : Hid (Go.Proofs.YtfkmaiiainbcbaaGreatDoor.Row V3 a' s.l.length s.l) := row_moved hr hm3 (fun p hp _ e => by have := (hq p hp).1; have : p.block = w.heap.size := e; omega)
  have HRS : Hid ((Instr.loadAt 37 (.pointer (some ⟨w.heap.size, 0, Option.none⟩))).run Tryz.prog V3 = .ok (.agg (s.vs a' c').toArray) V3) := load_st0 A3
  have hs3 := hm3.size
  clear hm3 A3 A1 HB hst hr
  go_wp2_with (with_reducible refine wl_store HST.out rfl rfl ?_)
  refine bodyPost_ret (ret_one Tryz.results14 rfl HRS.out) rfl ⟨a', c', rfl, HR3.out, fun p hp => ?_, HB3.out⟩
  have := hq p hp
  omega
theorem build_kp (b : Nat) (e : Int) (s : KS) (a : Option Addr) (c : Nat) (w : World) : (Instr.build 70 #[(0, .pointer (some ⟨b, 0, Option.none⟩)), (1, .int .i64 e), (2, .agg (s.vs a c).toArray)]).run Tryz.prog w = .ok (.agg (kpV b e s a c).toArray) w := by kernel_rfl
theorem wp_boxT {T : TypeId} {o : Oper} {a : Act} {w : World} {K : Act → World → Prop} {Q : Exit → Act → World → Prop} (x : Operand) (ho : o.op = .box T x) (l : List Value) (hx : a.eval x = .agg l.toArray)
    (h : ∀ W, At W w.heap.size l T → Below w.heap.size w W → W.heap.size = w.heap.size + 1 → K (a.put o.dst (.pointer (some ⟨w.heap.size, 0, Option.none⟩))) W) : o.wp Tryz.prog a w K Q := by
  unfold Oper.wp execOp
  simp only [ho, hx, Sem.run_bind, Instr.box, newVar, newRow, run_newObj_alloc, Sem.run_pure, Result.andThen_ok]
  exact h _ (heap_alloc_new w _) ((Below.refl _ _).alloc (Nat.le_refl _) _) (by simp)
theorem pad_is {x : List UInt8} (_ : x.length ≤ 64) : padS x = x ++ List.replicate (64 - x.length) 0 := rfl
set_option maxRecDepth 100000 in
set_option maxHeartbeats 8000000 in
theorem open_ok {w : World} {b n : Nat} {D : DM} {P : DP} (h : DAt w b n D P) (hdn : D.down = false) (e : Int) (s : KS) (hs : s.f = 0) (h1 : 1 ≤ e) (h9 : e ≤ 1000000) (hk : D.now.getD 0 [] = padS (ktxt e s)) (hL : K.Laid w) :
    Calls Tryz.prog 9 #[.pointer (some ⟨b, 0, Option.none⟩)] w fun r w' => ∃ k a c, r = .returned (.tuple #[.pointer (some ⟨k, 0, Option.none⟩), .nilIface]) ∧ KpAt w' k b e s a c ∧ Below w.heap.size w w' ∧ w.heap.size ≤ k ∧ (∀ p, a = some p → w.heap.size ≤ p.block ∧ (s.l.length ≠ 0 → p.block ≠ k)) := by
  have hn1 := h.ok.n1
  have HRD : Hid (Calls Tryz.prog 23 #[.pointer (some ⟨b, 0, Option.none⟩), .int .i64 0] w fun r w' => r = .returned (.tuple #[.string ⟨(ktxt e s ++ List.replicate (64 - (ktxt e s).length) 0).toArray⟩, .nilIface]) ∧ w' = w) := by
    have := read_any h 0
    have e1 : readF D n 0 = 0 := by unfold readF; rw [hdn, if_neg (by simp), if_pos]; simp [hasD]; omega
    rw [e1, show errV 0 = .nilIface from rfl] at this
    have e2 : readS D n 0 = ⟨(ktxt e s ++ List.replicate (64 - (ktxt e s).length) 0).toArray⟩ := by
      unfold readS
      rw [e1, if_pos rfl, show (0 : Int).toNat = 0 from rfl, hk]; rfl
    rw [e2] at this
    exact this
  have hln := ktxt_len h9 hs
  have HTR : Hid (∀ W, Calls Tryz.prog 25 #[.string ⟨(ktxt e s ++ List.replicate (64 - (ktxt e s).length) 0).toArray⟩, .string ⟨#[0]⟩] W fun r w' => r = .returned (.string ⟨(ktxt e s).toArray⟩) ∧ w' = W) := fun W => trimRight_any _ _ (fun c hc => ktxt_nz e s c (List.mem_of_getLast? hc)) (by omega) (by omega) W
  have HPA : Hid (∀ W, K.Laid W → Calls Tryz.prog 24 #[.string ⟨(ktxt e s).toArray⟩] W fun r w' => ∃ a c, r = .returned (.tuple #[.int .i64 e, .agg (s.vs a c).toArray, .nilIface]) ∧ Go.Proofs.YtfkmaiiainbcbaaGreatDoor.Row w' a s.l.length s.l ∧ (∀ p, a = some p → W.heap.size ≤ p.block ∧ (s.l.length ≠ 0 → p.block < w'.heap.size)) ∧ Below W.heap.size W w') := fun W hW => kparse_ok e h1 h9 s hs W hW
  have HL : Hid (K.Laid w) := hL
  have HS : Hid (s.f = 0 ∧ 1 ≤ e ∧ e ≤ 1000000) := ⟨hs, h1, h9⟩
  obtain ⟨q0, hq0⟩ : ∃ q, (⟨(ktxt e s ++ List.replicate (64 - (ktxt e s).length) 0).toArray⟩ : ByteArray) = q := ⟨_, rfl⟩
  obtain ⟨q1, hq1⟩ : ∃ q, (⟨(ktxt e s).toArray⟩ : ByteArray) = q := ⟨_, rfl⟩
  rw [hq0] at HRD HTR
  rw [hq1] at HTR HPA
  clear hq0 hq1 hk hL hs h1 h9 hln hn1 h hdn
  go_enter Tryz.func9, Tryz.ntmps9
  go_wp2_with fail
  refine HRD.out.mono ?_
  rintro r W0 ⟨rfl, rfl⟩
  go_wp2_with fail
  refine (HTR.out _).mono ?_
  rintro r W1 ⟨rfl, rfl⟩
  go_wp2_with fail
  refine (HPA.out _ HL.out).mono ?_
  rintro r W2 ⟨a, c, rfl, hr, hn, b1⟩
  obtain ⟨V, hst, A9, bV⟩ := newS s a c W2
  have HST : Hid ((Instr.storeAt 37 (.pointer (some ⟨W2.heap.size, 0, Option.none⟩)) (.agg (s.vs a c).toArray)).run Tryz.prog (W2.alloc (.cells #[.int .i64 0, .slice Option.none 0 0, .int .i64 0, .int .i64 0, .bool false] 37)) = .ok () V) := hst
  have HLD : Hid ((Instr.loadAt 37 (.pointer (some ⟨W2.heap.size, 0, Option.none⟩))).run Tryz.prog V = .ok (.agg (s.vs a c).toArray) V) := load_st0 A9
  have HB : Hid (Below W1.heap.size W1 V) := b1.trans (bV.mono b1.size)
  have HR : Hid (Go.Proofs.YtfkmaiiainbcbaaGreatDoor.Row V a s.l.length s.l) := hr.later bV
  have h12 := b1.size
  have h2V := bV.size
  have HN : Hid (∀ p, a = some p → W1.heap.size ≤ p.block ∧ (s.l.length ≠ 0 → p.block < V.heap.size)) := fun p hp => ⟨(hn p hp).1, fun h0 => by have := (hn p hp).2 h0; omega⟩
  have HBK : Hid ((Instr.build 70 #[(0, .pointer (some ⟨b, 0, Option.none⟩)), (1, .int .i64 e), (2, .agg (s.vs a c).toArray)]).run Tryz.prog V = .ok (.agg (kpV b e s a c).toArray) V) := build_kp b e s a c V
  clear hst A9 bV hr hn b1 HPA HTR HRD HL
  go_upto_region 7 with (with_reducible refine wl_store HST.out rfl rfl ?_)
  clear HST
  go_wp2_with (first | (with_reducible refine wl_load HLD.out rfl rfl ?_) | (with_reducible refine wl_build HBK.out (by simp [Act.eval, Act.put]) ?_) | (refine wpList_plain rfl fun K hK => wp_boxT _ rfl (kpV b e s a c) rfl fun W A bb ss => hK _ _ ?_))
  go_ret2
  have h1W := bb.size
  refine ⟨V.heap.size, a, c, rfl, ⟨A, HR.out.later bb, HS.out.1, HS.out.2.1, HS.out.2.2⟩, HB.out.trans (bb.mono HB.out.size), HB.out.size, fun p hp => ⟨(HN.out p hp).1, fun h0 e => ?_⟩⟩
  have := (HN.out p hp).2 h0
  omega
theorem open_down {w : World} {b n : Nat} {D : DM} {P : DP} (h : DAt w b n D P) (hdn : D.down = true) :
    Calls Tryz.prog 9 #[.pointer (some ⟨b, 0, Option.none⟩)] w fun r w' => r = .returned (.tuple #[.pointer Option.none, errV 10]) ∧ w' = w := by
  have HRD : Hid (Calls Tryz.prog 23 #[.pointer (some ⟨b, 0, Option.none⟩), .int .i64 0] w fun r w' => r = .returned (.tuple #[.string ⟨#[]⟩, .iface 58 (.int .i64 10)]) ∧ w' = w) := by
    have := read_any h 0
    have e1 : readF D n 0 = 10 := by unfold readF; rw [hdn, if_pos rfl]
    have e2 : readS D n 0 = ⟨#[]⟩ := by unfold readS; rw [e1]; rfl
    rw [e1, e2] at this
    exact this
  clear h hdn
  go_enter Tryz.func9, Tryz.ntmps9
  go_wp2_with fail
  refine HRD.out.mono ?_
  rintro r W0 ⟨rfl, rfl⟩
  go_wp2
  go_ret2
  exact ⟨rfl, rfl⟩
set_option maxRecDepth 100000 in
set_option maxHeartbeats 4000000 in
theorem open_nil {w : World} {b n : Nat} {D : DM} {P : DP} (h : DAt w b n D P) (hdn : D.down = false) (hk : D.now.getD 0 [] = zsec) (hL : K.Laid w) :
    Calls Tryz.prog 9 #[.pointer (some ⟨b, 0, Option.none⟩)] w fun r w' => r = .returned (.tuple #[.pointer Option.none, errV 3]) ∧ Below w.heap.size w w' := by
  have hn1 := h.ok.n1
  have HRD : Hid (Calls Tryz.prog 23 #[.pointer (some ⟨b, 0, Option.none⟩), .int .i64 0] w fun r w' => r = .returned (.tuple #[.string ⟨([] ++ List.replicate 64 (0 : UInt8)).toArray⟩, .nilIface]) ∧ w' = w) := by
    have := read_any h 0
    have e1 : readF D n 0 = 0 := by unfold readF; rw [hdn, if_neg (by simp), if_pos]; simp [hasD]; omega
    rw [e1, show errV 0 = .nilIface from rfl] at this
    have e2 : readS D n 0 = ⟨([] ++ List.replicate 64 (0 : UInt8)).toArray⟩ := by
      unfold readS
      rw [e1, if_pos rfl, show (0 : Int).toNat = 0 from rfl, hk]; rfl
    rw [e2] at this
    exact this
  have HTR : Hid (∀ W, Calls Tryz.prog 25 #[.string ⟨([] ++ List.replicate 64 (0 : UInt8)).toArray⟩, .string ⟨#[0]⟩] W fun r w' => r = .returned (.string ⟨#[]⟩) ∧ w' = W) := fun W => trimRight_any [] 64 (by simp) (by simp) (by decide) W
  have HL : Hid (K.Laid w) := hL
  obtain ⟨q0, hq0⟩ : ∃ q, (⟨([] ++ List.replicate 64 (0 : UInt8)).toArray⟩ : ByteArray) = q := ⟨_, rfl⟩
  rw [hq0] at HRD HTR
  clear hq0 hk hL h hdn hn1
  go_enter Tryz.func9, Tryz.ntmps9
  go_wp2_with fail
  refine HRD.out.mono ?_
  rintro r W0 ⟨rfl, rfl⟩
  go_wp2_with fail
  refine (HTR.out _).mono ?_
  rintro r W1 ⟨rfl, rfl⟩
  go_wp2_with fail
  refine (kparse_nil _ HL.out).mono ?_
  rintro r W2 ⟨rfl, b1⟩
  rw [show errV 3 = .iface 58 (.int .i64 3) from rfl]
  obtain ⟨V, hst, A9, bV⟩ := newS KS.none Option.none 0 W2
  have HST : Hid ((Instr.storeAt 37 (.pointer (some ⟨W2.heap.size, 0, Option.none⟩)) (.agg #[.int .i64 0, .slice Option.none 0 0, .int .i64 0, .int .i64 0, .bool false])).run Tryz.prog (W2.alloc (.cells #[.int .i64 0, .slice Option.none 0 0, .int .i64 0, .int .i64 0, .bool false] 37)) = .ok () V) := hst
  have HB : Hid (Below W1.heap.size W1 V) := b1.trans (bV.mono b1.size)
  clear hst A9 bV b1 HRD HTR HL
  go_wp2_with (with_reducible refine wl_store HST.out rfl rfl ?_)
  go_ret2
  exact ⟨rfl, HB.out⟩
theorem KS.none_ok : KS.none.f = 0 := by decide
set_option maxRecDepth 100000 in
set_option maxHeartbeats 4000000 in
theorem format_any {w : World} {b n : Nat} {D : DM} {P : DP} (h : DAt w b n D P) (hL : K.Laid w) :
    Calls Tryz.prog 10 #[.pointer (some ⟨b, 0, Option.none⟩)] w fun r w' => (r = .returned (errV (if n < 6 then 6 else storeF D n (ktxt 1 KS.none)))) ∧ ∃ P', DAt w' b n (if n < 6 then D else storeD D n (ktxt 1 KS.none)) P' ∧ Moved (DF P b) (DF P' b) w w' := by
  have HD : Hid (DAt w b n D P) := h
  have HL : Hid (K.Laid w) := hL
  have HSC : Hid (Calls Tryz.prog 26 #[.pointer (some ⟨b, 0, Option.none⟩)] w fun r w' => r = .returned (.int .i64 n) ∧ w' = w) := sectors_any h
  clear h hL
  by_cases h6 : n < 6
  · have h6' : (n : Int) < 6 := by omega
    rw [if_pos h6, if_pos h6, show errV 6 = .iface 58 (.int .i64 6) from rfl]
    go_enter Tryz.func10, Tryz.ntmps10
    go_wp2_with fail
    refine HSC.out.mono ?_
    rintro r W1 ⟨rfl, rfl⟩
    go_wp2
    go_ret
    exact ⟨rfl, P, HD.out, Moved.refl _ _⟩
  · have h6' : ¬ (n : Int) < 6 := by omega
    rw [if_neg h6, if_neg h6]
    clear h6
    go_enter Tryz.func10, Tryz.ntmps10
    go_wp2_with fail
    refine HSC.out.mono ?_
    rintro r W1 ⟨rfl, rfl⟩
    go_wp2_with fail
    refine (store_any HD.out 1 (by decide) (by decide) KS.none KS.none_ok Option.none 0 HL.out (Go.Proofs.YtfkmaiiainbcbaaGreatDoor.row_nil W1)).mono ?_
    rintro r W2 ⟨rfl, P2, hd, hm⟩
    have HD2 : Hid (DAt W2 b n (storeD D n (ktxt 1 KS.none)) P2) := hd
    have HM2 : Hid (Moved (DF P b) (DF P2 b) W1 W2) := hm
    clear hd hm HD
    obtain ⟨ev, hev⟩ : ∃ ev, ev = errV (storeF D n (ktxt 1 KS.none)) := ⟨_, rfl⟩
    rw [← hev]
    have HE : Hid (ev = errV (storeF D n (ktxt 1 KS.none))) := hev
    clear hev
    go_wp2_with fail
    go_ret
    exact ⟨by rw [← HE.out]; rfl, P2, HD2.out, HM2.out⟩
end Go.Proofs.YtfkmaiiainbcbaaGreatDoor.D
