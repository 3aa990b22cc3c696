/- What keeper.parse answers of nothing; what keeper.store and keeper.Format answer. No statement of the seat is proved here. -/
import Derived.Test.YtfkmaiiainbcbaaGreatDoorEParse
import Derived.Test.YtfkmaiiainbcbaaGreatDoorDTop
namespace Go.Proofs.YtfkmaiiainbcbaaGreatDoor.D
open Go.ChangeShapes Go.WideShapes Go.ChangeAt Go.RowKit Go.Deep

theorem st_ne (g t hd : Int) (y : Bool) (l : List (Int × Int)) : K.stTxt g t hd y l ≠ [] := by
  have hj : K.stTxt g t hd y l = Go.Proofs.YtfkmaiiainbcbaaGreatDoor.joinW ((K.stWords g t hd y l).map (·.data.toList)) := rfl
  rw [hj, K.stW_list, Go.Proofs.YtfkmaiiainbcbaaGreatDoor.joinW_cons]
  simp
set_option maxRecDepth 100000 in
set_option maxHeartbeats 8000000 in
theorem kparse_nil (w : World) (hL : K.Laid w) :
    Calls Tryz.prog 24 #[.string ⟨#[]⟩] w fun r w' => r = .returned (.tuple #[.int .i64 0, .agg #[.int .i64 0, .slice Option.none 0 0, .int .i64 0, .int .i64 0, .bool false], errV 3]) ∧ Below w.heap.size w w' := by
  obtain ⟨X, hX, a0, bX, sX⟩ := one w (.cells #[.int .i64 0, .slice Option.none 0 0, .int .i64 0, .int .i64 0, .bool false] 37)
  have A0 : At X w.heap.size zst 37 := a0
  have HLd : Hid (K.Laid X) := hL.later bX
  have HB : Hid (Below w.heap.size w X) := bX
  have HCT : Hid (∀ W, K.Laid W → Calls Tryz.prog 35 #[.string ⟨#[]⟩, .string ⟨#[32]⟩] W fun r w' => r = .returned (.tuple #[.string ⟨#[]⟩, .string ⟨#[]⟩, .bool false]) ∧ Below W.heap.size W w') := fun W hW => by
    refine (K.cut_call [] 32 W hW (by simp)).mono ?_
    rintro r w' ⟨rfl, n, rfl⟩
    exact ⟨rfl, K.below_drN (Below.refl _ _) n⟩
  have HNU : Hid (∀ W, K.Laid W → Calls Tryz.prog 37 #[.string ⟨#[]⟩] W fun r w' => (∃ v, r = .returned (.int .i64 v)) ∧ Below W.heap.size W w') := fun W hW => by
    refine (K.num_any ⟨#[]⟩ (by decide) W hW).mono ?_
    rintro r w' ⟨rfl, hb⟩
    exact ⟨⟨_, rfl⟩, hb⟩
  have HPA : Hid (∀ W, K.Laid W → Calls Tryz.prog 38 #[.string ⟨#[]⟩] W fun r w' => r = .returned (.tuple #[.agg #[.int .i64 0, .slice Option.none 0 0, .int .i64 0, .int .i64 0, .bool false], .iface 58 (.int .i64 3)]) ∧ Below W.heap.size W w') := fun W hW => by
    refine (K.rparse_new [] W hW (by simp) _ _ _ _ _ rfl rfl rfl rfl rfl).mono ?_
    rintro r w' ⟨h, hb⟩
    rcases h with ⟨a, c, h1, _⟩ | ⟨_, rfl⟩
    · exact absurd h1.2 (st_ne _ _ _ _ _)
    · exact ⟨rfl, hb⟩
  clear a0 bX hL
  go_enter Tryz.func24, Tryz.ntmps24
  go_upto_region 1 with fail
  rw [← hX]
  clear hX
  go_wp2_with fail
  refine (trimPre_none X).mono ?_
  rintro r W0 ⟨rfl, rfl⟩
  go_wp2_with fail
  refine (HCT.out _ HLd.out).mono ?_
  rintro r W1 ⟨rfl, b1⟩
  replace A0 := A0.later b1 A0.lt
  replace HLd : Hid (K.Laid W1) := HLd.out.later b1
  replace HB : Hid (Below w.heap.size w W1) := HB.out.trans (b1.mono HB.out.size)
  clear b1 HCT
  go_wp2_with fail
  refine (HNU.out _ HLd.out).mono ?_
  rintro r W2 ⟨⟨v, rfl⟩, b1⟩
  replace A0 := A0.later b1 A0.lt
  replace HLd : Hid (K.Laid W2) := HLd.out.later b1
  replace HB : Hid (Below w.heap.size w W2) := HB.out.trans (b1.mono HB.out.size)
  clear b1 HNU
  go_wp2_with fail
  refine (HPA.out _ HLd.out).mono ?_
  rintro r W3 ⟨rfl, b1⟩
  replace A0 := A0.later b1 A0.lt
  replace HB : Hid (Below w.heap.size w W3) := HB.out.trans (b1.mono HB.out.size)
  clear b1 HPA HLd
  go_upto_region 4 with fail
  obtain ⟨V, hV, _, bV, _⟩ := one W3 (.cells #[.int .i64 0, .slice Option.none 0 0, .int .i64 0, .int .i64 0, .bool false] 37)
  rw [← hV]
  replace A0 := A0.later bV A0.lt
  replace HB : Hid (Below w.heap.size w V) := HB.out.trans (bV.mono HB.out.size)
  clear hV bV
  obtain ⟨V3, hst, A3, hm3⟩ := putS KS.none Option.none 0 A0 rfl
  have HB3 : Hid (Below w.heap.size w V3) := hm3.below HB.out (fun q hq => by rw [show q = w.heap.size from hq]; exact Nat.le_refl _) HB.out.size
  have HST : Hid ((Instr.storeAt 37 (.pointer (some ⟨w.heap.size, 0, Option.none⟩)) (.agg #[.int .i64 0, .slice Option.none 0 0, .int .i64 0, .int .i64 0, .bool false])).run Tryz.prog V = .ok () V3) := hst
  have HRS : Hid ((Instr.loadAt 37 (.pointer (some ⟨w.heap.size, 0, Option.none⟩))).run Tryz.prog V3 = .ok (.agg (KS.none.vs Option.none 0).toArray) V3) := load_st0 A3
  clear hm3 A3 A0 HB hst
  go_wp2_with (with_reducible refine wl_store HST.out rfl rfl ?_)
  refine bodyPost_ret (ret_tct Tryz.results24 rfl HRS.out) rfl ⟨rfl, HB3.out⟩

def storeF (D : DM) (n : Nat) (x : List UInt8) : Int := if writeF D n 0 x = 0 then stepF (writeD D n 0 x) else writeF D n 0 x
def storeD (D : DM) (n : Nat) (x : List UInt8) : DM := if writeF D n 0 x = 0 then flushD (writeD D n 0 x) n else writeD D n 0 x
set_option maxRecDepth 100000 in
set_option maxHeartbeats 8000000 in
theorem store_any {w : World} {b n : Nat} {D : DM} {P : DP} (h : DAt w b n D P) (e : Int) (h0 : 0 ≤ e) (h1 : e ≤ 1000000) (s : KS) (hs : s.f = 0) (a : Option Addr) (c : Nat) (hL : K.Laid w) (hr : Go.Proofs.YtfkmaiiainbcbaaGreatDoor.Row w a s.l.length s.l) :
    Calls Tryz.prog 27 #[.pointer (some ⟨b, 0, Option.none⟩), .int .i64 e, .agg (s.vs a c).toArray] w fun r w' => r = .returned (errV (storeF D n (ktxt e s))) ∧ ∃ P', DAt w' b n (storeD D n (ktxt e s)) P' ∧ Moved (DF P b) (DF P' b) w w' := by
  obtain ⟨X, hX, a0, bX, sX⟩ := one w (.cells (s.vs a c).toArray 37)
  have A0 : At X w.heap.size (s.vs a c) 37 := a0
  have HL : Hid (K.Laid X) := hL.later bX
  have HR : Hid (Go.Proofs.YtfkmaiiainbcbaaGreatDoor.Row X a s.l.length s.l) := hr.later bX
  have HS : Hid (s.f = 0) := hs
  have HD : Hid (DAt X b n D P) := h.later bX (Nat.le_refl _)
  have HM : Hid (Moved (DF P b) (DF P b) w X) := Moved.of bX (Nat.le_refl _)
  have HLN : Hid ((ktxt e s).length ≤ 64) := ktxt_len h1 hs
  clear a0 bX hL hr hs h
  have HLS : Hid ((Instr.loadAt 37 (.pointer (some ⟨w.heap.size, 0, Option.none⟩))).run Tryz.prog X = .ok (.agg (s.vs a c).toArray) X) := load_st0 A0
  go_enter Tryz.func27, Tryz.ntmps27
  go_upto_region 1 with fail
  rw [← hX]
  clear hX
  go_wp2_with (with_reducible refine wl_load HLS.out rfl rfl ?_)
  refine (ktext_any e h0 h1 s HS.out a c X HL.out HR.out).mono ?_
  rintro r W1 ⟨rfl, b1⟩
  replace HD : Hid (DAt W1 b n D P) := HD.out.later b1 (Nat.le_refl _)
  replace HM : Hid (Moved (DF P b) (DF P b) w W1) := HM.out.trans (Moved.of b1 (Nat.le_refl _))
  clear b1 HLS HL HR A0
  go_wp2_with fail
  refine (write_any HD.out 0 (ktxt e s) (by have := HLN.out; omega)).mono ?_
  rintro r W2 ⟨rfl, P2, hd, hm⟩
  have HD2 : Hid (DAt W2 b n (writeD D n 0 (ktxt e s)) P2) := hd
  have HM2 : Hid (Moved (DF P b) (DF P2 b) w W2) := HM.out.trans hm
  clear hd hm HD HM
  by_cases hf : writeF D n 0 (ktxt e s) = 0
  · have HF : Hid (storeF D n (ktxt e s) = stepF (writeD D n 0 (ktxt e s))) := by show _ = _; unfold storeF; rw [if_pos hf]
    have HG : Hid (storeD D n (ktxt e s) = flushD (writeD D n 0 (ktxt e s)) n) := by show _ = _; unfold storeD; rw [if_pos hf]
    rw [hf, show errV 0 = .nilIface from rfl]
    clear hf
    obtain ⟨D2, hD2⟩ : ∃ x, x = writeD D n 0 (ktxt e s) := ⟨_, rfl⟩
    rw [← hD2] at HD2 HF HG
    clear hD2
    go_wp2_with fail
    refine (flush_any HD2.out).mono ?_
    rintro r W3 ⟨rfl, P3, hd, hm⟩
    have HD3 : Hid (DAt W3 b n (flushD D2 n) P3) := hd
    have HM3 : Hid (Moved (DF P b) (DF P3 b) w W3) := HM2.out.trans hm
    clear hd hm HD2 HM2
    go_wp2_with fail
    go_ret
    exact ⟨by rw [HF.out]; rfl, P3, by rw [HG.out]; exact HD3.out, HM3.out⟩
  · have HF : Hid (storeF D n (ktxt e s) = writeF D n 0 (ktxt e s)) := by show _ = _; unfold storeF; rw [if_neg hf]
    have HG : Hid (storeD D n (ktxt e s) = writeD D n 0 (ktxt e s)) := by show _ = _; unfold storeD; rw [if_neg hf]
    have HE : Hid (errV (writeF D n 0 (ktxt e s)) = .iface 58 (.int .i64 (writeF D n 0 (ktxt e s)))) := by show _ = _; simp [errV, hf]
    rw [HE.out]
    clear hf
    generalize writeF D n 0 (ktxt e s) = ff at *
    go_wp2_with fail
    go_ret
    exact ⟨by rw [HF.out, HE.out]; rfl, P2, by rw [HG.out]; exact HD2.out, HM2.out⟩
end Go.Proofs.YtfkmaiiainbcbaaGreatDoor.D
