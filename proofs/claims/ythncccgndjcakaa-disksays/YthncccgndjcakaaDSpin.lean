/- What law.same and spins answer. No statement of the seat is proved here. -/
import Derived.Test.YthncccgndjcakaaDTop
namespace Go.Proofs.Ythncccgndjcakaa
open Go.ChangeShapes Go.WideShapes Go.ChangeAt Go.RowKit Go.Deep

theorem assert_errno (f : Int) (w : World) : (Instr.typeAssert (.iface 61 (.int .i64 f)) 27 61 true).run Try.prog w = .ok (.tuple #[.int .i64 f, .bool true]) w := by kernel_rfl
theorem same_any (f : Int) (hf : 0 ≤ f) (w : World) : Calls Try.prog 9 #[errV f, .int .i64 f] w fun e w' => e = .returned (.bool true) ∧ w' = w := by
  by_cases h0 : f = 0
  · subst h0
    rw [show errV 0 = .nilIface from rfl]
    go_enter Try.func9, Try.ntmps9
    go_wp2
    go_ret
    exact ⟨rfl, rfl⟩
  · have h1 : (0 : Int) < f := by omega
    rw [show errV f = .iface 61 (.int .i64 f) from by simp [errV, h0]]
    have hta := assert_errno
    go_enter Try.func9, Try.ntmps9
    go_wp2
    go_ret
    exact ⟨rfl, rfl⟩
set_option maxRecDepth 100000 in
set_option maxHeartbeats 4000000 in
theorem spins_any (w : World) : Calls Try.prog 5 #[] w fun e w' => e = .returned (.bool true) ∧ Below w.heap.size w w' := by
  go_enter Try.func5, Try.ntmps5
  go_wp2_with fail
  refine (new_any w 3 (by decide) (by decide)).mono ?_
  rintro r W1 ⟨b, P, rfl, hd, bw, b1, b2, b3, b4, hsv⟩
  have HF : Hid (∀ q, DF P b q → w.heap.size ≤ q) := by
    show ∀ _, _
    rintro q (rfl | rfl | rfl | rfl | ⟨v, hv, hk⟩)
    · exact b1
    · exact b2
    · exact b3
    · exact b4
    · rw [hsv] at hv
      obtain rfl : v = .slice Option.none 0 0 := (List.mem_replicate.1 hv).2
      simp [Value.ownBlock] at hk
  clear b1 b2 b3 b4 hsv
  have HD : Hid (DAt W1 b 3 (newD 3) P) := hd
  clear hd
  go_wp2_with fail
  refine (write_any HD.out 1 [120, 121] (by decide)).mono ?_
  rintro r W2 ⟨rfl, P2, hd, hm⟩
  have hc1 : Calm (writeD (newD 3) 3 1 [120, 121]) := (Calm.new 3).write 3 1 [120, 121]
  rw [(Calm.new 3).writeF, if_pos (by decide), show errV 0 = .nilIface from rfl]
  have hnow : (writeD (newD 3) 3 1 [120, 121]).now = [zsec, padS [120, 121], zsec] := by
    rw [(Calm.new 3).writeD, if_pos (by decide)]; rfl
  have HF2 : Hid (∀ q, DF P2 b q → w.heap.size ≤ q) := hm.above HF.out bw.size
  replace bw := hm.below bw HF.out bw.size
  obtain ⟨D2, hD2⟩ : ∃ D, D = writeD (newD 3) 3 1 [120, 121] := ⟨_, rfl⟩
  rw [← hD2] at hd hc1 hnow
  have HC2 : Hid (Calm D2) := hc1
  have HN2 : Hid (D2.now = [zsec, padS [120, 121], zsec]) := hnow
  have HD2 : Hid (DAt W2 b 3 D2 P2) := hd
  clear hd hm HF HD hD2 hnow hc1
  go_wp2_with fail
  refine (flush_any HD2.out).mono ?_
  rintro r W3 ⟨rfl, P3, hd, hm⟩
  rw [HC2.out.stepF, show errV 0 = .nilIface from rfl]
  have HF3 : Hid (∀ q, DF P3 b q → w.heap.size ≤ q) := hm.above HF2.out bw.size
  replace bw := hm.below bw HF2.out bw.size
  have hwt := Wants.start (n := 3) 0 HC2.out HD2.out.ok
  have HFN : Hid (readF (resD (flushD D2 3) 3 0) 3 1 = 0 ∧ readS (resD (flushD D2 3) 3 0) 3 1 = ⟨(padS [120, 121]).toArray⟩) := by
    have := hwt.fin (k := 1) (by decide)
    refine ⟨this.1, this.2.trans ?_⟩
    rw [show (flushD D2 3).now = D2.now from by rw [HC2.out.flush]; rfl, HN2.out]; rfl
  obtain ⟨D3, hD3⟩ : ∃ D, D = flushD D2 3 := ⟨_, rfl⟩
  rw [← hD3] at hd HFN
  have HD3 : Hid (DAt W3 b 3 D3 P3) := hd
  clear hd hm HF2 HD2 hD3 hwt HC2 HN2
  go_wp2_with fail
  refine (restart_any HD3.out 0).mono ?_
  rintro r W4 ⟨rfl, P4, hd, hm⟩
  replace bw := hm.below bw HF3.out bw.size
  obtain ⟨D4, hD4⟩ : ∃ D, D = resD D3 3 0 := ⟨_, rfl⟩
  rw [← hD4] at hd HFN
  have HD4 : Hid (DAt W4 b 3 D4 P4) := hd
  clear hd hm hD4 HD3 HF3
  go_wp2_with fail
  refine (read_any HD4.out 1).mono ?_
  rintro r W5 ⟨rfl, rfl⟩
  rw [HFN.out.1, HFN.out.2, show errV 0 = .nilIface from rfl]
  obtain ⟨p, hp, hps, hpx⟩ : ∃ p : ByteArray, (⟨(padS [120, 121]).toArray⟩ : ByteArray) = p ∧ p.size = 64 ∧ p.extract 0 2 = ⟨#[120, 121]⟩ := ⟨_, rfl, by decide, by decide⟩
  rw [hp]
  have hsame := fun w => same_any 0 (by decide) w
  rw [show errV 0 = .nilIface from rfl] at hsame
  have HSM : Hid (∀ w, Calls Try.prog 9 #[.nilIface, .int .i64 0] w fun e w' => e = .returned (.bool true) ∧ w' = w) := hsame
  clear hp hsame HFN
  go_wp2_with fail
  refine (HSM.out _).mono ?_
  rintro r W6 ⟨rfl, rfl⟩
  go_wp2_with fail
  refine (HSM.out _).mono ?_
  rintro r W7 ⟨rfl, rfl⟩
  go_wp2_with fail
  refine (HSM.out _).mono ?_
  rintro r W8 ⟨rfl, rfl⟩
  go_wp2_with fail
  refine (sectors_any HD4.out).mono ?_
  rintro r W9 ⟨rfl, rfl⟩
  go_wp2_with fail
  go_ret
  exact ⟨rfl, bw⟩
end Go.Proofs.Ythncccgndjcakaa
