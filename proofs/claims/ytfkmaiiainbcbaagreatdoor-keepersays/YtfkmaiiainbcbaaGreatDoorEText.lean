/- What keeper.text and keeper.parse answer. No statement of the seat is proved here. -/
import Derived.Test.YtfkmaiiainbcbaaGreatDoorEBase
namespace Go.Proofs.YtfkmaiiainbcbaaGreatDoor.D
open Go.ChangeShapes Go.WideShapes Go.ChangeAt Go.RowKit Go.Deep

theorem cat3 (a b c : List UInt8) : (⟨a.toArray⟩ : ByteArray) ++ ⟨b.toArray⟩ ++ ⟨c.toArray⟩ = ⟨(a ++ (b ++ c)).toArray⟩ := by
  refine ByteArray.ext ?_
  simp [ByteArray.data_append]
theorem dsz (n : Int) (h : n ≤ 1000000000) : (K.decB n).size ≤ 10 := K.decB_len h
set_option maxRecDepth 100000 in
set_option maxHeartbeats 4000000 in
theorem ktext_any (e : Int) (h0 : 0 ≤ e) (h1 : e ≤ 1000000) (s : KS) (hs : s.f = 0) (a : Option Addr) (c : Nat) (w : World) (hL : K.Laid w) (hr : Go.Proofs.YtfkmaiiainbcbaaGreatDoor.Row w a s.l.length s.l) :
    Calls Tryz.prog 39 #[.int .i64 e, .agg (s.vs a c).toArray] w fun r w' => r = .returned (.string ⟨(ktxt e s).toArray⟩) ∧ Below w.heap.size w w' := by
  obtain ⟨X, hX, a0, bX, sX⟩ := one w (.cells (s.vs a c).toArray 37)
  have A0 : At X w.heap.size (s.vs a c) 37 := a0
  have HL : Hid (K.Laid X) := hL.later bX
  have HR : Hid (Go.Proofs.YtfkmaiiainbcbaaGreatDoor.Row X a s.l.length s.l) := hr.later bX
  have HB : Hid (Below w.heap.size w X) := bX
  have HS : Hid (s.f = 0) := hs
  clear a0 bX hL hr hs
  go_enter Tryz.func39, Tryz.ntmps39
  go_upto_region 1 with fail
  rw [← hX]
  clear hX
  obtain ⟨q0, q1, q2, hq1, hq2, hq3, z0, z1, z2⟩ : ∃ q0 q1 q2 : ByteArray, (⟨#[107, 101, 101, 112, 101, 114, 32]⟩ : ByteArray) ++ K.decB e = q0 ∧ q0 ++ (⟨#[32]⟩ : ByteArray) = q1 ∧ q1 ++ ⟨(K.stTxt s.g s.t s.hd s.y s.l).toArray⟩ = q2 ∧ q0.size = 7 + (K.decB e).size ∧ q1.size = 8 + (K.decB e).size ∧ q2 = ⟨(ktxt e s).toArray⟩ := by
    refine ⟨_, _, _, rfl, rfl, rfl, ?_, ?_, ?_⟩
    · rw [ByteArray.size_append]; rfl
    · rw [ByteArray.size_append, ByteArray.size_append]
      show 7 + _ + 1 = _
      omega
    · refine ByteArray.ext ?_
      simp [ByteArray.data_append, ktxt, kpre, K.decB]
  have hd := dsz e (by omega)
  have hst := K.st_len49 s.y (KS.sok HS.out)
  have HZ : Hid (q2 = ⟨(ktxt e s).toArray⟩) := z2
  have HTX : Hid (∀ W, Below X.heap.size X W → Calls Tryz.prog 54 #[.agg (s.vs a c).toArray] W fun r w' => r = .returned (.string ⟨(K.stTxt s.g s.t s.hd s.y s.l).toArray⟩) ∧ Below W.heap.size W w') := fun W hW => K.rtext_ok s.g s.t s.hd s.y a s.l.length c s.l W (HL.out.later hW) (HR.out.later hW) (KS.sok HS.out)
  obtain ⟨d, hdd⟩ : ∃ d, K.decB e = d := ⟨_, rfl⟩
  have HIT : Hid (∀ W, Below X.heap.size X W → Calls Tryz.prog 55 #[.int .i64 e] W fun r w' => r = .returned (.string d) ∧ Below W.heap.size W w') := fun W hW => by rw [← hdd]; exact K.itoa_int e h0 (by omega) W (HL.out.later hW)
  rw [hdd] at hq1 hd z0 z1
  obtain ⟨st, hstd, hsts⟩ : ∃ st : ByteArray, (⟨(K.stTxt s.g s.t s.hd s.y s.l).toArray⟩ : ByteArray) = st ∧ st.size ≤ 49 := ⟨_, rfl, by simpa [ByteArray.size] using hst⟩
  rw [hstd] at hq3 HTX
  clear hdd hstd hst z2
  have k0 : (7 : Int) + (d.size : Int) ≤ 9223372036854775807 := by omega
  have k1 : (q0.size : Int) + 1 ≤ 9223372036854775807 := by omega
  have k2 : (q1.size : Int) + (st.size : Int) ≤ 9223372036854775807 := by omega
  have n0 : 7 + d.size ≤ 9223372036854775807 := by omega
  have n1 : q0.size + 1 ≤ 9223372036854775807 := by omega
  have n2 : q1.size + st.size ≤ 9223372036854775807 := by omega
  clear z0 z1 hd hsts
  refine wp_region_held (S := fun w' => At w' w.heap.size (s.vs a c) 37) (by kernel_rfl) ?_
  have HSS : Hid (At X.drew w.heap.size (s.vs a c) 37) := A0
  have HBX : Hid (Below X.heap.size X X.drew) := (Below.refl _ _).drew
  clear A0
  refine wpAnyH_take (i := 0) (v := .int .i64 e) rfl (by kernel_rfl) (by kernel_rfl) (by kernel_rfl) (fun _ _ _ h => h) (.inl ⟨rfl, fun w' hw' => ?_⟩) HSS.out ?_
  · go_simp
  refine wpAnyH_take (i := 4) (v := .agg (s.vs a c).toArray) rfl (by kernel_rfl) (by kernel_rfl) (by kernel_rfl) (fun _ _ _ h => h) (.inl ⟨rfl, fun w' hw' => ?_⟩) HSS.out ?_
  · exact exec_load (load_st0 hw') rfl
  (try simp [Act.put])
  refine wpAnyH_all (rs := [1]) (by kernel_rfl) (by simp) ?_
  intro i hi
  obtain rfl : i = 1 := by simpa using hi
  refine wpOp_step rfl rfl ?_
  go_wp2_with fail
  refine (HIT.out _ HBX.out).mono ?_
  rintro r W1 ⟨rfl, b1⟩
  have HSW : Hid (At W1 w.heap.size (s.vs a c) 37) := HSS.out.later b1 HSS.out.lt
  have HBW : Hid (Below X.heap.size X W1) := HBX.out.trans b1
  clear b1 HSS HBX
  refine ⟨HSW.out, ?_⟩
  (try simp [Act.put])
  refine wpAnyH_take (i := 2) (v := .string q0) rfl (by kernel_rfl) (by kernel_rfl) (by kernel_rfl) (fun _ _ _ h => h) (.inl ⟨rfl, fun w' hw' => ?_⟩) HSW.out ?_
  · go_simp
  (try simp [Act.put])
  refine wpAnyH_take (i := 3) (v := .string q1) rfl (by kernel_rfl) (by kernel_rfl) (by kernel_rfl) (fun _ _ _ h => h) (.inl ⟨rfl, fun w' hw' => ?_⟩) HSW.out ?_
  · go_simp
  (try simp [Act.put])
  refine wpAnyH_all (rs := [5]) (by kernel_rfl) (by simp) ?_
  intro i hi
  obtain rfl : i = 5 := by simpa using hi
  refine wpOp_step rfl rfl ?_
  go_wp2_with fail
  refine (HTX.out _ HBW.out).mono ?_
  rintro r W2 ⟨rfl, b1⟩
  have HS2 : Hid (At W2 w.heap.size (s.vs a c) 37) := HSW.out.later b1 HSW.out.lt
  have HB2 : Hid (Below w.heap.size w W2) := HB.out.trans ((HBW.out.mono (by omega)).trans (b1.mono (by have := HBW.out.size; omega)))
  clear b1 HSW HBW
  refine ⟨HS2.out, ?_⟩
  (try simp [Act.put])
  refine wpAnyH_take (i := 6) (v := .string q2) rfl (by kernel_rfl) (by kernel_rfl) (by kernel_rfl) (fun _ _ _ h => h) (.inl ⟨rfl, fun w' hw' => ?_⟩) HS2.out ?_
  · go_simp
  (try simp [Act.put])
  refine wpAnyH_take (i := 7) (v := .string q2) rfl (by kernel_rfl) (by kernel_rfl) (by kernel_rfl) (fun _ _ _ h => h) (.inl ⟨rfl, fun w' hw' => ?_⟩) HS2.out ?_
  · go_simp
  (try simp [Act.put])
  refine wpAnyH_done (by kernel_rfl) ?_ _
  (try simp [Act.put])
  clear HS2 HTX HIT
  go_wp2
  go_ret
  exact ⟨by rw [← HZ.out]; rfl, HB2.out⟩
end Go.Proofs.YtfkmaiiainbcbaaGreatDoor.D
