/- The walk of KeeperSays. No statement of the seat is proved here. -/
import Derived.Test.YtfkmaiiainbcbaaGreatDoorKeepM
import Derived.Test.YtfkmaiiainbcbaaGreatDoorSFault
import Derived.Test.YtfkmaiiainbcbaaGreatDoorFacts
namespace Go.Proofs.YtfkmaiiainbcbaaGreatDoor.D
open Go.ChangeShapes Go.WideShapes Go.ChangeAt Go.RowKit Go.Deep

theorem sameE_any (f : Int) (hf : 0 ≤ f) (w : World) : Calls Tryz.prog 8 #[errV f, .int .i64 f] w fun e w' => e = .returned (.bool true) ∧ w' = w := by
  by_cases h0 : f = 0
  · subst h0
    rw [show errV 0 = .nilIface from rfl]
    go_enter Tryz.func8, Tryz.ntmps8
    go_wp2
    go_ret
    exact ⟨rfl, rfl⟩
  · have h1 : (0 : Int) < f := by omega
    rw [show errV f = .iface 58 (.int .i64 f) from by simp [errV, h0]]
    have hta := Go.Proofs.YtfkmaiiainbcbaaGreatDoor.assert_errno
    go_enter Tryz.func8, Tryz.ntmps8
    go_wp2
    go_ret
    exact ⟨rfl, rfl⟩
theorem newE_bad (w : World) (n : Int) (hn : n < 1 ∨ 40 < n) :
    Calls Tryz.prog 7 #[.int .i64 n] w fun e w' => e = .returned (.tuple #[.pointer Option.none, errV 1]) ∧ w' = w := by
  by_cases h1 : n < 1
  · clear hn
    go_enter Tryz.func7, Tryz.ntmps7
    go_wp2
    go_ret2
    exact ⟨rfl, rfl⟩
  · have h2 : 40 < n := by omega
    clear hn
    go_enter Tryz.func7, Tryz.ntmps7
    go_wp2
    go_ret2
    exact ⟨rfl, rfl⟩
set_option maxRecDepth 100000 in
set_option maxHeartbeats 8000000 in
theorem keepers_any (w : World) (hL : K.Laid w) :
    Calls Tryz.prog 5 #[] w fun r w' => r = .returned (.bool true) ∧ Below w.heap.size w w' := by
  have HL : Hid (K.Laid w) := hL
  clear hL
  go_enter Tryz.func5, Tryz.ntmps5
  go_wp2_with fail
  refine (kept_any w HL.out).mono ?_
  rintro r W1 ⟨b, k, a0, c0, D, P, rfl, hk, hc, hca⟩
  have hki := keepF_is (D := D) (n := 10) (e := 5) (s := sGen 3) ⟨by decide, by decide⟩ (sGen_ok (by decide) (by decide))
  have hsc := store_calm (n := 10) hca hk.d.ok (ktxt 5 (sGen 3)) (ktxt_len (by decide) (sGen_ok (by decide) (by decide)))
  have hsk := store_ck hc hk.d.ok (ktxt 5 (sGen 3)) (ktxt_len (by decide) (sGen_ok (by decide) (by decide)))
  have HK1 : Hid (Kp w W1 k b 10 1 KS.none a0 c0 D P) := hk
  have HF : Hid (keepF D 10 5 (sGen 3) = 0) := by show _ = _; rw [hki.1]; exact hsc.1
  have HS : Hid (keepS D 10 1 KS.none 5 (sGen 3) = (5, sGen 3)) := by show _ = _; unfold keepS; rw [HF.out, if_pos rfl]
  have HC1 : Hid (Ck (keepD D 10 5 (sGen 3)) (padS (ktxt 5 (sGen 3)))) := by
    show Ck _ _
    rw [hki.2]
    rcases hsk with ⟨_, h⟩ | ⟨h, _⟩
    · exact h
    · rw [hsc.1] at h; exact absurd h (by decide)
  clear hk hc hca hki hsc hsk
  go_wp2_with fail
  refine (epoch_any HK1.out.kp).mono ?_
  rintro r W1' ⟨rfl, rfl⟩
  go_wp2_with fail
  refine (keep_any HK1.out HL.out 5 (sGen 3) Option.none 0 (Go.Proofs.YtfkmaiiainbcbaaGreatDoor.row_nil w) (by decide)).mono ?_
  rintro r W2 ⟨rfl, P2, a2, c2, hk, _⟩
  rw [HF.out, show errV 0 = .nilIface from rfl]
  rw [HS.out] at hk
  obtain ⟨D7, hD7⟩ : ∃ x, x = keepD D 10 5 (sGen 3) := ⟨_, rfl⟩
  rw [← hD7] at hk HC1
  have HK7 : Hid (Dk w W2 b 10 D7 P2) := hk.dk
  clear hk HK1 HF HS hD7
  go_wp2_with fail
  refine (open_fine HK7.out 5 (sGen 3) (sGen_ok (by decide) (by decide)) ⟨by decide, by decide⟩ HC1.out HL.out).mono ?_
  rintro r Y2 ⟨k8, a8, c8, rfl, hk, _, _⟩
  have HK8 : Hid (Kp w Y2 k8 b 10 5 (sGen 3) a8 c8 D7 P2) := hk
  clear hk HK7 HC1
  go_wp2_with fail
  refine (state_any HK8.out.kp).mono ?_
  rintro r Y3 ⟨a9, c9, rfl, _, _, hb⟩
  have HK9 : Hid (Kp w Y3 k8 b 10 5 (sGen 3) a8 c8 D7 P2) := HK8.out.later hb
  obtain ⟨V, hst, A9, bV⟩ := newS (sGen 3) a9 c9 Y3
  have HST : Hid ((Instr.storeAt 37 (.pointer (some ⟨Y3.heap.size, 0, Option.none⟩)) (.agg ((sGen 3).vs a9 c9).toArray)).run Tryz.prog (Y3.alloc (.cells #[.int .i64 0, .slice Option.none 0 0, .int .i64 0, .int .i64 0, .bool false] 37)) = .ok () V) := hst
  have HKV : Hid (Kp w V k8 b 10 5 (sGen 3) a8 c8 D7 P2) := HK9.out.later bV
  have cV : V.cell? ⟨Y3.heap.size, 0, Option.none⟩ = some (.int .i64 3) := A9.cell 0
  clear hb HK8 hst A9 bV HK9
  go_wp2_with (with_reducible refine wl_store HST.out rfl rfl ?_)
  refine (epoch_any HKV.out.kp).mono ?_
  rintro r Y4 ⟨rfl, rfl⟩
  go_wp2
  go_ret
  exact ⟨rfl, HKV.out.bw⟩
/-- Where the round of the acts stands. -/
structure KI (w wr : World) (k b g n : Nat) (e : Int) (s : KS) (aw : Option Addr) (cw : Nat) (a : Option Addr) (c : Nat) (D : DM) (P : DP) : Prop where
  kp : Kp w wr k b n e s a c D P
  ck : Ck D (padS (ktxt e s))
  calm : Calm D
  hw : At wr g (s.vs aw cw) 37
  rw : Go.Proofs.YtfkmaiiainbcbaaGreatDoor.Row w aw s.l.length s.l
  g0 : w.heap.size ≤ g
  ng : ¬ KF P b k a s g
theorem KI.later {w wr W : World} {k b g n : Nat} {e : Int} {s : KS} {aw : Option Addr} {cw : Nat} {a : Option Addr} {c : Nat} {D : DM} {P : DP} (h : KI w wr k b g n e s aw cw a c D P) (hb : Below wr.heap.size wr W) : KI w W k b g n e s aw cw a c D P :=
  ⟨h.kp.later hb, h.ck, h.calm, h.hw.later hb h.hw.lt, h.rw, h.g0, h.ng⟩
set_option maxRecDepth 100000 in
set_option maxHeartbeats 20000000 in
theorem keeperSays_walk (sectors : Int) (a : Option Addr) (n c : Nat) (l : List ActD) (w : World) (hL : K.Laid w) (h : Acts w a n l) :
    Calls Tryz.prog 3 #[.int .i64 sectors, .slice a n c] w fun r w' => r = .returned (.bool true) ∧ Below w.heap.size w w' := by
  obtain rfl := h.len
  have HA : Hid (Acts w a l.length l) := h
  have HL : Hid (K.Laid w) := hL
  clear h hL
  go_enter Tryz.func3, Tryz.ntmps3
  go_wp2_with fail
  refine (keepers_any w HL.out).mono ?_
  rintro r W1 ⟨rfl, b1⟩
  have HB1 : Hid (Below w.heap.size w W1) := b1
  clear b1
  go_wp2_with fail
  refine (lightActs_any a l.length c l 30 W1 (HA.out.later HB1.out)).mono ?_
  rintro r W2 ⟨rfl, b2⟩
  have HB2 : Hid (Below w.heap.size w W2) := HB1.out.trans (b2.mono HB1.out.size)
  clear b2 HB1
  cases hl : lightA l 30 with
  | false =>
    go_wp2_with fail
    go_ret
    exact ⟨rfl, HB2.out⟩
  | true =>
  have hn : l.length ≤ 30 := by simp [lightA] at hl; omega
  have hr6 : ∀ x ∈ l, x.rn ≤ 6 := by
    intro x hx
    unfold lightA at hl
    have := List.all_eq_true.1 (Bool.and_eq_true_iff.1 hl).2 x hx
    simp [light1] at this; omega
  have HRL : Hid (∀ x ∈ l, x.rn ≤ 6) := hr6
  clear hl hr6
  by_cases hs : 1 ≤ sectors ∧ sectors ≤ 40
  case neg =>
    have hb : sectors < 1 ∨ 40 < sectors := by omega
    clear hs
    go_wp2_with fail
    refine (newE_bad W2 sectors hb).mono ?_
    rintro r W3 ⟨rfl, rfl⟩
    have HE : Hid (Calls Tryz.prog 8 #[errV 1, .int .i64 1] W3 fun e w' => e = .returned (.bool true) ∧ w' = W3) := sameE_any 1 (by decide) W3
    by_cases h1 : sectors < 1
    · clear hb
      go_wp2_with fail
      refine HE.out.mono ?_
      rintro r W4 ⟨rfl, rfl⟩
      go_wp2
      go_ret
      exact ⟨rfl, HB2.out⟩
    · have h2 : 40 < sectors := by omega
      clear hb
      go_wp2_with fail
      refine HE.out.mono ?_
      rintro r W4 ⟨rfl, rfl⟩
      go_wp2
      go_ret
      exact ⟨rfl, HB2.out⟩
  obtain ⟨n, rfl⟩ : ∃ n : Nat, sectors = n := ⟨sectors.toNat, by omega⟩
  have hn1 : 1 ≤ n := by omega
  have hn40 : n ≤ 40 := by omega
  have hs1 : ¬ (n : Int) < 1 := by omega
  have hs2 : ¬ (40 : Int) < (n : Int) := by omega
  clear hs
  go_wp2_with fail
  refine (new_any W2 n hn1 hn40).mono ?_
  rintro r W3 ⟨b, P, rfl, hd, bw, b1, b2, b3, b4, hsv⟩
  have hz := HB2.out.size
  have HD : Hid (Dk w W3 b n (newD n) P) := ⟨hd, HB2.out.trans (bw.mono hz), new_above (by omega) (by omega) (by omega) (by omega) hsv⟩
  clear hd bw b1 b2 b3 b4 hsv hz HB2
  go_wp2_with fail
  refine (open_nil HD.out.d rfl (getD_rep n _ _ hn1) (HL.out.later HD.out.bw)).mono ?_
  rintro r W4 ⟨rfl, b4⟩
  replace HD : Hid (Dk w W4 b n (newD n) P) := HD.out.later b4
  clear b4
  go_wp2_with fail
  refine (sameE_any 3 (by decide) W4).mono ?_
  rintro r W4' ⟨rfl, rfl⟩
  have hF := store_ck (Ck.new hn1) HD.out.d.ok (ktxt 1 KS.none) (ktxt_len (by decide) KS.none_ok)
  have hC := store_calm (Calm.new n) HD.out.d.ok (ktxt 1 KS.none) (ktxt_len (by decide) KS.none_ok)
  have HC : Hid (Ck (storeD (newD n) n (ktxt 1 KS.none)) (padS (ktxt 1 KS.none)) ∧ Calm (storeD (newD n) n (ktxt 1 KS.none))) := by
    rcases hF with ⟨_, h⟩ | ⟨h, _⟩
    · exact ⟨h, hC.2⟩
    · rw [hC.1] at h; exact absurd h (by decide)
  have HS0 : Hid (storeF (newD n) n (ktxt 1 KS.none) = 0) := hC.1
  clear hF hC
  go_wp2_with fail
  refine (format_any HD.out.d (HL.out.later HD.out.bw)).mono ?_
  rintro r W5 ⟨rfl, P2, hd, hm⟩
  by_cases h6 : n < 6
  · rw [if_pos h6] at hd ⊢
    have HD2 : Hid (Dk w W5 b n (newD n) P2) := HD.out.disk hd hm
    have HE : Hid (Calls Tryz.prog 8 #[errV 6, .int .i64 6] W5 fun e w' => e = .returned (.bool true) ∧ w' = W5) := sameE_any 6 (by decide) W5
    have h6' : (n : Int) < 6 := by omega
    clear hd hm HD HC HS0 h6
    go_wp2_with fail
    refine HE.out.mono ?_
    rintro r W6 ⟨rfl, rfl⟩
    go_wp2
    go_ret
    exact ⟨rfl, HD2.out.bw⟩
  rw [if_neg h6, HS0.out, show errV 0 = .nilIface from rfl]
  rw [if_neg h6] at hd
  have h6' : ¬ (n : Int) < 6 := by omega
  have HD2 : Hid (Dk w W5 b n (storeD (newD n) n (ktxt 1 KS.none)) P2) := HD.out.disk hd hm
  obtain ⟨D2, hD2⟩ : ∃ x, x = storeD (newD n) n (ktxt 1 KS.none) := ⟨_, rfl⟩
  rw [← hD2] at HD2 HC
  clear hd hm HD hD2 HS0 h6
  go_wp2_with fail
  refine (open_fine HD2.out 1 KS.none KS.none_ok ⟨by decide, by decide⟩ HC.out.1 HL.out).mono ?_
  rintro r W6 ⟨k, a3, c3, rfl, hk, _, _⟩
  have HK6 : Hid (Kp w W6 k b n 1 KS.none a3 c3 D2 P2) := hk
  clear hk HD2
  go_upto_region 19 with fail
  obtain ⟨X, hX, x0, bX, sX⟩ := one W6 (.cells #[.int .i64 0, .slice Option.none 0 0, .int .i64 0, .int .i64 0, .bool false] 37)
  rw [← hX]
  clear hX
  have hsz := HK6.out.bw.size
  have HK : Hid (KI w X k b W6.heap.size n 1 KS.none Option.none 0 a3 c3 D2 P2) :=
    ⟨HK6.out.later bX, HC.out.1, HC.out.2, x0, Go.Proofs.YtfkmaiiainbcbaaGreatDoor.row_nil w, hsz, fun e => by have := HK6.out.foot _ e; omega⟩
  obtain ⟨g, hg⟩ : ∃ g, g = W6.heap.size := ⟨_, rfl⟩
  rw [← hg] at HK ⊢
  clear x0 bX sX hg hsz HK6 HC hs1 hs2 h6' hn1 hn40
  go_wp2_with fail
  go_loopw [9, 12, 13] (fun kv ev iv wr => ∃ (j k : Nat) (e : Int) (s : KS) (aw : Option Addr) (cw : Nat) (a : Option Addr) (c : Nat) (D : DM) (P : DP), j ≤ l.length ∧ kv = .pointer (some ⟨k, 0, Option.none⟩) ∧ ev = .int .i64 e ∧ iv = .int .i64 j ∧ KI w wr k b g n e s aw cw a c D P) (fun _ _ iv _ => l.length - (intOf iv).toNat)
  case atStart => exact ⟨0, k, 1, KS.none, _, _, _, _, _, _, Nat.zero_le _, rfl, rfl, rfl, HK.out⟩
  case round =>
    clear HK
    obtain ⟨j, k, e, s, aw, cw, a3, c3, D, P, hj, rfl, rfl, rfl, hk⟩ := hrel
    have HK : Hid (KI w wr k b g n e s aw cw a3 c3 D P) := hk
    clear hk
    by_cases hlt : j < l.length
    · have hki : (j : Int) < (l.length : Int) := by omega
      obtain ⟨bk, off, rfl, hrow⟩ := HA.out.row (by omega)
      have hcs := rangeAt_later (hrow j hlt) HK.out.kp.bw
      have hxo := HA.out.ok l[j] (List.getElem_mem hlt)
      obtain ⟨x, hx⟩ : ∃ x, l[j] = x := ⟨_, rfl⟩
      rw [hx] at hcs hxo
      have c0 : wr.cell? ⟨bk, off + j * 19, Option.none⟩ = some (.string x.kind) := hcs 0 _ rfl
      have c1 : wr.cell? ⟨bk, off + j * 19 + 1, Option.none⟩ = some (.int .i64 x.a) := hcs 1 _ rfl
      have HCS : Hid (wr.rangeAt bk (off + j * 19) x.vs) := hcs
      have HXO : Hid (x.OK w) := hxo
      have HBK : Hid (bk < w.heap.size) := cell_lt (hrow j hlt 1 _ rfl)
      have HR6 : Hid ((stA x).l.length ≤ 1000000) := by
        show _ ≤ _
        have h6 := HRL.out l[j] (List.getElem_mem hlt)
        rw [hx] at h6
        have := hxo.row.1
        show x.regs.length ≤ _
        omega
      clear hcs hxo hrow hx
      cases hkd : (x.kind.toList == [107, 101, 101, 112]) with
      | false =>
        as_aux_lemma =>
          clear c1
          go_wp2_with fail
          refine (open_fine HK.out.kp.dk e s HK.out.kp.kp.ok ⟨HK.out.kp.kp.e1, HK.out.kp.kp.e9⟩ HK.out.ck HL.out).mono ?_
          rintro r Z ⟨k2, a4, c4, rfl, hk, hb, hq⟩
          have HKZ : Hid (KI w Z k2 b g n e s aw cw a4 c4 D P) := ⟨hk, HK.out.ck, HK.out.calm, HK.out.hw.later hb HK.out.hw.lt, HK.out.rw, HK.out.g0, hq g HK.out.hw.lt (fun e => HK.out.ng (.inl e))⟩
          clear hk hb hq HK HCS c0
          go_upto_region 36 with fail
          refine wp_region_held (S := fun w' => At w' g ((s).vs aw cw) 37) (by kernel_rfl) ?_
          have HS : Hid (At Z.drew g ((s).vs aw cw) 37) := HKZ.out.hw
          replace HKZ := HKZ.out.later ((Below.refl _ _).drew)
          have HKX : Hid (KI w Z.drew k2 b g n e (s) aw cw _ _ _ _) := HKZ
          clear HKZ
          refine wpAnyH_take (i := 0) (v := .pointer (some ⟨k2, 0, Option.none⟩)) rfl (by kernel_rfl) (by kernel_rfl) (by kernel_rfl) (fun _ _ _ h => h) (.inl ⟨rfl, fun w' hw' => ?_⟩) HS.out ?_
          · go_simp
          refine wpAnyH_take (i := 2) (v := .agg ((s).vs aw cw).toArray) rfl (by kernel_rfl) (by kernel_rfl) (by kernel_rfl) (fun _ _ _ h => h) (.inl ⟨rfl, fun w' hw' => ?_⟩) HS.out ?_
          · exact exec_load (load_st0 hw') rfl
          (try simp [Act.put])
          refine wpAnyH_all (rs := [1]) (by kernel_rfl) (by simp) ?_
          intro i9 hi9
          obtain rfl : i9 = 1 := by simpa using hi9
          clear hi9
          refine wpOp_step rfl rfl ?_
          go_wp2_with fail
          refine (state_any HKX.out.kp.kp).mono ?_
          rintro r X3 ⟨a5, c5, rfl, hr5, _, hb⟩
          have HR5 : Hid (Go.Proofs.YtfkmaiiainbcbaaGreatDoor.Row X3 a5 (s).l.length (s).l) := hr5
          replace HKX := HKX.out.later hb
          have HK3 : Hid (KI w X3 k2 b g n e (s) aw cw _ _ _ _) := HKX
          clear hr5 hb HKX HS
          have HS : Hid (At X3 g ((s).vs aw cw) 37) := HK3.out.hw
          refine ⟨HS.out, ?_⟩
          refine wpAnyH_all (rs := [3]) (by kernel_rfl) (by simp) ?_
          intro i9 hi9
          obtain rfl : i9 = 3 := by simpa using hi9
          clear hi9
          refine wpOp_step rfl rfl ?_
          go_wp2_with fail
          refine (same2_any (s) (s) a5 c5 aw cw X3 HR5.out (HK3.out.rw.later HK3.out.kp.bw)).mono ?_
          rintro r X4 ⟨b1, rfl, hb1, hb⟩
          obtain rfl := hb1 rfl
          replace HK3 := HK3.out.later hb
          have HK4 : Hid (KI w X4 k2 b g n e (s) aw cw _ _ _ _) := HK3
          clear hb hb1 HK3 HR5 HS
          have HS : Hid (At X4 g ((s).vs aw cw) 37) := HK4.out.hw
          refine ⟨HS.out, ?_⟩
          refine wpAnyH_take (i := 4) (v := .bool false) rfl (by kernel_rfl) (by kernel_rfl) (by kernel_rfl) (fun _ _ _ h => h) (.inl ⟨rfl, fun w' hw' => ?_⟩) HS.out ?_
          · go_simp
          refine wpAnyH_take (i := 5) (v := .bool false) rfl (by kernel_rfl) (by kernel_rfl) (by kernel_rfl) (fun _ _ _ h => h) (.inl ⟨rfl, fun w' hw' => ?_⟩) HS.out ?_
          · go_simp
          refine wpAnyH_take (i := 6) (v := .pointer (some ⟨k2, 0, Option.none⟩)) rfl (by kernel_rfl) (by kernel_rfl) (by kernel_rfl) (fun _ _ _ h => h) (.inl ⟨rfl, fun w' hw' => ?_⟩) HS.out ?_
          · go_simp
          (try simp [Act.put])
          refine wpAnyH_take (i := 8) (v := .int .i64 e) rfl (by kernel_rfl) (by kernel_rfl) (by kernel_rfl) (fun _ _ _ h => h) (.inl ⟨rfl, fun w' hw' => ?_⟩) HS.out ?_
          · go_simp
          (try simp [Act.put])
          refine wpAnyH_all (rs := [7]) (by kernel_rfl) (by simp) ?_
          intro i9 hi9
          obtain rfl : i9 = 7 := by simpa using hi9
          clear hi9
          refine wpOp_stepV rfl rfl ?_
          go_wp2_with fail
          refine (epoch_any HK4.out.kp.kp).mono ?_
          rintro r X5 ⟨rfl, rfl⟩
          refine ⟨HS.out, ?_⟩
          refine wpAnyH_take (i := 9) (v := .bool false) rfl (by kernel_rfl) (by kernel_rfl) (by kernel_rfl) (fun _ _ _ h => h) (.inl ⟨rfl, fun w' hw' => ?_⟩) HS.out ?_
          · go_simp
          refine wpAnyH_take (i := 10) (v := .bool false) rfl (by kernel_rfl) (by kernel_rfl) (by kernel_rfl) (fun _ _ _ h => h) (.inl ⟨rfl, fun w' hw' => ?_⟩) HS.out ?_
          · go_simp
          (try simp [Act.put])
          refine wpAnyH_done (by kernel_rfl) ?_ _
          (try simp [Act.put])
          clear HS
          go_wp2_with fail
          go_roundw
          case rel => exact ⟨j + 1, k2, e, s, aw, cw, _, _, _, _, by omega, rfl, rfl, by go_num, HK4.out⟩
          case measure => simp [intOf]; omega
      | true =>
        have HLD : Hid ((Instr.loadAt 37 (.pointer (some ⟨bk, off + j * 19 + 5, Option.none⟩))).run Tryz.prog wr = .ok (.agg ((stA x).vs x.ra x.rc).toArray) wr) := load_actS HXO.out HCS.out
        go_wp2_with (with_reducible refine wl_load HLD.out rfl rfl ?_)
        refine (Go.Proofs.YtfkmaiiainbcbaaGreatDoor.stateFault_any (stA x).g (stA x).t (stA x).hd x.ra (stA x).l.length x.rc (stA x).y (stA x).l wr ((act_row HXO.out).later HK.out.kp.bw)).mono ?_
        rintro r Y ⟨rfl, hb⟩
        rw [show Go.Proofs.YtfkmaiiainbcbaaGreatDoor.fault (stA x).g (stA x).t (stA x).hd (stA x).l = (stA x).f from rfl]
        have HFN : Hid (0 ≤ (stA x).f) := Go.Proofs.YtfkmaiiainbcbaaGreatDoor.fault_nonneg _ _ _ _
        have HKY : Hid (KI w Y k b g n e s aw cw a3 c3 D P) := HK.out.later hb
        have HCY : Hid (Y.rangeAt bk (off + j * 19) x.vs) := rangeAt_later HCS.out hb
        replace c1 := cell_later hb c1
        clear hb HK HCS HLD c0 hkd
        have hsc := store_calm (n := n) HKY.out.calm HKY.out.kp.d.ok
        by_cases h1 : x.a < 1
        · have HNO : Hid (¬ (okE x.a ∧ (stA x).f = 0)) := fun h => by have := h.1.1; omega
          have HKF : Hid (keepF D n x.a (stA x) = 1) := by show _ = _; unfold keepF; rw [if_neg (fun h => by have := h.1; omega)]
          clear hsc HFN
          as_aux_lemma =>
            go_upto_region 27 with fail
            refine wp_region_held (S := fun w' => w'.rangeAt bk (off + j * 19) x.vs) (by kernel_rfl) ?_
            have HS : Hid (Y.drew.rangeAt bk (off + j * 19) x.vs) := HCY.out
            have HKD : Hid (KI w Y.drew k b g n e s aw cw a3 c3 D P) := HKY.out.later ((Below.refl _ _).drew)
            clear HCY HKY c1
            refine wpAnyH_take (i := 0) (v := .pointer (some ⟨k, 0, Option.none⟩)) rfl (by kernel_rfl) (by kernel_rfl) (by kernel_rfl) (fun _ _ _ h => h) (.inl ⟨rfl, fun w' hw' => ?_⟩) HS.out ?_
            · go_simp
            refine wpAnyH_take (i := 1) (v := .slice (some ⟨bk, off, Option.none⟩) l.length c) rfl (by kernel_rfl) (by kernel_rfl) (by kernel_rfl) (fun _ _ _ h => h) (.inl ⟨rfl, fun w' hw' => ?_⟩) HS.out ?_
            · go_simp
            refine wpAnyH_take (i := 2) (v := .int .i64 j) rfl (by kernel_rfl) (by kernel_rfl) (by kernel_rfl) (fun _ _ _ h => h) (.inl ⟨rfl, fun w' hw' => ?_⟩) HS.out ?_
            · go_simp
            (try simp [Act.put])
            refine wpAnyH_take (i := 3) (v := .pointer (some ⟨bk, off + j * 19, Option.none⟩)) rfl (by kernel_rfl) (by kernel_rfl) (by kernel_rfl) (fun _ _ _ h => h) (.inl ⟨rfl, fun w' hw' => ?_⟩) HS.out ?_
            · go_simp
            refine wpAnyH_take (i := 4) (v := .pointer (some ⟨bk, off + j * 19 + 1, Option.none⟩)) rfl (by kernel_rfl) (by kernel_rfl) (by kernel_rfl) (fun _ _ _ h => h) (.inl ⟨rfl, fun w' hw' => ?_⟩) HS.out ?_
            · go_simp
            refine wpAnyH_take (i := 5) (v := .int .i64 x.a) rfl (by kernel_rfl) (by kernel_rfl) (by kernel_rfl) (fun _ _ _ h => h) (.inl ⟨rfl, fun w' hw' => ?_⟩) HS.out ?_
            · have hc : w'.cell? ⟨bk, off + j * 19 + 1, Option.none⟩ = some (.int .i64 x.a) := hw' 1 _ rfl; go_simp
            (try simp [Act.put])
            refine wpAnyH_take (i := 6) (v := .slice (some ⟨bk, off, Option.none⟩) l.length c) rfl (by kernel_rfl) (by kernel_rfl) (by kernel_rfl) (fun _ _ _ h => h) (.inl ⟨rfl, fun w' hw' => ?_⟩) HS.out ?_
            · go_simp
            refine wpAnyH_take (i := 7) (v := .int .i64 j) rfl (by kernel_rfl) (by kernel_rfl) (by kernel_rfl) (fun _ _ _ h => h) (.inl ⟨rfl, fun w' hw' => ?_⟩) HS.out ?_
            · go_simp
            refine wpAnyH_take (i := 8) (v := .pointer (some ⟨bk, off + j * 19, Option.none⟩)) rfl (by kernel_rfl) (by kernel_rfl) (by kernel_rfl) (fun _ _ _ h => h) (.inl ⟨rfl, fun w' hw' => ?_⟩) HS.out ?_
            · go_simp
            (try simp [Act.put])
            refine wpAnyH_take (i := 9) (v := .pointer (some ⟨bk, off + j * 19 + 5, Option.none⟩)) rfl (by kernel_rfl) (by kernel_rfl) (by kernel_rfl) (fun _ _ _ h => h) (.inl ⟨rfl, fun w' hw' => ?_⟩) HS.out ?_
            · go_simp
            refine wpAnyH_take (i := 10) (v := .agg ((stA x).vs x.ra x.rc).toArray) rfl (by kernel_rfl) (by kernel_rfl) (by kernel_rfl) (fun _ _ _ h => h) (.inl ⟨rfl, fun w' hw' => ?_⟩) HS.out ?_
            · exact exec_load (load_actS HXO.out hw') rfl
            refine wpAnyH_take (i := 12) (v := .int .i64 1) rfl (by kernel_rfl) (by kernel_rfl) (by kernel_rfl) (fun _ _ _ h => h) (.inl ⟨rfl, fun w' hw' => ?_⟩) HS.out ?_
            · go_simp
            (try simp [Act.put])
            (try simp [Act.put])
            refine wpAnyH_all (rs := [11]) (by kernel_rfl) (by simp) ?_
            intro i9 hi9
            obtain rfl : i9 = 11 := by simpa using hi9
            clear hi9
            refine wpOp_step rfl rfl ?_
            go_wp2_with fail
            refine (keep_any HKD.out.kp HL.out x.a (stA x) x.ra x.rc (act_row HXO.out) HR6.out).mono ?_
            rintro r V ⟨rfl, P4, a4, c4, hk4, hm4⟩
            rw [HKF.out]
            have hng := hm4.not HKD.out.hw.lt HKD.out.ng
            have hat := hm4.at HKD.out.hw HKD.out.ng
            have HSV : Hid (V.rangeAt bk (off + j * 19) x.vs) := fun i v hv => hm4.cell (HS.out i v hv) (fun e => by have := HKD.out.kp.above _ e; have := HBK.out; have : (⟨bk, off + j * 19 + i, Option.none⟩ : Addr).block = bk := rfl; omega)
            have hS : keepS D n e s x.a (stA x) = (e, s) := by unfold keepS; rw [HKF.out, if_neg (by first | decide | exact hf)]
            have hDD : keepD D n x.a (stA x) = D := by unfold keepD; rw [if_neg HNO.out]
            rw [hS] at hk4 hng
            rw [hDD] at hk4
            have HKZ : Hid (KI w V k b g n e s aw cw a4 c4 D P4) := ⟨hk4, HKD.out.ck, HKD.out.calm, hat, HKD.out.rw, HKD.out.g0, hng⟩
            clear hS hDD hk4 hng hat hm4 HKD HKF HNO
            clear HS
            have HS : Hid (V.rangeAt bk (off + j * 19) x.vs) := HSV.out
            clear HSV
            refine ⟨HS.out, ?_⟩
            refine wpAnyH_all (rs := [13]) (by kernel_rfl) (by simp) ?_
            intro i9 hi9
            obtain rfl : i9 = 13 := by simpa using hi9
            clear hi9
            refine wpOp_step rfl rfl ?_
            go_wp2_with fail
            refine (sameE_any 1 (by first | decide | exact HFN.out) V).mono ?_
            rintro r V2 ⟨rfl, rfl⟩
            refine ⟨HS.out, ?_⟩
            refine wpAnyH_take (i := 14) (v := .bool false) rfl (by kernel_rfl) (by kernel_rfl) (by kernel_rfl) (fun _ _ _ h => h) (.inl ⟨rfl, fun w' hw' => ?_⟩) HS.out ?_
            · go_simp
            (try simp [Act.put])
            refine wpAnyH_done (by kernel_rfl) ?_ _
            (try simp [Act.put])
            clear HS
            obtain ⟨Z, hZ⟩ : ∃ Z, Z = V2 := ⟨_, rfl⟩
            rw [← hZ] at HKZ ⊢
            clear hZ
            go_upto_region 36 with fail
            refine wp_region_held (S := fun w' => At w' g ((s).vs aw cw) 37) (by kernel_rfl) ?_
            have HS : Hid (At Z.drew g ((s).vs aw cw) 37) := HKZ.out.hw
            replace HKZ := HKZ.out.later ((Below.refl _ _).drew)
            have HKX : Hid (KI w Z.drew k b g n e (s) aw cw _ _ _ _) := HKZ
            clear HKZ
            refine wpAnyH_take (i := 0) (v := .pointer (some ⟨k, 0, Option.none⟩)) rfl (by kernel_rfl) (by kernel_rfl) (by kernel_rfl) (fun _ _ _ h => h) (.inl ⟨rfl, fun w' hw' => ?_⟩) HS.out ?_
            · go_simp
            refine wpAnyH_take (i := 2) (v := .agg ((s).vs aw cw).toArray) rfl (by kernel_rfl) (by kernel_rfl) (by kernel_rfl) (fun _ _ _ h => h) (.inl ⟨rfl, fun w' hw' => ?_⟩) HS.out ?_
            · exact exec_load (load_st0 hw') rfl
            (try simp [Act.put])
            refine wpAnyH_all (rs := [1]) (by kernel_rfl) (by simp) ?_
            intro i9 hi9
            obtain rfl : i9 = 1 := by simpa using hi9
            clear hi9
            refine wpOp_step rfl rfl ?_
            go_wp2_with fail
            refine (state_any HKX.out.kp.kp).mono ?_
            rintro r X3 ⟨a5, c5, rfl, hr5, _, hb⟩
            have HR5 : Hid (Go.Proofs.YtfkmaiiainbcbaaGreatDoor.Row X3 a5 (s).l.length (s).l) := hr5
            replace HKX := HKX.out.later hb
            have HK3 : Hid (KI w X3 k b g n e (s) aw cw _ _ _ _) := HKX
            clear hr5 hb HKX HS
            have HS : Hid (At X3 g ((s).vs aw cw) 37) := HK3.out.hw
            refine ⟨HS.out, ?_⟩
            refine wpAnyH_all (rs := [3]) (by kernel_rfl) (by simp) ?_
            intro i9 hi9
            obtain rfl : i9 = 3 := by simpa using hi9
            clear hi9
            refine wpOp_step rfl rfl ?_
            go_wp2_with fail
            refine (same2_any (s) (s) a5 c5 aw cw X3 HR5.out (HK3.out.rw.later HK3.out.kp.bw)).mono ?_
            rintro r X4 ⟨b1, rfl, hb1, hb⟩
            obtain rfl := hb1 rfl
            replace HK3 := HK3.out.later hb
            have HK4 : Hid (KI w X4 k b g n e (s) aw cw _ _ _ _) := HK3
            clear hb hb1 HK3 HR5 HS
            have HS : Hid (At X4 g ((s).vs aw cw) 37) := HK4.out.hw
            refine ⟨HS.out, ?_⟩
            refine wpAnyH_take (i := 4) (v := .bool false) rfl (by kernel_rfl) (by kernel_rfl) (by kernel_rfl) (fun _ _ _ h => h) (.inl ⟨rfl, fun w' hw' => ?_⟩) HS.out ?_
            · go_simp
            refine wpAnyH_take (i := 5) (v := .bool false) rfl (by kernel_rfl) (by kernel_rfl) (by kernel_rfl) (fun _ _ _ h => h) (.inl ⟨rfl, fun w' hw' => ?_⟩) HS.out ?_
            · go_simp
            refine wpAnyH_take (i := 6) (v := .pointer (some ⟨k, 0, Option.none⟩)) rfl (by kernel_rfl) (by kernel_rfl) (by kernel_rfl) (fun _ _ _ h => h) (.inl ⟨rfl, fun w' hw' => ?_⟩) HS.out ?_
            · go_simp
            (try simp [Act.put])
            refine wpAnyH_take (i := 8) (v := .int .i64 e) rfl (by kernel_rfl) (by kernel_rfl) (by kernel_rfl) (fun _ _ _ h => h) (.inl ⟨rfl, fun w' hw' => ?_⟩) HS.out ?_
            · go_simp
            (try simp [Act.put])
            refine wpAnyH_all (rs := [7]) (by kernel_rfl) (by simp) ?_
            intro i9 hi9
            obtain rfl : i9 = 7 := by simpa using hi9
            clear hi9
            refine wpOp_stepV rfl rfl ?_
            go_wp2_with fail
            refine (epoch_any HK4.out.kp.kp).mono ?_
            rintro r X5 ⟨rfl, rfl⟩
            refine ⟨HS.out, ?_⟩
            refine wpAnyH_take (i := 9) (v := .bool false) rfl (by kernel_rfl) (by kernel_rfl) (by kernel_rfl) (fun _ _ _ h => h) (.inl ⟨rfl, fun w' hw' => ?_⟩) HS.out ?_
            · go_simp
            refine wpAnyH_take (i := 10) (v := .bool false) rfl (by kernel_rfl) (by kernel_rfl) (by kernel_rfl) (fun _ _ _ h => h) (.inl ⟨rfl, fun w' hw' => ?_⟩) HS.out ?_
            · go_simp
            (try simp [Act.put])
            refine wpAnyH_done (by kernel_rfl) ?_ _
            (try simp [Act.put])
            clear HS
            go_wp2_with fail
            go_roundw
            case rel => exact ⟨j + 1, k, e, s, aw, cw, _, _, _, _, by omega, rfl, rfl, by go_num, HK4.out⟩
            case measure => simp [intOf]; omega
        by_cases h2 : 1000000 < x.a
        · have HNO : Hid (¬ (okE x.a ∧ (stA x).f = 0)) := fun h => by have := h.1.2; omega
          have HKF : Hid (keepF D n x.a (stA x) = 1) := by show _ = _; unfold keepF; rw [if_neg (fun h => by have := h.2; omega)]
          clear hsc HFN
          as_aux_lemma =>
            go_upto_region 27 with fail
            refine wp_region_held (S := fun w' => w'.rangeAt bk (off + j * 19) x.vs) (by kernel_rfl) ?_
            have HS : Hid (Y.drew.rangeAt bk (off + j * 19) x.vs) := HCY.out
            have HKD : Hid (KI w Y.drew k b g n e s aw cw a3 c3 D P) := HKY.out.later ((Below.refl _ _).drew)
            clear HCY HKY c1
            refine wpAnyH_take (i := 0) (v := .pointer (some ⟨k, 0, Option.none⟩)) rfl (by kernel_rfl) (by kernel_rfl) (by kernel_rfl) (fun _ _ _ h => h) (.inl ⟨rfl, fun w' hw' => ?_⟩) HS.out ?_
            · go_simp
            refine wpAnyH_take (i := 1) (v := .slice (some ⟨bk, off, Option.none⟩) l.length c) rfl (by kernel_rfl) (by kernel_rfl) (by kernel_rfl) (fun _ _ _ h => h) (.inl ⟨rfl, fun w' hw' => ?_⟩) HS.out ?_
            · go_simp
            refine wpAnyH_take (i := 2) (v := .int .i64 j) rfl (by kernel_rfl) (by kernel_rfl) (by kernel_rfl) (fun _ _ _ h => h) (.inl ⟨rfl, fun w' hw' => ?_⟩) HS.out ?_
            · go_simp
            (try simp [Act.put])
            refine wpAnyH_take (i := 3) (v := .pointer (some ⟨bk, off + j * 19, Option.none⟩)) rfl (by kernel_rfl) (by kernel_rfl) (by kernel_rfl) (fun _ _ _ h => h) (.inl ⟨rfl, fun w' hw' => ?_⟩) HS.out ?_
            · go_simp
            refine wpAnyH_take (i := 4) (v := .pointer (some ⟨bk, off + j * 19 + 1, Option.none⟩)) rfl (by kernel_rfl) (by kernel_rfl) (by kernel_rfl) (fun _ _ _ h => h) (.inl ⟨rfl, fun w' hw' => ?_⟩) HS.out ?_
            · go_simp
            refine wpAnyH_take (i := 5) (v := .int .i64 x.a) rfl (by kernel_rfl) (by kernel_rfl) (by kernel_rfl) (fun _ _ _ h => h) (.inl ⟨rfl, fun w' hw' => ?_⟩) HS.out ?_
            · have hc : w'.cell? ⟨bk, off + j * 19 + 1, Option.none⟩ = some (.int .i64 x.a) := hw' 1 _ rfl; go_simp
            (try simp [Act.put])
            refine wpAnyH_take (i := 6) (v := .slice (some ⟨bk, off, Option.none⟩) l.length c) rfl (by kernel_rfl) (by kernel_rfl) (by kernel_rfl) (fun _ _ _ h => h) (.inl ⟨rfl, fun w' hw' => ?_⟩) HS.out ?_
            · go_simp
            refine wpAnyH_take (i := 7) (v := .int .i64 j) rfl (by kernel_rfl) (by kernel_rfl) (by kernel_rfl) (fun _ _ _ h => h) (.inl ⟨rfl, fun w' hw' => ?_⟩) HS.out ?_
            · go_simp
            refine wpAnyH_take (i := 8) (v := .pointer (some ⟨bk, off + j * 19, Option.none⟩)) rfl (by kernel_rfl) (by kernel_rfl) (by kernel_rfl) (fun _ _ _ h => h) (.inl ⟨rfl, fun w' hw' => ?_⟩) HS.out ?_
            · go_simp
            (try simp [Act.put])
            refine wpAnyH_take (i := 9) (v := .pointer (some ⟨bk, off + j * 19 + 5, Option.none⟩)) rfl (by kernel_rfl) (by kernel_rfl) (by kernel_rfl) (fun _ _ _ h => h) (.inl ⟨rfl, fun w' hw' => ?_⟩) HS.out ?_
            · go_simp
            refine wpAnyH_take (i := 10) (v := .agg ((stA x).vs x.ra x.rc).toArray) rfl (by kernel_rfl) (by kernel_rfl) (by kernel_rfl) (fun _ _ _ h => h) (.inl ⟨rfl, fun w' hw' => ?_⟩) HS.out ?_
            · exact exec_load (load_actS HXO.out hw') rfl
            refine wpAnyH_take (i := 12) (v := .int .i64 1) rfl (by kernel_rfl) (by kernel_rfl) (by kernel_rfl) (fun _ _ _ h => h) (.inl ⟨rfl, fun w' hw' => ?_⟩) HS.out ?_
            · go_simp
            (try simp [Act.put])
            (try simp [Act.put])
            refine wpAnyH_all (rs := [11]) (by kernel_rfl) (by simp) ?_
            intro i9 hi9
            obtain rfl : i9 = 11 := by simpa using hi9
            clear hi9
            refine wpOp_step rfl rfl ?_
            go_wp2_with fail
            refine (keep_any HKD.out.kp HL.out x.a (stA x) x.ra x.rc (act_row HXO.out) HR6.out).mono ?_
            rintro r V ⟨rfl, P4, a4, c4, hk4, hm4⟩
            rw [HKF.out]
            have hng := hm4.not HKD.out.hw.lt HKD.out.ng
            have hat := hm4.at HKD.out.hw HKD.out.ng
            have HSV : Hid (V.rangeAt bk (off + j * 19) x.vs) := fun i v hv => hm4.cell (HS.out i v hv) (fun e => by have := HKD.out.kp.above _ e; have := HBK.out; have : (⟨bk, off + j * 19 + i, Option.none⟩ : Addr).block = bk := rfl; omega)
            have hS : keepS D n e s x.a (stA x) = (e, s) := by unfold keepS; rw [HKF.out, if_neg (by first | decide | exact hf)]
            have hDD : keepD D n x.a (stA x) = D := by unfold keepD; rw [if_neg HNO.out]
            rw [hS] at hk4 hng
            rw [hDD] at hk4
            have HKZ : Hid (KI w V k b g n e s aw cw a4 c4 D P4) := ⟨hk4, HKD.out.ck, HKD.out.calm, hat, HKD.out.rw, HKD.out.g0, hng⟩
            clear hS hDD hk4 hng hat hm4 HKD HKF HNO
            clear HS
            have HS : Hid (V.rangeAt bk (off + j * 19) x.vs) := HSV.out
            clear HSV
            refine ⟨HS.out, ?_⟩
            refine wpAnyH_all (rs := [13]) (by kernel_rfl) (by simp) ?_
            intro i9 hi9
            obtain rfl : i9 = 13 := by simpa using hi9
            clear hi9
            refine wpOp_step rfl rfl ?_
            go_wp2_with fail
            refine (sameE_any 1 (by first | decide | exact HFN.out) V).mono ?_
            rintro r V2 ⟨rfl, rfl⟩
            refine ⟨HS.out, ?_⟩
            refine wpAnyH_take (i := 14) (v := .bool false) rfl (by kernel_rfl) (by kernel_rfl) (by kernel_rfl) (fun _ _ _ h => h) (.inl ⟨rfl, fun w' hw' => ?_⟩) HS.out ?_
            · go_simp
            (try simp [Act.put])
            refine wpAnyH_done (by kernel_rfl) ?_ _
            (try simp [Act.put])
            clear HS
            obtain ⟨Z, hZ⟩ : ∃ Z, Z = V2 := ⟨_, rfl⟩
            rw [← hZ] at HKZ ⊢
            clear hZ
            go_upto_region 36 with fail
            refine wp_region_held (S := fun w' => At w' g ((s).vs aw cw) 37) (by kernel_rfl) ?_
            have HS : Hid (At Z.drew g ((s).vs aw cw) 37) := HKZ.out.hw
            replace HKZ := HKZ.out.later ((Below.refl _ _).drew)
            have HKX : Hid (KI w Z.drew k b g n e (s) aw cw _ _ _ _) := HKZ
            clear HKZ
            refine wpAnyH_take (i := 0) (v := .pointer (some ⟨k, 0, Option.none⟩)) rfl (by kernel_rfl) (by kernel_rfl) (by kernel_rfl) (fun _ _ _ h => h) (.inl ⟨rfl, fun w' hw' => ?_⟩) HS.out ?_
            · go_simp
            refine wpAnyH_take (i := 2) (v := .agg ((s).vs aw cw).toArray) rfl (by kernel_rfl) (by kernel_rfl) (by kernel_rfl) (fun _ _ _ h => h) (.inl ⟨rfl, fun w' hw' => ?_⟩) HS.out ?_
            · exact exec_load (load_st0 hw') rfl
            (try simp [Act.put])
            refine wpAnyH_all (rs := [1]) (by kernel_rfl) (by simp) ?_
            intro i9 hi9
            obtain rfl : i9 = 1 := by simpa using hi9
            clear hi9
            refine wpOp_step rfl rfl ?_
            go_wp2_with fail
            refine (state_any HKX.out.kp.kp).mono ?_
            rintro r X3 ⟨a5, c5, rfl, hr5, _, hb⟩
            have HR5 : Hid (Go.Proofs.YtfkmaiiainbcbaaGreatDoor.Row X3 a5 (s).l.length (s).l) := hr5
            replace HKX := HKX.out.later hb
            have HK3 : Hid (KI w X3 k b g n e (s) aw cw _ _ _ _) := HKX
            clear hr5 hb HKX HS
            have HS : Hid (At X3 g ((s).vs aw cw) 37) := HK3.out.hw
            refine ⟨HS.out, ?_⟩
            refine wpAnyH_all (rs := [3]) (by kernel_rfl) (by simp) ?_
            intro i9 hi9
            obtain rfl : i9 = 3 := by simpa using hi9
            clear hi9
            refine wpOp_step rfl rfl ?_
            go_wp2_with fail
            refine (same2_any (s) (s) a5 c5 aw cw X3 HR5.out (HK3.out.rw.later HK3.out.kp.bw)).mono ?_
            rintro r X4 ⟨b1, rfl, hb1, hb⟩
            obtain rfl := hb1 rfl
            replace HK3 := HK3.out.later hb
            have HK4 : Hid (KI w X4 k b g n e (s) aw cw _ _ _ _) := HK3
            clear hb hb1 HK3 HR5 HS
            have HS : Hid (At X4 g ((s).vs aw cw) 37) := HK4.out.hw
            refine ⟨HS.out, ?_⟩
            refine wpAnyH_take (i := 4) (v := .bool false) rfl (by kernel_rfl) (by kernel_rfl) (by kernel_rfl) (fun _ _ _ h => h) (.inl ⟨rfl, fun w' hw' => ?_⟩) HS.out ?_
            · go_simp
            refine wpAnyH_take (i := 5) (v := .bool false) rfl (by kernel_rfl) (by kernel_rfl) (by kernel_rfl) (fun _ _ _ h => h) (.inl ⟨rfl, fun w' hw' => ?_⟩) HS.out ?_
            · go_simp
            refine wpAnyH_take (i := 6) (v := .pointer (some ⟨k, 0, Option.none⟩)) rfl (by kernel_rfl) (by kernel_rfl) (by kernel_rfl) (fun _ _ _ h => h) (.inl ⟨rfl, fun w' hw' => ?_⟩) HS.out ?_
            · go_simp
            (try simp [Act.put])
            refine wpAnyH_take (i := 8) (v := .int .i64 e) rfl (by kernel_rfl) (by kernel_rfl) (by kernel_rfl) (fun _ _ _ h => h) (.inl ⟨rfl, fun w' hw' => ?_⟩) HS.out ?_
            · go_simp
            (try simp [Act.put])
            refine wpAnyH_all (rs := [7]) (by kernel_rfl) (by simp) ?_
            intro i9 hi9
            obtain rfl : i9 = 7 := by simpa using hi9
            clear hi9
            refine wpOp_stepV rfl rfl ?_
            go_wp2_with fail
            refine (epoch_any HK4.out.kp.kp).mono ?_
            rintro r X5 ⟨rfl, rfl⟩
            refine ⟨HS.out, ?_⟩
            refine wpAnyH_take (i := 9) (v := .bool false) rfl (by kernel_rfl) (by kernel_rfl) (by kernel_rfl) (fun _ _ _ h => h) (.inl ⟨rfl, fun w' hw' => ?_⟩) HS.out ?_
            · go_simp
            refine wpAnyH_take (i := 10) (v := .bool false) rfl (by kernel_rfl) (by kernel_rfl) (by kernel_rfl) (fun _ _ _ h => h) (.inl ⟨rfl, fun w' hw' => ?_⟩) HS.out ?_
            · go_simp
            (try simp [Act.put])
            refine wpAnyH_done (by kernel_rfl) ?_ _
            (try simp [Act.put])
            clear HS
            go_wp2_with fail
            go_roundw
            case rel => exact ⟨j + 1, k, e, s, aw, cw, _, _, _, _, by omega, rfl, rfl, by go_num, HK4.out⟩
            case measure => simp [intOf]; omega
        have hoe : okE x.a := ⟨by omega, by omega⟩
        by_cases hf : (stA x).f = 0
        case neg =>
          have HNO : Hid (¬ (okE x.a ∧ (stA x).f = 0)) := fun h => hf h.2
          have HKF : Hid (keepF D n x.a (stA x) = (stA x).f) := by show _ = _; unfold keepF; rw [if_pos hoe, if_neg hf]
          obtain ⟨ff, hff⟩ : ∃ ff, (stA x).f = ff := ⟨_, rfl⟩
          rw [hff] at HKF HFN hf ⊢
          clear hsc hoe hff
          as_aux_lemma =>
            go_upto_region 27 with fail
            refine wp_region_held (S := fun w' => w'.rangeAt bk (off + j * 19) x.vs) (by kernel_rfl) ?_
            have HS : Hid (Y.drew.rangeAt bk (off + j * 19) x.vs) := HCY.out
            have HKD : Hid (KI w Y.drew k b g n e s aw cw a3 c3 D P) := HKY.out.later ((Below.refl _ _).drew)
            clear HCY HKY c1
            refine wpAnyH_take (i := 0) (v := .pointer (some ⟨k, 0, Option.none⟩)) rfl (by kernel_rfl) (by kernel_rfl) (by kernel_rfl) (fun _ _ _ h => h) (.inl ⟨rfl, fun w' hw' => ?_⟩) HS.out ?_
            · go_simp
            refine wpAnyH_take (i := 1) (v := .slice (some ⟨bk, off, Option.none⟩) l.length c) rfl (by kernel_rfl) (by kernel_rfl) (by kernel_rfl) (fun _ _ _ h => h) (.inl ⟨rfl, fun w' hw' => ?_⟩) HS.out ?_
            · go_simp
            refine wpAnyH_take (i := 2) (v := .int .i64 j) rfl (by kernel_rfl) (by kernel_rfl) (by kernel_rfl) (fun _ _ _ h => h) (.inl ⟨rfl, fun w' hw' => ?_⟩) HS.out ?_
            · go_simp
            (try simp [Act.put])
            refine wpAnyH_take (i := 3) (v := .pointer (some ⟨bk, off + j * 19, Option.none⟩)) rfl (by kernel_rfl) (by kernel_rfl) (by kernel_rfl) (fun _ _ _ h => h) (.inl ⟨rfl, fun w' hw' => ?_⟩) HS.out ?_
            · go_simp
            refine wpAnyH_take (i := 4) (v := .pointer (some ⟨bk, off + j * 19 + 1, Option.none⟩)) rfl (by kernel_rfl) (by kernel_rfl) (by kernel_rfl) (fun _ _ _ h => h) (.inl ⟨rfl, fun w' hw' => ?_⟩) HS.out ?_
            · go_simp
            refine wpAnyH_take (i := 5) (v := .int .i64 x.a) rfl (by kernel_rfl) (by kernel_rfl) (by kernel_rfl) (fun _ _ _ h => h) (.inl ⟨rfl, fun w' hw' => ?_⟩) HS.out ?_
            · have hc : w'.cell? ⟨bk, off + j * 19 + 1, Option.none⟩ = some (.int .i64 x.a) := hw' 1 _ rfl; go_simp
            (try simp [Act.put])
            refine wpAnyH_take (i := 6) (v := .slice (some ⟨bk, off, Option.none⟩) l.length c) rfl (by kernel_rfl) (by kernel_rfl) (by kernel_rfl) (fun _ _ _ h => h) (.inl ⟨rfl, fun w' hw' => ?_⟩) HS.out ?_
            · go_simp
            refine wpAnyH_take (i := 7) (v := .int .i64 j) rfl (by kernel_rfl) (by kernel_rfl) (by kernel_rfl) (fun _ _ _ h => h) (.inl ⟨rfl, fun w' hw' => ?_⟩) HS.out ?_
            · go_simp
            refine wpAnyH_take (i := 8) (v := .pointer (some ⟨bk, off + j * 19, Option.none⟩)) rfl (by kernel_rfl) (by kernel_rfl) (by kernel_rfl) (fun _ _ _ h => h) (.inl ⟨rfl, fun w' hw' => ?_⟩) HS.out ?_
            · go_simp
            (try simp [Act.put])
            refine wpAnyH_take (i := 9) (v := .pointer (some ⟨bk, off + j * 19 + 5, Option.none⟩)) rfl (by kernel_rfl) (by kernel_rfl) (by kernel_rfl) (fun _ _ _ h => h) (.inl ⟨rfl, fun w' hw' => ?_⟩) HS.out ?_
            · go_simp
            refine wpAnyH_take (i := 10) (v := .agg ((stA x).vs x.ra x.rc).toArray) rfl (by kernel_rfl) (by kernel_rfl) (by kernel_rfl) (fun _ _ _ h => h) (.inl ⟨rfl, fun w' hw' => ?_⟩) HS.out ?_
            · exact exec_load (load_actS HXO.out hw') rfl
            refine wpAnyH_take (i := 12) (v := .int .i64 ff) rfl (by kernel_rfl) (by kernel_rfl) (by kernel_rfl) (fun _ _ _ h => h) (.inl ⟨rfl, fun w' hw' => ?_⟩) HS.out ?_
            · go_simp
            (try simp [Act.put])
            (try simp [Act.put])
            refine wpAnyH_all (rs := [11]) (by kernel_rfl) (by simp) ?_
            intro i9 hi9
            obtain rfl : i9 = 11 := by simpa using hi9
            clear hi9
            refine wpOp_step rfl rfl ?_
            go_wp2_with fail
            refine (keep_any HKD.out.kp HL.out x.a (stA x) x.ra x.rc (act_row HXO.out) HR6.out).mono ?_
            rintro r V ⟨rfl, P4, a4, c4, hk4, hm4⟩
            rw [HKF.out]
            have hng := hm4.not HKD.out.hw.lt HKD.out.ng
            have hat := hm4.at HKD.out.hw HKD.out.ng
            have HSV : Hid (V.rangeAt bk (off + j * 19) x.vs) := fun i v hv => hm4.cell (HS.out i v hv) (fun e => by have := HKD.out.kp.above _ e; have := HBK.out; have : (⟨bk, off + j * 19 + i, Option.none⟩ : Addr).block = bk := rfl; omega)
            have hS : keepS D n e s x.a (stA x) = (e, s) := by unfold keepS; rw [HKF.out, if_neg (by first | decide | exact hf)]
            have hDD : keepD D n x.a (stA x) = D := by unfold keepD; rw [if_neg HNO.out]
            rw [hS] at hk4 hng
            rw [hDD] at hk4
            have HKZ : Hid (KI w V k b g n e s aw cw a4 c4 D P4) := ⟨hk4, HKD.out.ck, HKD.out.calm, hat, HKD.out.rw, HKD.out.g0, hng⟩
            clear hS hDD hk4 hng hat hm4 HKD HKF HNO
            clear HS
            have HS : Hid (V.rangeAt bk (off + j * 19) x.vs) := HSV.out
            clear HSV
            refine ⟨HS.out, ?_⟩
            refine wpAnyH_all (rs := [13]) (by kernel_rfl) (by simp) ?_
            intro i9 hi9
            obtain rfl : i9 = 13 := by simpa using hi9
            clear hi9
            refine wpOp_step rfl rfl ?_
            go_wp2_with fail
            refine (sameE_any ff (by first | decide | exact HFN.out) V).mono ?_
            rintro r V2 ⟨rfl, rfl⟩
            refine ⟨HS.out, ?_⟩
            refine wpAnyH_take (i := 14) (v := .bool false) rfl (by kernel_rfl) (by kernel_rfl) (by kernel_rfl) (fun _ _ _ h => h) (.inl ⟨rfl, fun w' hw' => ?_⟩) HS.out ?_
            · go_simp
            (try simp [Act.put])
            refine wpAnyH_done (by kernel_rfl) ?_ _
            (try simp [Act.put])
            clear HS
            obtain ⟨Z, hZ⟩ : ∃ Z, Z = V2 := ⟨_, rfl⟩
            rw [← hZ] at HKZ ⊢
            clear hZ
            go_upto_region 36 with fail
            refine wp_region_held (S := fun w' => At w' g ((s).vs aw cw) 37) (by kernel_rfl) ?_
            have HS : Hid (At Z.drew g ((s).vs aw cw) 37) := HKZ.out.hw
            replace HKZ := HKZ.out.later ((Below.refl _ _).drew)
            have HKX : Hid (KI w Z.drew k b g n e (s) aw cw _ _ _ _) := HKZ
            clear HKZ
            refine wpAnyH_take (i := 0) (v := .pointer (some ⟨k, 0, Option.none⟩)) rfl (by kernel_rfl) (by kernel_rfl) (by kernel_rfl) (fun _ _ _ h => h) (.inl ⟨rfl, fun w' hw' => ?_⟩) HS.out ?_
            · go_simp
            refine wpAnyH_take (i := 2) (v := .agg ((s).vs aw cw).toArray) rfl (by kernel_rfl) (by kernel_rfl) (by kernel_rfl) (fun _ _ _ h => h) (.inl ⟨rfl, fun w' hw' => ?_⟩) HS.out ?_
            · exact exec_load (load_st0 hw') rfl
            (try simp [Act.put])
            refine wpAnyH_all (rs := [1]) (by kernel_rfl) (by simp) ?_
            intro i9 hi9
            obtain rfl : i9 = 1 := by simpa using hi9
            clear hi9
            refine wpOp_step rfl rfl ?_
            go_wp2_with fail
            refine (state_any HKX.out.kp.kp).mono ?_
            rintro r X3 ⟨a5, c5, rfl, hr5, _, hb⟩
            have HR5 : Hid (Go.Proofs.YtfkmaiiainbcbaaGreatDoor.Row X3 a5 (s).l.length (s).l) := hr5
            replace HKX := HKX.out.later hb
            have HK3 : Hid (KI w X3 k b g n e (s) aw cw _ _ _ _) := HKX
            clear hr5 hb HKX HS
            have HS : Hid (At X3 g ((s).vs aw cw) 37) := HK3.out.hw
            refine ⟨HS.out, ?_⟩
            refine wpAnyH_all (rs := [3]) (by kernel_rfl) (by simp) ?_
            intro i9 hi9
            obtain rfl : i9 = 3 := by simpa using hi9
            clear hi9
            refine wpOp_step rfl rfl ?_
            go_wp2_with fail
            refine (same2_any (s) (s) a5 c5 aw cw X3 HR5.out (HK3.out.rw.later HK3.out.kp.bw)).mono ?_
            rintro r X4 ⟨b1, rfl, hb1, hb⟩
            obtain rfl := hb1 rfl
            replace HK3 := HK3.out.later hb
            have HK4 : Hid (KI w X4 k b g n e (s) aw cw _ _ _ _) := HK3
            clear hb hb1 HK3 HR5 HS
            have HS : Hid (At X4 g ((s).vs aw cw) 37) := HK4.out.hw
            refine ⟨HS.out, ?_⟩
            refine wpAnyH_take (i := 4) (v := .bool false) rfl (by kernel_rfl) (by kernel_rfl) (by kernel_rfl) (fun _ _ _ h => h) (.inl ⟨rfl, fun w' hw' => ?_⟩) HS.out ?_
            · go_simp
            refine wpAnyH_take (i := 5) (v := .bool false) rfl (by kernel_rfl) (by kernel_rfl) (by kernel_rfl) (fun _ _ _ h => h) (.inl ⟨rfl, fun w' hw' => ?_⟩) HS.out ?_
            · go_simp
            refine wpAnyH_take (i := 6) (v := .pointer (some ⟨k, 0, Option.none⟩)) rfl (by kernel_rfl) (by kernel_rfl) (by kernel_rfl) (fun _ _ _ h => h) (.inl ⟨rfl, fun w' hw' => ?_⟩) HS.out ?_
            · go_simp
            (try simp [Act.put])
            refine wpAnyH_take (i := 8) (v := .int .i64 e) rfl (by kernel_rfl) (by kernel_rfl) (by kernel_rfl) (fun _ _ _ h => h) (.inl ⟨rfl, fun w' hw' => ?_⟩) HS.out ?_
            · go_simp
            (try simp [Act.put])
            refine wpAnyH_all (rs := [7]) (by kernel_rfl) (by simp) ?_
            intro i9 hi9
            obtain rfl : i9 = 7 := by simpa using hi9
            clear hi9
            refine wpOp_stepV rfl rfl ?_
            go_wp2_with fail
            refine (epoch_any HK4.out.kp.kp).mono ?_
            rintro r X5 ⟨rfl, rfl⟩
            refine ⟨HS.out, ?_⟩
            refine wpAnyH_take (i := 9) (v := .bool false) rfl (by kernel_rfl) (by kernel_rfl) (by kernel_rfl) (fun _ _ _ h => h) (.inl ⟨rfl, fun w' hw' => ?_⟩) HS.out ?_
            · go_simp
            refine wpAnyH_take (i := 10) (v := .bool false) rfl (by kernel_rfl) (by kernel_rfl) (by kernel_rfl) (fun _ _ _ h => h) (.inl ⟨rfl, fun w' hw' => ?_⟩) HS.out ?_
            · go_simp
            (try simp [Act.put])
            refine wpAnyH_done (by kernel_rfl) ?_ _
            (try simp [Act.put])
            clear HS
            go_wp2_with fail
            go_roundw
            case rel => exact ⟨j + 1, k, e, s, aw, cw, _, _, _, _, by omega, rfl, rfl, by go_num, HK4.out⟩
            case measure => simp [intOf]; omega
        rw [hf]
        have HOK : Hid (okE x.a ∧ (stA x).f = 0) := ⟨hoe, hf⟩
        have hki2 := keepF_is (D := D) (n := n) hoe hf
        have hs2 := hsc (ktxt x.a (stA x)) (ktxt_len hoe.2 hf)
        have HKF : Hid (keepF D n x.a (stA x) = 0) := by show _ = _; rw [hki2.1]; exact hs2.1
        have HCK : Hid (Ck (keepD D n x.a (stA x)) (padS (ktxt x.a (stA x))) ∧ Calm (keepD D n x.a (stA x))) := by
          rw [hki2.2]
          refine ⟨?_, hs2.2⟩
          rcases store_ck HKY.out.ck HKY.out.kp.d.ok (ktxt x.a (stA x)) (ktxt_len hoe.2 hf) with ⟨_, h⟩ | ⟨h, _⟩
          · exact h
          · rw [hs2.1] at h; exact absurd h (by decide)
        clear hsc hoe hf hki2 hs2 HFN
        as_aux_lemma =>
          go_upto_region 27 with fail
          refine wp_region_held (S := fun w' => w'.rangeAt bk (off + j * 19) x.vs) (by kernel_rfl) ?_
          have HS : Hid (Y.drew.rangeAt bk (off + j * 19) x.vs) := HCY.out
          have HKD : Hid (KI w Y.drew k b g n e s aw cw a3 c3 D P) := HKY.out.later ((Below.refl _ _).drew)
          clear HCY HKY c1
          refine wpAnyH_take (i := 0) (v := .pointer (some ⟨k, 0, Option.none⟩)) rfl (by kernel_rfl) (by kernel_rfl) (by kernel_rfl) (fun _ _ _ h => h) (.inl ⟨rfl, fun w' hw' => ?_⟩) HS.out ?_
          · go_simp
          refine wpAnyH_take (i := 1) (v := .slice (some ⟨bk, off, Option.none⟩) l.length c) rfl (by kernel_rfl) (by kernel_rfl) (by kernel_rfl) (fun _ _ _ h => h) (.inl ⟨rfl, fun w' hw' => ?_⟩) HS.out ?_
          · go_simp
          refine wpAnyH_take (i := 2) (v := .int .i64 j) rfl (by kernel_rfl) (by kernel_rfl) (by kernel_rfl) (fun _ _ _ h => h) (.inl ⟨rfl, fun w' hw' => ?_⟩) HS.out ?_
          · go_simp
          (try simp [Act.put])
          refine wpAnyH_take (i := 3) (v := .pointer (some ⟨bk, off + j * 19, Option.none⟩)) rfl (by kernel_rfl) (by kernel_rfl) (by kernel_rfl) (fun _ _ _ h => h) (.inl ⟨rfl, fun w' hw' => ?_⟩) HS.out ?_
          · go_simp
          refine wpAnyH_take (i := 4) (v := .pointer (some ⟨bk, off + j * 19 + 1, Option.none⟩)) rfl (by kernel_rfl) (by kernel_rfl) (by kernel_rfl) (fun _ _ _ h => h) (.inl ⟨rfl, fun w' hw' => ?_⟩) HS.out ?_
          · go_simp
          refine wpAnyH_take (i := 5) (v := .int .i64 x.a) rfl (by kernel_rfl) (by kernel_rfl) (by kernel_rfl) (fun _ _ _ h => h) (.inl ⟨rfl, fun w' hw' => ?_⟩) HS.out ?_
          · have hc : w'.cell? ⟨bk, off + j * 19 + 1, Option.none⟩ = some (.int .i64 x.a) := hw' 1 _ rfl; go_simp
          (try simp [Act.put])
          refine wpAnyH_take (i := 6) (v := .slice (some ⟨bk, off, Option.none⟩) l.length c) rfl (by kernel_rfl) (by kernel_rfl) (by kernel_rfl) (fun _ _ _ h => h) (.inl ⟨rfl, fun w' hw' => ?_⟩) HS.out ?_
          · go_simp
          refine wpAnyH_take (i := 7) (v := .int .i64 j) rfl (by kernel_rfl) (by kernel_rfl) (by kernel_rfl) (fun _ _ _ h => h) (.inl ⟨rfl, fun w' hw' => ?_⟩) HS.out ?_
          · go_simp
          refine wpAnyH_take (i := 8) (v := .pointer (some ⟨bk, off + j * 19, Option.none⟩)) rfl (by kernel_rfl) (by kernel_rfl) (by kernel_rfl) (fun _ _ _ h => h) (.inl ⟨rfl, fun w' hw' => ?_⟩) HS.out ?_
          · go_simp
          (try simp [Act.put])
          refine wpAnyH_take (i := 9) (v := .pointer (some ⟨bk, off + j * 19 + 5, Option.none⟩)) rfl (by kernel_rfl) (by kernel_rfl) (by kernel_rfl) (fun _ _ _ h => h) (.inl ⟨rfl, fun w' hw' => ?_⟩) HS.out ?_
          · go_simp
          refine wpAnyH_take (i := 10) (v := .agg ((stA x).vs x.ra x.rc).toArray) rfl (by kernel_rfl) (by kernel_rfl) (by kernel_rfl) (fun _ _ _ h => h) (.inl ⟨rfl, fun w' hw' => ?_⟩) HS.out ?_
          · exact exec_load (load_actS HXO.out hw') rfl
          refine wpAnyH_take (i := 12) (v := .int .i64 0) rfl (by kernel_rfl) (by kernel_rfl) (by kernel_rfl) (fun _ _ _ h => h) (.inl ⟨rfl, fun w' hw' => ?_⟩) HS.out ?_
          · go_simp
          (try simp [Act.put])
          (try simp [Act.put])
          refine wpAnyH_all (rs := [11]) (by kernel_rfl) (by simp) ?_
          intro i9 hi9
          obtain rfl : i9 = 11 := by simpa using hi9
          clear hi9
          refine wpOp_step rfl rfl ?_
          go_wp2_with fail
          refine (keep_any HKD.out.kp HL.out x.a (stA x) x.ra x.rc (act_row HXO.out) HR6.out).mono ?_
          rintro r V ⟨rfl, P4, a4, c4, hk4, hm4⟩
          rw [HKF.out]
          have hng := hm4.not HKD.out.hw.lt HKD.out.ng
          have hat := hm4.at HKD.out.hw HKD.out.ng
          have HSV : Hid (V.rangeAt bk (off + j * 19) x.vs) := fun i v hv => hm4.cell (HS.out i v hv) (fun e => by have := HKD.out.kp.above _ e; have := HBK.out; have : (⟨bk, off + j * 19 + i, Option.none⟩ : Addr).block = bk := rfl; omega)
          have hS : keepS D n e s x.a (stA x) = (x.a, stA x) := by unfold keepS; rw [HKF.out, if_pos rfl]
          rw [hS] at hk4 hng
          have HKV : Hid (Kp w V k b n x.a (stA x) a4 c4 (keepD D n x.a (stA x)) P4 ∧ ¬ KF P4 b k a4 (stA x) g ∧ At V g (s.vs aw cw) 37 ∧ w.heap.size ≤ g) := ⟨hk4, hng, hat, HKD.out.g0⟩
          clear hS hk4 hng hat hm4 HKD HKF
          clear HS
          have HS : Hid (V.rangeAt bk (off + j * 19) x.vs) := HSV.out
          clear HSV
          refine ⟨HS.out, ?_⟩
          refine wpAnyH_all (rs := [13]) (by kernel_rfl) (by simp) ?_
          intro i9 hi9
          obtain rfl : i9 = 13 := by simpa using hi9
          clear hi9
          refine wpOp_step rfl rfl ?_
          go_wp2_with fail
          refine (sameE_any 0 (by first | decide | exact HFN.out) V).mono ?_
          rintro r V2 ⟨rfl, rfl⟩
          refine ⟨HS.out, ?_⟩
          refine wpAnyH_take (i := 14) (v := .bool false) rfl (by kernel_rfl) (by kernel_rfl) (by kernel_rfl) (fun _ _ _ h => h) (.inl ⟨rfl, fun w' hw' => ?_⟩) HS.out ?_
          · go_simp
          (try simp [Act.put])
          refine wpAnyH_done (by kernel_rfl) ?_ _
          (try simp [Act.put])
          have HLV : Hid ((Instr.loadAt 37 (.pointer (some ⟨bk, off + j * 19 + 5, Option.none⟩))).run Tryz.prog V2 = .ok (.agg ((stA x).vs x.ra x.rc).toArray) V2) := load_actS HXO.out HS.out
          have c1V : V2.cell? ⟨bk, off + j * 19 + 1, Option.none⟩ = some (.int .i64 x.a) := HS.out 1 _ rfl
          obtain ⟨Z, hst, A1, hm⟩ := putS (stA x) x.ra x.rc HKV.out.2.2.1 (by simp [KS.vs])
          have HST : Hid ((Instr.storeAt 37 (.pointer (some ⟨g, 0, Option.none⟩)) (.agg ((stA x).vs x.ra x.rc).toArray)).run Tryz.prog V2 = .ok () Z) := hst
          have HNG : Hid (bk ≠ g) := by show _ ≠ _; have := HKV.out.2.2.2; have := HBK.out; omega
          have c1Z : Z.cell? ⟨bk, off + j * 19 + 1, Option.none⟩ = some (.int .i64 x.a) := hm.cell c1V HNG.out
          have HKZ : Hid (KI w Z k b g n x.a (stA x) x.ra x.rc a4 c4 (keepD D n x.a (stA x)) P4) :=
            ⟨HKV.out.1.moved hm (fun q hq => by rw [show q = g from hq]; exact HKV.out.2.1) (fun q hq => by rw [show q = g from hq]; exact HKV.out.2.2.2), HCK.out.1, HCK.out.2, A1, act_row HXO.out, HKV.out.2.2.2, HKV.out.2.1⟩
          clear HS hst A1 hm HKV c1V
          go_upto_region 36 with (first | with_reducible refine wl_store HST.out rfl rfl ?_ | with_reducible refine wl_load HLV.out rfl rfl ?_)
          clear HST HLV c1Z HNG
          refine wp_region_held (S := fun w' => At w' g ((stA x).vs x.ra x.rc) 37) (by kernel_rfl) ?_
          have HS : Hid (At Z.drew g ((stA x).vs x.ra x.rc) 37) := HKZ.out.hw
          replace HKZ := HKZ.out.later ((Below.refl _ _).drew)
          have HKX : Hid (KI w Z.drew k b g n x.a (stA x) x.ra x.rc _ _ _ _) := HKZ
          clear HKZ
          refine wpAnyH_take (i := 0) (v := .pointer (some ⟨k, 0, Option.none⟩)) rfl (by kernel_rfl) (by kernel_rfl) (by kernel_rfl) (fun _ _ _ h => h) (.inl ⟨rfl, fun w' hw' => ?_⟩) HS.out ?_
          · go_simp
          refine wpAnyH_take (i := 2) (v := .agg ((stA x).vs x.ra x.rc).toArray) rfl (by kernel_rfl) (by kernel_rfl) (by kernel_rfl) (fun _ _ _ h => h) (.inl ⟨rfl, fun w' hw' => ?_⟩) HS.out ?_
          · exact exec_load (load_st0 hw') rfl
          (try simp [Act.put])
          refine wpAnyH_all (rs := [1]) (by kernel_rfl) (by simp) ?_
          intro i9 hi9
          obtain rfl : i9 = 1 := by simpa using hi9
          clear hi9
          refine wpOp_step rfl rfl ?_
          go_wp2_with fail
          refine (state_any HKX.out.kp.kp).mono ?_
          rintro r X3 ⟨a5, c5, rfl, hr5, _, hb⟩
          have HR5 : Hid (Go.Proofs.YtfkmaiiainbcbaaGreatDoor.Row X3 a5 (stA x).l.length (stA x).l) := hr5
          replace HKX := HKX.out.later hb
          have HK3 : Hid (KI w X3 k b g n x.a (stA x) x.ra x.rc _ _ _ _) := HKX
          clear hr5 hb HKX HS
          have HS : Hid (At X3 g ((stA x).vs x.ra x.rc) 37) := HK3.out.hw
          refine ⟨HS.out, ?_⟩
          refine wpAnyH_all (rs := [3]) (by kernel_rfl) (by simp) ?_
          intro i9 hi9
          obtain rfl : i9 = 3 := by simpa using hi9
          clear hi9
          refine wpOp_step rfl rfl ?_
          go_wp2_with fail
          refine (same2_any (stA x) (stA x) a5 c5 x.ra x.rc X3 HR5.out (HK3.out.rw.later HK3.out.kp.bw)).mono ?_
          rintro r X4 ⟨b1, rfl, hb1, hb⟩
          obtain rfl := hb1 rfl
          replace HK3 := HK3.out.later hb
          have HK4 : Hid (KI w X4 k b g n x.a (stA x) x.ra x.rc _ _ _ _) := HK3
          clear hb hb1 HK3 HR5 HS
          have HS : Hid (At X4 g ((stA x).vs x.ra x.rc) 37) := HK4.out.hw
          refine ⟨HS.out, ?_⟩
          refine wpAnyH_take (i := 4) (v := .bool false) rfl (by kernel_rfl) (by kernel_rfl) (by kernel_rfl) (fun _ _ _ h => h) (.inl ⟨rfl, fun w' hw' => ?_⟩) HS.out ?_
          · go_simp
          refine wpAnyH_take (i := 5) (v := .bool false) rfl (by kernel_rfl) (by kernel_rfl) (by kernel_rfl) (fun _ _ _ h => h) (.inl ⟨rfl, fun w' hw' => ?_⟩) HS.out ?_
          · go_simp
          refine wpAnyH_take (i := 6) (v := .pointer (some ⟨k, 0, Option.none⟩)) rfl (by kernel_rfl) (by kernel_rfl) (by kernel_rfl) (fun _ _ _ h => h) (.inl ⟨rfl, fun w' hw' => ?_⟩) HS.out ?_
          · go_simp
          (try simp [Act.put])
          refine wpAnyH_take (i := 8) (v := .int .i64 x.a) rfl (by kernel_rfl) (by kernel_rfl) (by kernel_rfl) (fun _ _ _ h => h) (.inl ⟨rfl, fun w' hw' => ?_⟩) HS.out ?_
          · go_simp
          (try simp [Act.put])
          refine wpAnyH_all (rs := [7]) (by kernel_rfl) (by simp) ?_
          intro i9 hi9
          obtain rfl : i9 = 7 := by simpa using hi9
          clear hi9
          refine wpOp_stepV rfl rfl ?_
          go_wp2_with fail
          refine (epoch_any HK4.out.kp.kp).mono ?_
          rintro r X5 ⟨rfl, rfl⟩
          refine ⟨HS.out, ?_⟩
          refine wpAnyH_take (i := 9) (v := .bool false) rfl (by kernel_rfl) (by kernel_rfl) (by kernel_rfl) (fun _ _ _ h => h) (.inl ⟨rfl, fun w' hw' => ?_⟩) HS.out ?_
          · go_simp
          refine wpAnyH_take (i := 10) (v := .bool false) rfl (by kernel_rfl) (by kernel_rfl) (by kernel_rfl) (fun _ _ _ h => h) (.inl ⟨rfl, fun w' hw' => ?_⟩) HS.out ?_
          · go_simp
          (try simp [Act.put])
          refine wpAnyH_done (by kernel_rfl) ?_ _
          (try simp [Act.put])
          clear HS
          go_wp2_with fail
          go_roundw
          case rel => exact ⟨j + 1, k, x.a, stA x, x.ra, x.rc, _, _, _, _, by omega, rfl, rfl, by go_num, HK4.out⟩
          case measure => simp [intOf]; omega
    · obtain rfl : j = l.length := by omega
      have hlf : ¬ ((l.length : Int) < (l.length : Int)) := by omega
      go_wp2
      go_ret
      exact ⟨rfl, HK.out.kp.bw⟩
end Go.Proofs.YtfkmaiiainbcbaaGreatDoor.D
